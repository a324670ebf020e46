/-
  SEVERAL TEXTS IN ONE.
-/
import Derived.Test.YthljppdkplkohaaG2
import Derived.Test.YthljppdkplkohaaOneCell
import Derived.Test.YthljppdkplkohaaLaw
import Derived.Test.YthljppdkplkohaaG4

/-
  CONTRACTS: a law's junction made the program's; two junctions held against each other; the shape of a junction.
-/
namespace Go.Proofs.Ythljppdkplkohaa
open Go Go.RowKit
set_option maxRecDepth 100000

theorem zlit : (#[.int .i64 0, .int .i64 0, .float .f32 0, .float .f32 0, .float .f32 0, .float .f32 0, .float .f32 0, .float .f32 0, .float .f32 0, .float .f32 0, .float .f32 0, .float .f32 0, .float .f32 0, .float .f32 0, .float .f32 0, .float .f32 0, .float .f32 0, .float .f32 0, .float .f32 0, .float .f32 0, .float .f32 0, .float .f32 0] : Array Value) = jn 0 0 (zeros 16) (zeros 4) := rfl

end Go.Proofs.Ythljppdkplkohaa

/-
  CONTRACTS: SetPrior.
-/
namespace Go.Proofs.Ythljppdkplkohaa
open Go Go.RowKit
set_option maxRecDepth 100000

def vSetPrior (i o : Int) (ts ps : List Nat) (k : Int) (x : Nat) : Int × Int × List Nat × List Nat × Int :=
  if okJ i o ts ps then (if decide (0 ≤ k ∧ k < i) && priB x then (i, o, ts, ps.set k.toNat x, 0) else (0, 0, zeros 16, zeros 4, 2)) else (0, 0, zeros 16, zeros 4, 1)

theorem okJ_arms {i o : Int} {ts ps : List Nat} (h : okJ i o ts ps = true) : (1 ≤ i ∧ i ≤ 4) ∧ 1 ≤ o ∧ o ≤ 4 := by
  unfold okJ inB at h; simp at h; exact ⟨h.1.1.1, h.1.1.2⟩

theorem okJ_turns {i o : Int} {ts ps : List Nat} (hl : ts.length = 16) (h : okJ i o ts ps = true) : ∀ x ∈ ts, x ≤ 1065353216 := by
  intro x hx
  rw [okJ_model] at h
  have hr : rowsSTo i o ts ps 4 = true := by simp at h; exact h.2
  obtain ⟨q, hq, rfl⟩ := List.mem_iff_getElem.1 hx
  have h1 : rowS i o ts ps (q / 4) = true := List.all_eq_true.1 hr _ (by simp; omega)
  have h2 : cellsTo i o (q / 4) (row4 ts (q / 4)) 4 = true := by unfold rowS at h1; simp at h1; exact h1.1
  have h3 := cellsTo_shr (n := q % 4) (by omega) h2
  rw [row4_nth hl _ (by omega), Nat.div_add_mod] at h3
  unfold nth at h3
  rwa [List.getD_eq_getElem?_getD, List.getElem?_eq_getElem hq, Option.getD_some] at h3

theorem okJ_priors {i o : Int} {ts ps : List Nat} (hl : ps.length = 4) (h : okJ i o ts ps = true) : ∀ x ∈ ps, x < 2139095040 := by
  intro x hx
  have ha : amtTo i ps 4 = true := by unfold okJ at h; simp at h; exact h.1.2
  obtain ⟨q, hq, rfl⟩ := List.mem_iff_getElem.1 hx
  have h1 := amtTo_at (k := q) (by omega) ha
  unfold amtA amtB nth at h1
  rw [List.getD_eq_getElem?_getD, List.getElem?_eq_getElem hq, Option.getD_some] at h1
  simp at h1
  exact h1.1

theorem zeros_good (n : Nat) : ∀ x ∈ zeros n, x < 4294967296 ∧ nanB x = false := fun x hx => by obtain rfl := List.eq_of_mem_replicate hx; decide

theorem vSetPrior_good {i o : Int} {ts ps : List Nat} (hlt : ts.length = 16) (hlp : ps.length = 4) (k : Int) (x : Nat) :
    (vSetPrior i o ts ps k x).2.2.1.length = 16 ∧ (vSetPrior i o ts ps k x).2.2.2.1.length = 4 ∧ (∀ y ∈ (vSetPrior i o ts ps k x).2.2.1, y < 4294967296 ∧ nanB y = false) ∧ ∀ y ∈ (vSetPrior i o ts ps k x).2.2.2.1, y < 4294967296 ∧ nanB y = false := by
  unfold vSetPrior
  split
  · rename_i h
    split
    · rename_i h2
      simp at h2
      have hp := priB_amt h2.2
      exact ⟨hlt, by simp [hlp], fun y hy => nan_le (okJ_turns hlt h y hy) (by omega), fun y hy => by
        rcases List.mem_or_eq_of_mem_set hy with hy | rfl
        · exact nan_le (Nat.le_of_lt (okJ_priors hlp h y hy)) (by omega)
        · exact nan_le hp.2 (by omega)⟩
    · exact ⟨zeros_len _, zeros_len _, zeros_good _, zeros_good _⟩
  · exact ⟨zeros_len _, zeros_len _, zeros_good _, zeros_good _⟩

end Go.Proofs.Ythljppdkplkohaa
