/-
  SEVERAL TEXTS IN ONE.
-/
import Derived.Test.YtcnbccjkcaoflaaMakeRoad
import Derived.Test.YtcnbccjkcaoflaaTail
import Derived.Test.YtcnbccjkcaoflaaArrEq
import Derived.Test.YtcnbccjkcaoflaaRoadS
import Derived.Test.YtcnbccjkcaoflaaBytes

/-
  CONTRACTS: a road's numbers that hold for all its cells, as bits.
-/
namespace Go.Proofs.Ytcnbccjkcaoflaa
open Go Go.RowKit

end Go.Proofs.Ytcnbccjkcaoflaa

/-
  CONTRACTS: a road's shares, as bits.
-/
namespace Go.Proofs.Ytcnbccjkcaoflaa
open Go Go.RowKit

theorem nth_map {cs : List Nat} (f : Nat → Nat) {k : Nat} (h : k < cs.length) : nth (cs.map f) k = f (nth cs k) := by
  simp [nth, List.getD, List.getElem?_map, List.getElem?_eq_getElem h]

end Go.Proofs.Ytcnbccjkcaoflaa

/-
  CONTRACTS: SameRoad, the program's.
-/
namespace Go.Proofs.Ytcnbccjkcaoflaa
open Go Go.RowKit

/-- a part of a row, in whatever world of the class -/
theorem q_piece {P : Program} {W : World} {o : Oper} {a : Act} {K : Act → Prop} {g : Nat} {c : Array Value} {T : TypeId} (ty : TypeId) (x : Operand) (ho : o.op = .load ty x) (hx : a.eval x = .pointer (some ⟨g, 0, none⟩)) (hA : At W g c T) (n : Nat) (hn : 0 + n ≤ c.size) (d : TypeDesc)
    (hu : P.underlying ty = some d) (hd : (match d with | .struct _ | .array _ _ => true | _ => false) = true) (hi : (P.info? ty).map (·.size) = some n) (c' : Array Value) (hc : c.extract 0 n = c') (hK : K (a.put o.dst (.agg c'))) : o.quiet P a (Cb W) K :=
  q_load ty x ho _ hx (.agg c') (fun w hw => by
    have := run_loadAt_part (P := P) w g 0 n ty c T (0, 0) d (At.step hA hw) hu hd hi hn
    rw [Nat.zero_add, hc] at this
    exact this) hK

def sameR (cs : List Nat) (p b l : Nat) (es : List Nat) (q c m : Nat) : Bool := decide (cs.map nbits = es.map nbits) && decide (nbits p = nbits q ∧ nbits b = nbits c ∧ nbits l = nbits m)

end Go.Proofs.Ytcnbccjkcaoflaa

/-
  CONTRACTS: SameRoad, the model's.
-/
namespace Go.Proofs.Ytcnbccjkcaoflaa
open Go Go.RowKit

theorem sameB_dec (a b : Nat) : decide (nbits a = nbits b) = sameB a b := by
  rw [← sameB_nbits]
  by_cases h : nbits a = nbits b
  · simp [h]
  · have : ¬ ((nbits a : Nat) : Int) = ((nbits b : Nat) : Int) := by omega
    simp [h, this]

theorem same_no {cs es : List Nat} (p b l q c m : Nat) (hl : cs.length = 16) (hl' : es.length = 16) {k : Nat} (hk : k < 16) (h : sameB (nth cs k) (nth es k) = false) : sameR cs p b l es q c m = false := by
  unfold sameR
  rw [decide_eq_false, Bool.false_and]
  intro e
  have h1 := nth_map nbits (cs := cs) (k := k) (by omega)
  have h2 := nth_map nbits (cs := es) (k := k) (by omega)
  rw [e, h2] at h1
  rw [← sameB_dec] at h
  exact of_decide_eq_false h h1.symm

theorem same_all {cs es : List Nat} (p b l q c m : Nat) (hl : cs.length = 16) (hl' : es.length = 16) (h : ∀ k, k < 16 → sameB (nth cs k) (nth es k) = true) : sameR cs p b l es q c m = (sameB p q && (sameB b c && sameB l m)) := by
  have e : cs.map nbits = es.map nbits := by
    have := (all_eq_iff (xs := cs.map nbits) (ys := es.map nbits) (by simp [hl, hl'])).symm
    rw [Bool.eq_iff_iff] at this
    refine of_decide_eq_true (this.2 ?_)
    rw [List.all_eq_true]
    intro i hi
    have hi' : i < 16 := by simpa [List.mem_range'_1, hl] using hi
    rw [nth_map nbits (by omega), nth_map nbits (by omega), sameB_dec]
    exact h i hi'
  unfold sameR
  rw [decide_eq_true e, Bool.true_and, ← sameB_dec, ← sameB_dec, ← sameB_dec, Bool.decide_and, Bool.decide_and]

end Go.Proofs.Ytcnbccjkcaoflaa

/-
  CONTRACTS: what the drawn laws of the chapters 1 and 2 ask of their bytes.
-/
namespace Go.Proofs.Ytcnbccjkcaoflaa
open Go Go.RowKit
set_option maxRecDepth 100000

theorem a2Long_any (a a' : Option Addr) (n c n' c' : Nat) (w : World) :
    Calls Try.prog 4 #[.slice a n c, .slice a' n' c'] w fun e w' => ∃ B : Bool, e = .returned (.bool B) ∧ w' = w := by
  by_cases h1 : 3000 < n
  · have k1 : decide ((3000 : Int) < (n : Int)) = true := decide_eq_true (by omega)
    go_enter Try.func4, Try.ntmps4
    go_wp2
    go_ret
    exact ⟨true, rfl, by trivial⟩
  · have k1 : decide ((3000 : Int) < (n : Int)) = false := decide_eq_false (by omega)
    by_cases h2 : 3000 < n'
    · have k2 : decide ((3000 : Int) < (n' : Int)) = true := decide_eq_true (by omega)
      go_enter Try.func4, Try.ntmps4
      go_wp2
      go_ret
      exact ⟨true, rfl, by trivial⟩
    · have k2 : decide ((3000 : Int) < (n' : Int)) = false := decide_eq_false (by omega)
      go_enter Try.func4, Try.ntmps4
      go_wp2
      go_ret
      exact ⟨false, rfl, by trivial⟩

theorem sameR_self (cs : List Nat) (p b l : Nat) : sameR cs p b l cs p b l = true := by unfold sameR; simp

end Go.Proofs.Ytcnbccjkcaoflaa
