/-
  CONTRACTS: tables of a crossing, as lists; rows of eight whole numbers.
-/
import Derived.Test.YtkhnhbmnmciiaaaWay2
import Derived.Test.YtkhnhbmnmciiaaaIl
import Derived.Test.YtkhnhbmnmciiaaaToTab
namespace Go.Proofs.Ytkhnhbmnmciiaaa
open Go Go.ChangeShapes Go.WideShapes Go.ChangeAt Go.RowKit
set_option maxRecDepth 100000

/-- way i is as it must be -/
def wyOk (fs ts : List Int) (n : Int) (i : Nat) : Bool := if (i : Int) < n then wayB (ith fs i) (ith ts i) else decide (ith fs i = 0 ∧ ith ts i = 0)
def wsOk (fs ts : List Int) (n : Int) : Nat → Bool
  | 0 => true
  | k + 1 => wsOk fs ts n k && wyOk fs ts n k
def awB (fs ts : List Int) (n : Int) : Bool := inB 0 8 n && wsOk fs ts n 8
theorem wsOk_no {fs ts : List Int} {n : Int} : ∀ {m k : Nat}, k < m → wyOk fs ts n k = false → wsOk fs ts n m = false
  | 0, k, h, _ => by omega
  | m + 1, k, h, e => by
    unfold wsOk
    by_cases c : k = m
    · subst c; rw [e, Bool.and_false]
    · rw [wsOk_no (by omega : k < m) e, Bool.false_and]
theorem wsOk_at {fs ts : List Int} {n : Int} : ∀ {m k : Nat}, k < m → wsOk fs ts n m = true → wyOk fs ts n k = true
  | 0, k, h, _ => by omega
  | m + 1, k, h, e => by
    unfold wsOk at e
    rw [Bool.and_eq_true] at e
    by_cases c : k = m
    · subst c; exact e.2
    · exact wsOk_at (by omega) e.1
theorem wsOk_next {fs ts : List Int} {n : Int} {k : Nat} (h : wsOk fs ts n k = true) (e : wyOk fs ts n k = true) : wsOk fs ts n (k + 1) = true := by unfold wsOk; rw [h, e]; rfl
theorem awB_n {fs ts : List Int} {n : Int} (h : ¬ (0 ≤ n ∧ n ≤ 8)) : awB fs ts n = false := by unfold awB inB; rw [decide_eq_false h]; rfl
theorem awB_w {fs ts : List Int} {n : Int} (h : 0 ≤ n ∧ n ≤ 8) : awB fs ts n = wsOk fs ts n 8 := by unfold awB inB; rw [decide_eq_true h]; rfl
theorem awB_no {fs ts : List Int} {n : Int} {k : Nat} (hk : k < 8) (h : wyOk fs ts n k = false) : awB fs ts n = false := by unfold awB; rw [wsOk_no hk h, Bool.and_false]
/-- a table filled up to row i, column k -/
def fT (n : Nat) (m : Nat → Nat → Bool) (i k : Nat) : List Bool := (List.range 64).map fun j => decide (j / 8 < i ∨ (j / 8 = i ∧ j % 8 < k)) && (decide (j % 8 < n) && m (j / 8) (j % 8))
theorem fT_len (n : Nat) (m : Nat → Nat → Bool) (i k : Nat) : (fT n m i k).length = 64 := by simp [fT]
theorem fT_zero (n : Nat) (m : Nat → Nat → Bool) : fT n m 0 0 = noes 64 := by
  apply List.ext_getElem (by simp [fT, noes])
  intro j h1 h2
  simp only [fT, noes, List.getElem_map, List.getElem_range, List.getElem_replicate]
  rw [decide_eq_false (by omega), Bool.false_and]
theorem fT_set {n : Nat} {m : Nat → Nat → Bool} {i k : Nat} (_hi : i < 8) (hk : k < n) (hn : n ≤ 8) : (fT n m i k).set (i * 8 + k) (m i k) = fT n m i (k + 1) := by
  apply List.ext_getElem (by simp [fT])
  intro j h1 h2
  simp only [fT, List.getElem_set, List.getElem_map, List.getElem_range]
  split
  · rename_i h
    have e1 : j / 8 = i := by omega
    have e2 : j % 8 = k := by omega
    rw [e1, e2]
    simp [hk]
  · rename_i h
    congr 1
    apply decide_eq_decide.2
    omega
theorem fT_row {n : Nat} {m : Nat → Nat → Bool} {i : Nat} : fT n m i n = fT n m (i + 1) 0 := by
  apply List.ext_getElem (by simp [fT])
  intro j h1 h2
  simp only [fT, List.getElem_map, List.getElem_range]
  by_cases c : j % 8 < n
  · congr 1
    apply decide_eq_decide.2
    omega
  · rw [decide_eq_false c]; simp
def mfn (fs ts : List Int) (i k : Nat) : Bool := mtB (ith fs i) (ith ts i) (ith fs k) (ith ts k)
/-- the table of a crossing, and the code -/
def vCt (fs ts : List Int) (n : Int) : List Bool × Int := if awB fs ts n then (fT n.toNat (mfn fs ts) n.toNat 0, 0) else (noes 64, 2)
theorem vCt_no {fs ts : List Int} {n : Int} (h : awB fs ts n = false) : vCt fs ts n = (noes 64, 2) := by unfold vCt; rw [h]; rfl
theorem vCt_yes {fs ts : List Int} {n : Nat} (h : awB fs ts n = true) : vCt fs ts n = (fT n (mfn fs ts) n 0, 0) := by unfold vCt; rw [if_pos h]; rfl
theorem vCt_len (fs ts : List Int) (n : Int) : (vCt fs ts n).1.length = 64 := by
  unfold vCt
  split
  · exact fT_len _ _ _ _
  · exact noes_len 64

theorem toInt64A8_any (ys : List Int) (hl : ys.length = 8) (w : World) :
    Calls Try.prog 19 #[.agg (il ys)] w fun e w' => e = .returned (.agg (il ys)) ∧ Below w.heap.size w w' := by
  go_enter Try.func19, Try.ntmps19
  go_wp2
  go_loopw [4] (fun i wr => ∃ k : Nat, k ≤ 8 ∧ i = .int .i64 k ∧ wr = (((w.alloc (.cells (il ys) 28)).alloc (.cells (il (iz 8)) 28)).alloc (.cells (il (cpI 8 ys k)) 28))) (fun i _ => 8 - (intOf i).toNat)
  case atStart => exact ⟨0, by omega, rfl, rfl⟩
  case round =>
    obtain ⟨k, hk, rfl, rfl⟩ := hrel
    by_cases hlt : k < 8
    · have g1 := il_get (xs := ys) (k := k) (by omega)
      have g3 := il_get (xs := cpI 8 ys k) (k := k) (by rw [cpI_len hl k hk]; exact hlt)
      go_wp2
      exact ⟨⟨k + 1, by omega, by go_num, by rw [il_set, cpI_set hl hlt]⟩, by simp [intOf]; omega⟩
    · obtain rfl : k = 8 := by omega
      rw [cpI_all hl]
      have R0 : At (((w.alloc (.cells (il ys) 28)).alloc (.cells (il (iz 8)) 28)).alloc (.cells (il ys) 28)) (w.heap.size + 1) (il (iz 8)) 28 := (At.last1 w _ _ _).alloc _
      have L0 : At (((w.alloc (.cells (il ys) 28)).alloc (.cells (il (iz 8)) 28)).alloc (.cells (il ys) 28)) (w.heap.size + 1 + 1) (il ys) 28 := by
        have := At.new ((w.alloc (.cells (il ys) 28)).alloc (.cells (il (iz 8)) 28)) (il ys) 28
        rwa [World.size_alloc, World.size_alloc] at this
      have B0 := Lib.hid (bnew (bnew (b0 w (.cells (il ys) 28)) (.cells (il (iz 8)) 28)) (.cells (il ys) 28))
      generalize (((w.alloc (.cells (il ys) 28)).alloc (.cells (il (iz 8)) 28)).alloc (.cells (il ys) 28)) = w1 at R0 L0 B0 ⊢
      have R9 := R0.setRow (il ys)
      have B9 := Lib.hid (bset B0.out (g := w.heap.size + 1) (by omega) (il ys))
      go_wp2_with (first | ((with_reducible refine is_load 28 _ rfl ?_); refine wpList_load_at rfl 28 _ rfl _ rfl (il ys) _ (by with_reducible assumption) 8 (by rw [il_size, hl]) _ Try.underlying28 rfl (by kernel_rfl) ?_) | ((with_reducible refine is_store 28 _ _ rfl ?_); refine wpList_store_at rfl 28 _ _ rfl _ rfl (il ys) rfl (il (iz 8)) _ (by with_reducible assumption) 8 (by rw [il_size, hl]) (by rw [il_size, iz_len]) (by kernel_rfl) (il_one _) ?_))
      exact bodyPost_ret (v := .agg (il ys)) (results_at (p := 2) (ty := 28) rfl _ _ _ (il ys) _ rfl R9 _ Try.underlying28 rfl 8 (by rw [il_size, hl]) (by kernel_rfl)) rfl ⟨rfl, B9.out⟩

end Go.Proofs.Ytkhnhbmnmciiaaa
