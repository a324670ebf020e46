/-
  CONTRACTS: tables of a crossing, as lists; rows of eight whole numbers.
-/
import Derived.Test.YtboahhipobcababWay2
import Derived.Test.YtboahhipobcababIl
import Derived.Test.YtboahhipobcababToTab
namespace Go.Proofs.Ytboahhipobcabab
open Go Go.ChangeShapes Go.WideShapes Go.ChangeAt Go.RowKit
set_option maxRecDepth 100000

/-- way i is as it must be -/
def wyOk (fs ts : List Int) (n : Int) (i : Nat) : Bool := if (i : Int) < n then wayB (ith fs i) (ith ts i) else decide (ith fs i = 0 ∧ ith ts i = 0)
def wsOk (fs ts : List Int) (n : Int) : Nat → Bool
  | 0 => true
  | k + 1 => wsOk fs ts n k && wyOk fs ts n k
def awB (fs ts : List Int) (n : Int) : Bool := inB 0 8 n && wsOk fs ts n 8
theorem wsOk_no {fs ts : List Int} {n : Int} : ∀ {m k : Nat}, k < m → wyOk fs ts n k = false → wsOk fs ts n m = false
  | 0, k, h, _ => by omega
  | m + 1, k, h, e => by
    unfold wsOk
    by_cases c : k = m
    · subst c; rw [e, Bool.and_false]
    · rw [wsOk_no (by omega : k < m) e, Bool.false_and]
theorem wsOk_at {fs ts : List Int} {n : Int} : ∀ {m k : Nat}, k < m → wsOk fs ts n m = true → wyOk fs ts n k = true
  | 0, k, h, _ => by omega
  | m + 1, k, h, e => by
    unfold wsOk at e
    rw [Bool.and_eq_true] at e
    by_cases c : k = m
    · subst c; exact e.2
    · exact wsOk_at (by omega) e.1
theorem wsOk_next {fs ts : List Int} {n : Int} {k : Nat} (h : wsOk fs ts n k = true) (e : wyOk fs ts n k = true) : wsOk fs ts n (k + 1) = true := by unfold wsOk; rw [h, e]; rfl
theorem awB_n {fs ts : List Int} {n : Int} (h : ¬ (0 ≤ n ∧ n ≤ 8)) : awB fs ts n = false := by unfold awB inB; rw [decide_eq_false h]; rfl
theorem awB_w {fs ts : List Int} {n : Int} (h : 0 ≤ n ∧ n ≤ 8) : awB fs ts n = wsOk fs ts n 8 := by unfold awB inB; rw [decide_eq_true h]; rfl
theorem awB_no {fs ts : List Int} {n : Int} {k : Nat} (hk : k < 8) (h : wyOk fs ts n k = false) : awB fs ts n = false := by unfold awB; rw [wsOk_no hk h, Bool.and_false]
/-- a table filled up to row i, column k -/
def fT (n : Nat) (m : Nat → Nat → Bool) (i k : Nat) : List Bool := (List.range 64).map fun j => decide (j / 8 < i ∨ (j / 8 = i ∧ j % 8 < k)) && (decide (j % 8 < n) && m (j / 8) (j % 8))
theorem fT_len (n : Nat) (m : Nat → Nat → Bool) (i k : Nat) : (fT n m i k).length = 64 := by simp [fT]
theorem fT_zero (n : Nat) (m : Nat → Nat → Bool) : fT n m 0 0 = noes 64 := by
  apply List.ext_getElem (by simp [fT, noes])
  intro j h1 h2
  simp only [fT, noes, List.getElem_map, List.getElem_range, List.getElem_replicate]
  rw [decide_eq_false (by omega), Bool.false_and]
theorem fT_set {n : Nat} {m : Nat → Nat → Bool} {i k : Nat} (_hi : i < 8) (hk : k < n) (hn : n ≤ 8) : (fT n m i k).set (i * 8 + k) (m i k) = fT n m i (k + 1) := by
  apply List.ext_getElem (by simp [fT])
  intro j h1 h2
  simp only [fT, List.getElem_set, List.getElem_map, List.getElem_range]
  split
  · rename_i h
    have e1 : j / 8 = i := by omega
    have e2 : j % 8 = k := by omega
    rw [e1, e2]
    simp [hk]
  · rename_i h
    congr 1
    apply decide_eq_decide.2
    omega
theorem fT_row {n : Nat} {m : Nat → Nat → Bool} {i : Nat} : fT n m i n = fT n m (i + 1) 0 := by
  apply List.ext_getElem (by simp [fT])
  intro j h1 h2
  simp only [fT, List.getElem_map, List.getElem_range]
  by_cases c : j % 8 < n
  · congr 1
    apply decide_eq_decide.2
    omega
  · rw [decide_eq_false c]; simp
def mfn (fs ts : List Int) (i k : Nat) : Bool := mtB (ith fs i) (ith ts i) (ith fs k) (ith ts k)
/-- the table of a crossing, and the code -/
def vCt (fs ts : List Int) (n : Int) : List Bool × Int := if awB fs ts n then (fT n.toNat (mfn fs ts) n.toNat 0, 0) else (noes 64, 2)
theorem vCt_no {fs ts : List Int} {n : Int} (h : awB fs ts n = false) : vCt fs ts n = (noes 64, 2) := by unfold vCt; rw [h]; rfl
theorem vCt_yes {fs ts : List Int} {n : Nat} (h : awB fs ts n = true) : vCt fs ts n = (fT n (mfn fs ts) n 0, 0) := by unfold vCt; rw [if_pos h]; rfl
theorem vCt_len (fs ts : List Int) (n : Int) : (vCt fs ts n).1.length = 64 := by
  unfold vCt
  split
  · exact fT_len _ _ _ _
  · exact noes_len 64

end Go.Proofs.Ytboahhipobcabab
