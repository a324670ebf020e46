/-
  CONTRACTS: rows of four numbers, a law's made the program's, and held against each other.
-/
import Derived.Test.YthljppdkplkohaaEq
import Derived.Test.YthljppdkplkohaaMix
import Derived.Test.YthljppdkplkohaaQuiet
namespace Go.Proofs.Ythljppdkplkohaa
open Go Go.RowKit
set_option maxRecDepth 100000

/-- what a copy of n places has after k places -/
def cpN (n : Nat) (ys : List Nat) (k : Nat) : List Nat := ys.take k ++ List.replicate (n - k) 0
theorem cpN_len {n : Nat} {ys : List Nat} (h : ys.length = n) (k : Nat) (hk : k ≤ n) : (cpN n ys k).length = n := by simp [cpN, h]; omega
theorem cpN_set {n : Nat} {ys : List Nat} (h : ys.length = n) {k : Nat} (hk : k < n) : (cpN n ys k).set k (nth ys k) = cpN n ys (k + 1) := by
  unfold cpN nth
  rw [List.set_append_right _ _ (by simp; omega), List.take_succ_eq_append_getElem (by omega), List.getD_eq_getElem?_getD, List.getElem?_eq_getElem (by omega)]
  rw [show k - (List.take k ys).length = 0 from by simp; omega, show n - k = (n - (k + 1)) + 1 from by omega, List.replicate_succ, List.append_assoc]
  rfl
theorem cpN_all {n : Nat} {ys : List Nat} (h : ys.length = n) : cpN n ys n = ys := by simp [cpN, ← h]

/-- the same number: two NaNs, or one number -/
def Agr (x y : Nat) : Prop := x < 4294967296 ∧ y < 4294967296 ∧ (nanB x = true ∧ nanB y = true ∨ nanB x = false ∧ y = x)

end Go.Proofs.Ythljppdkplkohaa
