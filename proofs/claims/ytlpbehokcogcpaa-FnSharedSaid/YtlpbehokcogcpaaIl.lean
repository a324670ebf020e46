/-
  ROWS OF WHOLE NUMBERS IN MEMORY.
  No Go text in it. Conditions: those of each theorem.
-/
import Derived.Test.YtlpbehokcogcpaaAt
namespace Go.Proofs.Ytlpbehokcogcpaa
open Go Go.RowKit

/-- the number at a place (0 behind the end) -/
def ith (xs : List Int) (k : Nat) : Int := xs.getD k 0
/-- a row of whole numbers -/
def il (xs : List Int) : Array Value := (xs.map (Value.int .i64)).toArray
theorem il_size (xs : List Int) : (il xs).size = xs.length := by simp [il]
theorem il_get {xs : List Int} {k : Nat} (h : k < xs.length) : (il xs)[k]? = some (.int .i64 (ith xs k)) := by
  simp [il, ith, List.getElem?_map, List.getElem?_eq_getElem h, List.getD]
theorem il_set (xs : List Int) (k : Nat) (x : Int) : (il xs).setIfInBounds k (.int .i64 x) = il (xs.set k x) := by
  apply Array.ext'
  simp [il]
theorem il_one (xs : List Int) : (il xs).all (·.oneCell') = true := by
  simp only [il, List.all_toArray, List.all_map]
  rw [List.all_eq_true]
  intro x _
  rfl
def iz (n : Nat) : List Int := List.replicate n 0
theorem iz_len (n : Nat) : (iz n).length = n := by simp [iz]
def cpI (n : Nat) (ys : List Int) (k : Nat) : List Int := ys.take k ++ List.replicate (n - k) 0
theorem cpI_len {n : Nat} {ys : List Int} (h : ys.length = n) (k : Nat) (hk : k ≤ n) : (cpI n ys k).length = n := by simp [cpI, h]; omega
theorem cpI_zero (n : Nat) (ys : List Int) : cpI n ys 0 = iz n := by simp [cpI, iz]
theorem cpI_set {n : Nat} {ys : List Int} (h : ys.length = n) {k : Nat} (hk : k < n) : (cpI n ys k).set k (ith ys k) = cpI n ys (k + 1) := by
  unfold cpI ith
  rw [List.set_append_right _ _ (by simp; omega), List.take_succ_eq_append_getElem (by omega), List.getD_eq_getElem?_getD, List.getElem?_eq_getElem (by omega)]
  rw [show k - (List.take k ys).length = 0 from by simp; omega, show n - k = (n - (k + 1)) + 1 from by omega, List.replicate_succ, List.append_assoc]
  rfl
theorem cpI_all {n : Nat} {ys : List Int} (h : ys.length = n) : cpI n ys n = ys := by simp [cpI, ← h]
end Go.Proofs.Ytlpbehokcogcpaa
