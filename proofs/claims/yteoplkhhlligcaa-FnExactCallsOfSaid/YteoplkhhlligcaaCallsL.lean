/-
  CONTRACTS: where counts are great enough.
-/
import Derived.Test.YteoplkhhlligcaaVTlI
import Derived.Test.YteoplkhhlligcaaToTab
namespace Go.Proofs.Yteoplkhhlligcaa
open Go Go.ChangeShapes Go.WideShapes Go.ChangeAt Go.RowKit
set_option maxRecDepth 100000

/-- where the first k counts are great enough -/
def clK (xs : Ts) (l : Int) (k : Nat) : List Bool := (List.range 8).map fun i => decide (i < k) && decide (l ≤ tc xs i)
theorem clK_len (xs : Ts) (l : Int) (k : Nat) : (clK xs l k).length = 8 := by simp [clK]
theorem clK_zero (xs : Ts) (l : Int) : clK xs l 0 = noes 8 := by
  apply List.ext_getElem
  · simp [clK, noes]
  · intro i h1 h2
    have e : (noes 8)[i] = false := by
      show (List.replicate 8 false)[i]'(by simpa [noes] using h2) = false
      exact List.getElem_replicate _
    rw [e]
    simp only [clK, List.getElem_map, List.getElem_range, decide_eq_false (Nat.not_lt_zero i), Bool.false_and]
theorem clK_set (xs : Ts) (l : Int) {k : Nat} (_hk : k < 8) : (clK xs l k).set k (decide (l ≤ tc xs k)) = clK xs l (k + 1) := by
  apply List.ext_getElem
  · simp [clK]
  · intro i h1 h2
    have hi : i < 8 := by simpa [clK] using h2
    rw [List.getElem_set]
    by_cases e : k = i
    · subst e; simp [clK]
    · rw [if_neg e]
      simp only [clK, List.getElem_map, List.getElem_range]
      congr 1
      exact decide_eq_decide.2 (by omega)
def vCalls (xs : Ts) (l : Int) : List Bool × Int := if okT xs then (if 0 ≤ l then (clK xs l (min xs.length 8), 0) else (noes 8, 2)) else (noes 8, 1)
theorem vCalls_1 {xs : Ts} {l : Int} (h : okT xs = false) : vCalls xs l = (noes 8, 1) := by unfold vCalls; rw [h]; rfl
theorem vCalls_2 {xs : Ts} {l : Int} (h : okT xs = true) (h2 : ¬ 0 ≤ l) : vCalls xs l = (noes 8, 2) := by unfold vCalls; rw [if_pos h, if_neg h2]
theorem vCalls_0 {xs : Ts} {l : Int} (h : okT xs = true) (h2 : 0 ≤ l) : vCalls xs l = (clK xs l (min xs.length 8), 0) := by unfold vCalls; rw [if_pos h, if_pos h2]
theorem vCalls_len (xs : Ts) (l : Int) : (vCalls xs l).1.length = 8 := by
  unfold vCalls
  split
  · split
    · exact clK_len _ _ _
    · exact noes_len 8
  · exact noes_len 8

theorem z8_eq : (#[.bool false, .bool false, .bool false, .bool false, .bool false, .bool false, .bool false, .bool false] : Array Value) = bl (noes 8) := rfl

end Go.Proofs.Yteoplkhhlligcaa
