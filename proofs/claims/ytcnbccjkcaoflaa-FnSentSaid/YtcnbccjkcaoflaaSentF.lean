/-
  FnSent: a road is free where it has no jam; what flows between two cells is what the one sends or what the other takes; no cell is faster than the pace.
  No Go text in it. Conditions: those of each theorem.
-/
import Derived.Test.YtcnbccjkcaoflaaSentN
import Derived.Test.YtcnbccjkcaoflaaSentQ
import Derived.Test.YtcnbccjkcaoflaaG5
import Derived.Test.YtcnbccjkcaoflaaSpeedAt
namespace Go.Proofs.Ytcnbccjkcaoflaa
open Go Go.RowKit
set_option maxRecDepth 100000

theorem free_jam (cs : List Nat) (best : Nat) : freeB cs best = decide ((jf best cs 16).length = 0) := by
  unfold freeB dnW
  rw [Bool.eq_iff_iff, decide_eq_true_iff, decide_eq_true_iff, jam_none]
  constructor
  · intro h i hi; exact Nat.le_trans (dn_max cs 15 i (by omega)) h
  · intro h; exact h _ (by have := dn_le cs 15; omega)

theorem speed_pace {cs : List Nat} {p b : Nat} (k : Nat) : speedW p b cs k ≤ p := by
  unfold speedW
  split
  · exact Nat.le_refl _
  · exact Nat.min_le_right _ _

theorem flow_one (p b : Nat) (cs : List Nat) (k : Nat) (h : flowW p b cs k = min (sendsW p b (nth cs k)) (takesW p b (nth cs (k + 1)))) : flowW p b cs k ≤ sendsW p b (nth cs k) ∧ flowW p b cs k ≤ takesW p b (nth cs (k + 1)) ∧ (flowW p b cs k = sendsW p b (nth cs k) ∨ flowW p b cs k = takesW p b (nth cs (k + 1))) := by
  rw [h]; omega

end Go.Proofs.Ytcnbccjkcaoflaa
