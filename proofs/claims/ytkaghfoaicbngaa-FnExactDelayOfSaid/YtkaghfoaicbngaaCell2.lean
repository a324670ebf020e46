/-
  CONTRACTS: cells: their codes.
-/
import Derived.Test.YtkaghfoaicbngaaFlow
import Derived.Test.YtkaghfoaicbngaaEq
namespace Go.Proofs.Ytkaghfoaicbngaa
open Go Go.RowKit

theorem Below.drewN0 (w : World) (n : Nat) : Below w.heap.size w (w.drewN n) := below_drewN (Below.refl _ _) n

theorem l00In_any (k a b : Int) (w : World) : Calls Try.prog 31 #[.int .i64 k, .int .i64 a, .int .i64 b] w (Rd (.bool (decide (a ≤ k ∧ k ≤ b))) w) := by
  by_cases h : a ≤ k
  · by_cases h2 : k ≤ b
    · rw [decide_eq_true ⟨h, h2⟩]
      go_enter Try.func31, Try.ntmps31
      go_wp2
      go_ret
      exact Rd.mk0
    · rw [decide_eq_false (by omega)]
      go_enter Try.func31, Try.ntmps31
      go_wp2
      go_ret
      exact Rd.mk0
  · rw [decide_eq_false (by omega)]
    go_enter Try.func31, Try.ntmps31
    go_wp2
    go_ret
    exact Rd.mk0
/-- the code of a road and a cell -/
def atC (ok : Bool) (k last : Int) : Int := if ok then (if 0 ≤ k ∧ k ≤ last then 0 else 2) else 1

end Go.Proofs.Ytkaghfoaicbngaa
