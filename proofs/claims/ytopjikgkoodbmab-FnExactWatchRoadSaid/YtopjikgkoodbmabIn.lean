/-
  CONTRACTS: is a number one of a range?
-/
import Derived.Test.YtopjikgkoodbmabAt
import Derived.Test.YtopjikgkoodbmabRoadS
import Derived.WalkKit
import Derived.Deep.LoopGhost
import Derived.IntWalk
namespace Go.Proofs.Ytopjikgkoodbmab
open Go Go.RowKit
set_option maxRecDepth 100000

def inB (a b k : Int) : Bool := decide (a ≤ k ∧ k ≤ b)

theorem isArm_b (k n : Int) (w : World) : Calls Try.prog 149 #[.int .i64 k, .int .i64 n] w (Rd (.bool (decide (0 ≤ k ∧ k < n))) w) := by
  by_cases h : 0 ≤ k
  · by_cases h2 : k < n
    · rw [decide_eq_true ⟨h, h2⟩]
      go_enter Try.func149, Try.ntmps149
      go_wp2
      go_ret
      exact Rd.mk0
    · rw [decide_eq_false (by omega)]
      go_enter Try.func149, Try.ntmps149
      go_wp2
      go_ret
      exact Rd.mk0
  · rw [decide_eq_false (by omega)]
    go_enter Try.func149, Try.ntmps149
    go_wp2
    go_ret
    exact Rd.mk0

theorem l00In_b (k a b : Int) (w : World) : Calls Try.prog 83 #[.int .i64 k, .int .i64 a, .int .i64 b] w (Rd (.bool (inB a b k)) w) := by
  by_cases h : a ≤ k
  · by_cases h2 : k ≤ b
    · rw [show inB a b k = true from decide_eq_true ⟨h, h2⟩]
      go_enter Try.func83, Try.ntmps83
      go_wp2
      go_ret
      exact Rd.mk0
    · rw [show inB a b k = false from decide_eq_false (by omega)]
      go_enter Try.func83, Try.ntmps83
      go_wp2
      go_ret
      exact Rd.mk0
  · rw [show inB a b k = false from decide_eq_false (by omega)]
    go_enter Try.func83, Try.ntmps83
    go_wp2
    go_ret
    exact Rd.mk0

end Go.Proofs.Ytopjikgkoodbmab
