/-
  CONTRACTS: is a number one of a range?
-/
import Derived.Test.YtkaghfoaicbngabAt
import Derived.Test.YtkaghfoaicbngabRoadS
import Derived.WalkKit
import Derived.Deep.LoopGhost
import Derived.IntWalk
namespace Go.Proofs.Ytkaghfoaicbngab
open Go Go.RowKit
set_option maxRecDepth 100000

def inB (a b k : Int) : Bool := decide (a ≤ k ∧ k ≤ b)

theorem l00In_b (k a b : Int) (w : World) : Calls Try.prog 77 #[.int .i64 k, .int .i64 a, .int .i64 b] w (Rd (.bool (inB a b k)) w) := by
  by_cases h : a ≤ k
  · by_cases h2 : k ≤ b
    · rw [show inB a b k = true from decide_eq_true ⟨h, h2⟩]
      go_enter Try.func77, Try.ntmps77
      go_wp2
      go_ret
      exact Rd.mk0
    · rw [show inB a b k = false from decide_eq_false (by omega)]
      go_enter Try.func77, Try.ntmps77
      go_wp2
      go_ret
      exact Rd.mk0
  · rw [show inB a b k = false from decide_eq_false (by omega)]
    go_enter Try.func77, Try.ntmps77
    go_wp2
    go_ret
    exact Rd.mk0

end Go.Proofs.Ytkaghfoaicbngab
