/-
  SEVERAL TEXTS IN ONE.
-/
import Derived.Test.YtcfoghckdloknaaAt
import Derived.WalkKit
import Derived.Test.YtcfoghckdloknaaRoadS
import Derived.Deep.LoopGhost
import Derived.IntWalk
import Derived.Test.YtcfoghckdloknaaLaw

/-
  CONTRACTS: is a number one of a range?
-/
namespace Go.Proofs.Ytcfoghckdloknaa
open Go Go.RowKit
set_option maxRecDepth 100000


theorem l00In_b (k a b : Int) (w : World) : Calls Try.prog 44 #[.int .i64 k, .int .i64 a, .int .i64 b] w (Rd (.bool (inB a b k)) w) := by
  by_cases h : a ≤ k
  · by_cases h2 : k ≤ b
    · rw [show inB a b k = true from decide_eq_true ⟨h, h2⟩]
      go_enter Try.func44, Try.ntmps44
      go_wp2
      go_ret
      exact Rd.mk0
    · rw [show inB a b k = false from decide_eq_false (by omega)]
      go_enter Try.func44, Try.ntmps44
      go_wp2
      go_ret
      exact Rd.mk0
  · rw [show inB a b k = false from decide_eq_false (by omega)]
    go_enter Try.func44, Try.ntmps44
    go_wp2
    go_ret
    exact Rd.mk0

end Go.Proofs.Ytcfoghckdloknaa

/-
  CONTRACTS: ranges of numbers, chapter 5.
-/
namespace Go.Proofs.Ytcfoghckdloknaa
open Go Go.ChangeShapes Go.WideShapes Go.ChangeAt Go.RowKit
set_option maxRecDepth 100000

theorem isTurn_b (k : Int) (w : World) : Calls Try.prog 33 #[.int .i64 k] w (Rd (.bool (inB 0 65535 k)) w) := by
  by_cases h : 0 ≤ k
  · by_cases h2 : k ≤ 65535
    · rw [show inB 0 65535 k = true from decide_eq_true ⟨h, h2⟩]
      
      go_enter Try.func33, Try.ntmps33
      go_wp2
      go_ret
      exact Rd.mk0
    · rw [show inB 0 65535 k = false from decide_eq_false (by omega)]
      
      go_enter Try.func33, Try.ntmps33
      go_wp2
      go_ret
      exact Rd.mk0
  · rw [show inB 0 65535 k = false from decide_eq_false (by omega)]
    go_enter Try.func33, Try.ntmps33
    go_wp2
    go_ret
    exact Rd.mk0

theorem isDetectorCell_b (k : Int) (w : World) : Calls Try.prog 21 #[.int .i64 k] w (Rd (.bool (inB 0 14 k)) w) := by
  by_cases h : 0 ≤ k
  · by_cases h2 : k ≤ 14
    · rw [show inB 0 14 k = true from decide_eq_true ⟨h, h2⟩]
      have q : k < 15 := by omega
      go_enter Try.func21, Try.ntmps21
      go_wp2
      go_ret
      exact Rd.mk0
    · rw [show inB 0 14 k = false from decide_eq_false (by omega)]
      have q : ¬ k < 15 := by omega
      go_enter Try.func21, Try.ntmps21
      go_wp2
      go_ret
      exact Rd.mk0
  · rw [show inB 0 14 k = false from decide_eq_false (by omega)]
    go_enter Try.func21, Try.ntmps21
    go_wp2
    go_ret
    exact Rd.mk0

theorem l05Turn_b (k : Int) (w : World) : Calls Try.prog 35 #[.int .i64 k] w (Rd (.bool (inB 0 65535 k)) w) := by
  go_enter Try.func35, Try.ntmps35
  go_wp2_with fail
  refine (l00In_b _ _ _ _).mono ?_
  rintro e w1 ⟨rfl, n1, rfl⟩
  go_wp2_with fail
  go_ret
  exact Rd.mkN

theorem l05Cell_b (k : Int) (w : World) : Calls Try.prog 55 #[.int .i64 k] w (Rd (.bool (inB 0 14 k)) w) := by
  go_enter Try.func55, Try.ntmps55
  go_wp2_with fail
  refine (l00In_b _ _ _ _).mono ?_
  rintro e w1 ⟨rfl, n1, rfl⟩
  go_wp2_with fail
  go_ret
  exact Rd.mkN

end Go.Proofs.Ytcfoghckdloknaa
