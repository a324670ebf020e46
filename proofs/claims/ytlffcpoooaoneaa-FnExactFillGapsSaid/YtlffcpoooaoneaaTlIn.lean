/-
  CONTRACTS: ranges of numbers, chapter 5.
-/
import Derived.Test.YtlffcpoooaoneaaIn
import Derived.Test.YtlffcpoooaoneaaLaw
namespace Go.Proofs.Ytlffcpoooaoneaa
open Go Go.ChangeShapes Go.WideShapes Go.ChangeAt Go.RowKit
set_option maxRecDepth 100000

theorem isTurn_b (k : Int) (w : World) : Calls Try.prog 139 #[.int .i64 k] w (Rd (.bool (inB 0 65535 k)) w) := by
  by_cases h : 0 ≤ k
  · by_cases h2 : k ≤ 65535
    · rw [show inB 0 65535 k = true from decide_eq_true ⟨h, h2⟩]
      
      go_enter Try.func139, Try.ntmps139
      go_wp2
      go_ret
      exact Rd.mk0
    · rw [show inB 0 65535 k = false from decide_eq_false (by omega)]
      
      go_enter Try.func139, Try.ntmps139
      go_wp2
      go_ret
      exact Rd.mk0
  · rw [show inB 0 65535 k = false from decide_eq_false (by omega)]
    go_enter Try.func139, Try.ntmps139
    go_wp2
    go_ret
    exact Rd.mk0

theorem isDetectorCell_b (k : Int) (w : World) : Calls Try.prog 151 #[.int .i64 k] w (Rd (.bool (inB 0 14 k)) w) := by
  by_cases h : 0 ≤ k
  · by_cases h2 : k ≤ 14
    · rw [show inB 0 14 k = true from decide_eq_true ⟨h, h2⟩]
      have q : k < 15 := by omega
      go_enter Try.func151, Try.ntmps151
      go_wp2
      go_ret
      exact Rd.mk0
    · rw [show inB 0 14 k = false from decide_eq_false (by omega)]
      have q : ¬ k < 15 := by omega
      go_enter Try.func151, Try.ntmps151
      go_wp2
      go_ret
      exact Rd.mk0
  · rw [show inB 0 14 k = false from decide_eq_false (by omega)]
    go_enter Try.func151, Try.ntmps151
    go_wp2
    go_ret
    exact Rd.mk0

theorem l05Turn_b (k : Int) (w : World) : Calls Try.prog 138 #[.int .i64 k] w (Rd (.bool (inB 0 65535 k)) w) := by
  go_enter Try.func138, Try.ntmps138
  go_wp2_with fail
  refine (l00In_b _ _ _ _).mono ?_
  rintro e w1 ⟨rfl, n1, rfl⟩
  go_wp2_with fail
  go_ret
  exact Rd.mkN

theorem l05Cell_b (k : Int) (w : World) : Calls Try.prog 144 #[.int .i64 k] w (Rd (.bool (inB 0 14 k)) w) := by
  go_enter Try.func144, Try.ntmps144
  go_wp2_with fail
  refine (l00In_b _ _ _ _).mono ?_
  rintro e w1 ⟨rfl, n1, rfl⟩
  go_wp2_with fail
  go_ret
  exact Rd.mkN

end Go.Proofs.Ytlffcpoooaoneaa
