/-
  CONTRACTS: ranges of numbers, chapter 5.
-/
import Derived.Test.YteoplkhhlligcabIn
import Derived.Test.YteoplkhhlligcabLaw
namespace Go.Proofs.Yteoplkhhlligcab
open Go Go.ChangeShapes Go.WideShapes Go.ChangeAt Go.RowKit
set_option maxRecDepth 100000

theorem isTurn_b (k : Int) (w : World) : Calls Try.prog 119 #[.int .i64 k] w (Rd (.bool (inB 0 65535 k)) w) := by
  by_cases h : 0 ≤ k
  · by_cases h2 : k ≤ 65535
    · rw [show inB 0 65535 k = true from decide_eq_true ⟨h, h2⟩]
      
      go_enter Try.func119, Try.ntmps119
      go_wp2
      go_ret
      exact Rd.mk0
    · rw [show inB 0 65535 k = false from decide_eq_false (by omega)]
      
      go_enter Try.func119, Try.ntmps119
      go_wp2
      go_ret
      exact Rd.mk0
  · rw [show inB 0 65535 k = false from decide_eq_false (by omega)]
    go_enter Try.func119, Try.ntmps119
    go_wp2
    go_ret
    exact Rd.mk0

theorem isRowLength_b (k : Int) (w : World) : Calls Try.prog 71 #[.int .i64 k] w (Rd (.bool (inB 1 96 k)) w) := by
  by_cases h : 1 ≤ k
  · by_cases h2 : k ≤ 96
    · rw [show inB 1 96 k = true from decide_eq_true ⟨h, h2⟩]
      
      go_enter Try.func71, Try.ntmps71
      go_wp2
      go_ret
      exact Rd.mk0
    · rw [show inB 1 96 k = false from decide_eq_false (by omega)]
      
      go_enter Try.func71, Try.ntmps71
      go_wp2
      go_ret
      exact Rd.mk0
  · rw [show inB 1 96 k = false from decide_eq_false (by omega)]
    go_enter Try.func71, Try.ntmps71
    go_wp2
    go_ret
    exact Rd.mk0

theorem isDetectorCell_b (k : Int) (w : World) : Calls Try.prog 139 #[.int .i64 k] w (Rd (.bool (inB 0 14 k)) w) := by
  by_cases h : 0 ≤ k
  · by_cases h2 : k ≤ 14
    · rw [show inB 0 14 k = true from decide_eq_true ⟨h, h2⟩]
      have q : k < 15 := by omega
      go_enter Try.func139, Try.ntmps139
      go_wp2
      go_ret
      exact Rd.mk0
    · rw [show inB 0 14 k = false from decide_eq_false (by omega)]
      have q : ¬ k < 15 := by omega
      go_enter Try.func139, Try.ntmps139
      go_wp2
      go_ret
      exact Rd.mk0
  · rw [show inB 0 14 k = false from decide_eq_false (by omega)]
    go_enter Try.func139, Try.ntmps139
    go_wp2
    go_ret
    exact Rd.mk0

theorem l05Turn_b (k : Int) (w : World) : Calls Try.prog 118 #[.int .i64 k] w (Rd (.bool (inB 0 65535 k)) w) := by
  go_enter Try.func118, Try.ntmps118
  go_wp2_with fail
  refine (l00In_b _ _ _ _).mono ?_
  rintro e w1 ⟨rfl, n1, rfl⟩
  go_wp2_with fail
  go_ret
  exact Rd.mkN

theorem l05Times_b (k : Int) (w : World) : Calls Try.prog 68 #[.int .i64 k] w (Rd (.bool (inB 1 96 k)) w) := by
  go_enter Try.func68, Try.ntmps68
  go_wp2_with fail
  refine (l00In_b _ _ _ _).mono ?_
  rintro e w1 ⟨rfl, n1, rfl⟩
  go_wp2_with fail
  go_ret
  exact Rd.mkN

theorem l05Cell_b (k : Int) (w : World) : Calls Try.prog 133 #[.int .i64 k] w (Rd (.bool (inB 0 14 k)) w) := by
  go_enter Try.func133, Try.ntmps133
  go_wp2_with fail
  refine (l00In_b _ _ _ _).mono ?_
  rintro e w1 ⟨rfl, n1, rfl⟩
  go_wp2_with fail
  go_ret
  exact Rd.mkN

end Go.Proofs.Yteoplkhhlligcab
