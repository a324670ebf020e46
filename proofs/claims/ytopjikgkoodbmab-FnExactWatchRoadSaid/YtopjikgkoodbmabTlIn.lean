/-
  CONTRACTS: ranges of numbers, chapter 5.
-/
import Derived.Test.YtopjikgkoodbmabIn
import Derived.Test.YtopjikgkoodbmabLaw
namespace Go.Proofs.Ytopjikgkoodbmab
open Go Go.ChangeShapes Go.WideShapes Go.ChangeAt Go.RowKit
set_option maxRecDepth 100000

theorem isTurn_b (k : Int) (w : World) : Calls Try.prog 90 #[.int .i64 k] w (Rd (.bool (inB 0 65535 k)) w) := by
  by_cases h : 0 ≤ k
  · by_cases h2 : k ≤ 65535
    · rw [show inB 0 65535 k = true from decide_eq_true ⟨h, h2⟩]
      
      go_enter Try.func90, Try.ntmps90
      go_wp2
      go_ret
      exact Rd.mk0
    · rw [show inB 0 65535 k = false from decide_eq_false (by omega)]
      
      go_enter Try.func90, Try.ntmps90
      go_wp2
      go_ret
      exact Rd.mk0
  · rw [show inB 0 65535 k = false from decide_eq_false (by omega)]
    go_enter Try.func90, Try.ntmps90
    go_wp2
    go_ret
    exact Rd.mk0

theorem isRowLength_b (k : Int) (w : World) : Calls Try.prog 71 #[.int .i64 k] w (Rd (.bool (inB 1 96 k)) w) := by
  by_cases h : 1 ≤ k
  · by_cases h2 : k ≤ 96
    · rw [show inB 1 96 k = true from decide_eq_true ⟨h, h2⟩]
      
      go_enter Try.func71, Try.ntmps71
      go_wp2
      go_ret
      exact Rd.mk0
    · rw [show inB 1 96 k = false from decide_eq_false (by omega)]
      
      go_enter Try.func71, Try.ntmps71
      go_wp2
      go_ret
      exact Rd.mk0
  · rw [show inB 1 96 k = false from decide_eq_false (by omega)]
    go_enter Try.func71, Try.ntmps71
    go_wp2
    go_ret
    exact Rd.mk0

theorem isDetectorCell_b (k : Int) (w : World) : Calls Try.prog 158 #[.int .i64 k] w (Rd (.bool (inB 0 14 k)) w) := by
  by_cases h : 0 ≤ k
  · by_cases h2 : k ≤ 14
    · rw [show inB 0 14 k = true from decide_eq_true ⟨h, h2⟩]
      have q : k < 15 := by omega
      go_enter Try.func158, Try.ntmps158
      go_wp2
      go_ret
      exact Rd.mk0
    · rw [show inB 0 14 k = false from decide_eq_false (by omega)]
      have q : ¬ k < 15 := by omega
      go_enter Try.func158, Try.ntmps158
      go_wp2
      go_ret
      exact Rd.mk0
  · rw [show inB 0 14 k = false from decide_eq_false (by omega)]
    go_enter Try.func158, Try.ntmps158
    go_wp2
    go_ret
    exact Rd.mk0

theorem l05Turn_b (k : Int) (w : World) : Calls Try.prog 137 #[.int .i64 k] w (Rd (.bool (inB 0 65535 k)) w) := by
  go_enter Try.func137, Try.ntmps137
  go_wp2_with fail
  refine (l00In_b _ _ _ _).mono ?_
  rintro e w1 ⟨rfl, n1, rfl⟩
  go_wp2_with fail
  go_ret
  exact Rd.mkN

theorem l05Times_b (k : Int) (w : World) : Calls Try.prog 77 #[.int .i64 k] w (Rd (.bool (inB 1 96 k)) w) := by
  go_enter Try.func77, Try.ntmps77
  go_wp2_with fail
  refine (l00In_b _ _ _ _).mono ?_
  rintro e w1 ⟨rfl, n1, rfl⟩
  go_wp2_with fail
  go_ret
  exact Rd.mkN

theorem l05Cell_b (k : Int) (w : World) : Calls Try.prog 155 #[.int .i64 k] w (Rd (.bool (inB 0 14 k)) w) := by
  go_enter Try.func155, Try.ntmps155
  go_wp2_with fail
  refine (l00In_b _ _ _ _).mono ?_
  rintro e w1 ⟨rfl, n1, rfl⟩
  go_wp2_with fail
  go_ret
  exact Rd.mkN

end Go.Proofs.Ytopjikgkoodbmab
