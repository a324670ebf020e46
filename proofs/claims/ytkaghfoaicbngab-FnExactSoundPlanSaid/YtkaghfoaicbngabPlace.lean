/-
  CONTRACTS: ticks, and places of the cycle.
-/
import Derived.Test.YtkaghfoaicbngabNeedP
namespace Go.Proofs.Ytkaghfoaicbngab
open Go Go.ChangeShapes Go.WideShapes Go.ChangeAt Go.RowKit
set_option maxRecDepth 100000

theorem rem_a {n : Int} (hn : 0 < n) (a : Int) : (a.tmod n + n).tmod n = a % n := by
  have h1 : -n < a.tmod n := by
    have := Int.lt_tmod_of_pos a hn
    exact this
  rw [Int.tmod_eq_emod_of_nonneg (by omega), Int.add_emod_right, Int.tmod_def, Int.sub_mul_emod_self_left]
theorem rem_b {n o t : Int} (hn : 0 < n) (ht : 0 ≤ t) (ho : 0 ≤ o ∧ o < n) : (t.tmod n - o + n).tmod n = (t - o) % n := by
  rw [Int.tmod_eq_emod_of_nonneg ht]
  have h1 := Int.emod_nonneg t (show n ≠ 0 by omega)
  rw [Int.tmod_eq_emod_of_nonneg (by omega), Int.add_emod_right, Int.emod_sub_emod]

theorem isMovement_b (k : Int) (w : World) : Calls Try.prog 81 #[.int .i64 k] w (Rd (.bool (inB 0 7 k)) w) := by
  by_cases h : 0 ≤ k
  · by_cases h2 : k ≤ 7
    · rw [show inB 0 7 k = true from decide_eq_true ⟨h, h2⟩]
      have h3 : k < 8 := by omega
      go_enter Try.func81, Try.ntmps81
      go_wp2
      go_ret
      exact Rd.mk0
    · rw [show inB 0 7 k = false from decide_eq_false (by omega)]
      have h3 : ¬ k < 8 := by omega
      go_enter Try.func81, Try.ntmps81
      go_wp2
      go_ret
      exact Rd.mk0
  · rw [show inB 0 7 k = false from decide_eq_false (by omega)]
    go_enter Try.func81, Try.ntmps81
    go_wp2
    go_ret
    exact Rd.mk0

theorem l04Movement_b (k : Int) (w : World) : Calls Try.prog 78 #[.int .i64 k] w (Rd (.bool (inB 0 7 k)) w) := by
  go_enter Try.func78, Try.ntmps78
  go_wp2_with fail
  refine (l00In_b k 0 7 _).mono ?_
  rintro e w1 ⟨rfl, n1, rfl⟩
  go_wp2_with fail
  go_ret
  exact Rd.mkN

theorem modulo_b (a n : Int) (hn : 0 < n ∧ n ≤ 240) (ha : -4000000000 ≤ a ∧ a ≤ 4000000000) (w : World) : Calls Try.prog 84 #[.int .i64 a, .int .i64 n] w (Rd (.int .i64 (a % n)) w) := by
  have e := rem_a hn.1 a
  have h1 : -n < a.tmod n := Int.lt_tmod_of_pos a hn.1
  have h2 : a.tmod n < n := Int.tmod_lt_of_pos a hn.1
  have h0 : ¬ n = 0 := by omega
  have s0 : IntKind.i64.wrap (a.tmod n) = a.tmod n := IntWalk.i64_in _ (by omega)
  have s1 : IntKind.i64.wrap (a.tmod n + n) = a.tmod n + n := IntWalk.i64_in _ (by omega)
  have h3 := Int.emod_nonneg a (show n ≠ 0 by omega)
  have h4 := Int.emod_lt_of_pos a hn.1
  have s2 : IntKind.i64.wrap ((a.tmod n + n).tmod n) = a % n := by rw [e]; exact IntWalk.i64_in _ (by omega)
  go_enter Try.func84, Try.ntmps84
  go_wp2
  go_ret
  exact Rd.mk0

end Go.Proofs.Ytkaghfoaicbngab
