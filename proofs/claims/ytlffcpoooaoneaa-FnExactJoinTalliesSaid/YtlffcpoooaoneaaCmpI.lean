/-
  CONTRACTS: short numbers compared.
-/
import Derived.Test.YtlffcpoooaoneaaToTls
namespace Go.Proofs.Ytlffcpoooaoneaa
open Go Go.ChangeShapes Go.WideShapes Go.ChangeAt Go.RowKit
set_option maxRecDepth 100000

/-- how a number stands to another one -/
def cmpI (a b : Int) : Int := if a < b then -1 else if b < a then 1 else 0
theorem cmpI_lt {a b : Int} (h : a < b) : cmpI a b = -1 := by unfold cmpI; rw [if_pos h]
theorem cmpI_gt {a b : Int} (h : b < a) : cmpI a b = 1 := by unfold cmpI; rw [if_neg (by omega), if_pos h]
theorem cmpI_eq {a b : Int} (h : a = b) : cmpI a b = 0 := by unfold cmpI; rw [if_neg (by omega), if_neg (by omega)]
theorem isNaN16_b (a : Int) (w : World) : Calls Try.prog 190 #[.int .i16 a] w (Rd (.bool false) w) := by
  go_enter Try.func190, Try.ntmps190
  go_wp2
  go_ret
  exact Rd.mk0

theorem cmp16_b (a b : Int) (w : World) : Calls Try.prog 141 #[.int .i16 a, .int .i16 b] w (Rd (.int .i64 (cmpI a b)) w) := by
  by_cases h : a < b
  · have e := cmpI_lt h
    rw [e]
    go_enter Try.func141, Try.ntmps141
    go_wp2_with fail
    refine (isNaN16_b _ _).mono ?_
    rintro e w1 ⟨rfl, n1, rfl⟩
    go_wp2_with fail
    refine (isNaN16_b _ _).mono ?_
    rintro e w2 ⟨rfl, n2, rfl⟩
    go_wp2_with fail
    go_ret
    exact ⟨rfl, n1 + n2, by simp [World.drewN, Nat.add_assoc]⟩
  · by_cases h2 : b < a
    · have e := cmpI_gt h2
      rw [e]
      go_enter Try.func141, Try.ntmps141
      go_wp2_with fail
      refine (isNaN16_b _ _).mono ?_
      rintro e w1 ⟨rfl, n1, rfl⟩
      go_wp2_with fail
      refine (isNaN16_b _ _).mono ?_
      rintro e w2 ⟨rfl, n2, rfl⟩
      go_wp2_with fail
      go_ret
      exact ⟨rfl, n1 + n2, by simp [World.drewN, Nat.add_assoc]⟩
    · have h3 : a = b := by omega
      have e := cmpI_eq h3
      rw [e]
      go_enter Try.func141, Try.ntmps141
      go_wp2_with fail
      refine (isNaN16_b _ _).mono ?_
      rintro e w1 ⟨rfl, n1, rfl⟩
      go_wp2_with fail
      refine (isNaN16_b _ _).mono ?_
      rintro e w2 ⟨rfl, n2, rfl⟩
      go_wp2_with fail
      go_ret
      exact ⟨rfl, n1 + n2, by simp [World.drewN, Nat.add_assoc]⟩

end Go.Proofs.Ytlffcpoooaoneaa
