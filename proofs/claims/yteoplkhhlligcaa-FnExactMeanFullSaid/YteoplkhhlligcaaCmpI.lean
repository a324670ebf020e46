/-
  CONTRACTS: short numbers compared.
-/
import Derived.Test.YteoplkhhlligcaaToTls
namespace Go.Proofs.Yteoplkhhlligcaa
open Go Go.ChangeShapes Go.WideShapes Go.ChangeAt Go.RowKit
set_option maxRecDepth 100000

/-- how a number stands to another one -/
def cmpI (a b : Int) : Int := if a < b then -1 else if b < a then 1 else 0
theorem cmpI_lt {a b : Int} (h : a < b) : cmpI a b = -1 := by unfold cmpI; rw [if_pos h]
theorem cmpI_gt {a b : Int} (h : b < a) : cmpI a b = 1 := by unfold cmpI; rw [if_neg (by omega), if_pos h]
theorem cmpI_eq {a b : Int} (h : a = b) : cmpI a b = 0 := by unfold cmpI; rw [if_neg (by omega), if_neg (by omega)]
theorem isNaN16_b (a : Int) (w : World) : Calls Try.prog 78 #[.int .i16 a] w (Rd (.bool false) w) := by
  go_enter Try.func78, Try.ntmps78
  go_wp2
  go_ret
  exact Rd.mk0

theorem cmp16_b (a b : Int) (w : World) : Calls Try.prog 68 #[.int .i16 a, .int .i16 b] w (Rd (.int .i64 (cmpI a b)) w) := by
  by_cases h : a < b
  · have e := cmpI_lt h
    rw [e]
    go_enter Try.func68, Try.ntmps68
    go_wp2_with fail
    refine (isNaN16_b _ _).mono ?_
    rintro e w1 ⟨rfl, n1, rfl⟩
    go_wp2_with fail
    refine (isNaN16_b _ _).mono ?_
    rintro e w2 ⟨rfl, n2, rfl⟩
    go_wp2_with fail
    go_ret
    exact ⟨rfl, n1 + n2, by simp [World.drewN, Nat.add_assoc]⟩
  · by_cases h2 : b < a
    · have e := cmpI_gt h2
      rw [e]
      go_enter Try.func68, Try.ntmps68
      go_wp2_with fail
      refine (isNaN16_b _ _).mono ?_
      rintro e w1 ⟨rfl, n1, rfl⟩
      go_wp2_with fail
      refine (isNaN16_b _ _).mono ?_
      rintro e w2 ⟨rfl, n2, rfl⟩
      go_wp2_with fail
      go_ret
      exact ⟨rfl, n1 + n2, by simp [World.drewN, Nat.add_assoc]⟩
    · have h3 : a = b := by omega
      have e := cmpI_eq h3
      rw [e]
      go_enter Try.func68, Try.ntmps68
      go_wp2_with fail
      refine (isNaN16_b _ _).mono ?_
      rintro e w1 ⟨rfl, n1, rfl⟩
      go_wp2_with fail
      refine (isNaN16_b _ _).mono ?_
      rintro e w2 ⟨rfl, n2, rfl⟩
      go_wp2_with fail
      go_ret
      exact ⟨rfl, n1 + n2, by simp [World.drewN, Nat.add_assoc]⟩

theorem busyCmp_any (t c f t2 c2 f2 : Int) (w : World) :
    Calls Try.prog 67 #[.agg (t1 t c f), .agg (t1 t2 c2 f2)] w fun e w' => e = .returned (.int .i64 (cmpI c c2)) ∧ Below w.heap.size w w' := by
  have A1 : At ((w.alloc (.cells (t1 t c f) 38)).alloc (.cells (t1 t2 c2 f2) 38)) w.heap.size (t1 t c f) 38 := (At.new w _ _).alloc _
  have A2 : At ((w.alloc (.cells (t1 t c f) 38)).alloc (.cells (t1 t2 c2 f2) 38)) (w.heap.size + 1) (t1 t2 c2 f2) 38 := At.last1 w _ _ _
  have B0 := Lib.hid (bnew (b0 w (.cells (t1 t c f) 38)) (.cells (t1 t2 c2 f2) 38))
  have c1 := A1.cell (t1_1 _ _ _)
  have d1 := A2.cell (t1_1 _ _ _)
  clear A1 A2
  go_enter Try.func67, Try.ntmps67
  go_wp2_with fail
  refine (cmp16_b _ _ _).mono ?_
  rintro e w1 ⟨rfl, n1, rfl⟩
  go_wp2_with fail
  go_ret
  exact ⟨rfl, bdrew B0.out _⟩

end Go.Proofs.Yteoplkhhlligcaa
