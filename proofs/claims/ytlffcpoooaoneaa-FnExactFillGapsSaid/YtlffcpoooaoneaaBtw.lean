/-
  CONTRACTS: between two counts.
-/
import Derived.Test.YtlffcpoooaoneaaFillN
import Derived.Test.YtlffcpoooaoneaaCnt
namespace Go.Proofs.Ytlffcpoooaoneaa
open Go Go.ChangeShapes Go.WideShapes Go.ChangeAt Go.RowKit
set_option maxRecDepth 100000

theorem countBetween_any (a b : Int) (ha : 0 ≤ a ∧ a ≤ 32767) (hb : 0 ≤ b ∧ b ≤ 32767) (q : Nat) (hq : q ≤ 1065353216) (w : World) :
    Calls Try.prog 143 #[.int .i16 a, .int .i16 b, .float .f32 q] w fun e w' => e = .returned (.int .i16 (cntB (btwB a b q))) ∧ Below w.heap.size w w' := by
  obtain ⟨o1, o2, o3, h4⟩ := btw_ops ha hb hq
  have KT := ToCount_any (btwB a b q) h4
  have f1 : floatOfInt .f32 a = fI a := rfl
  have f2 : floatOfInt .f32 b = fI b := rfl
  clear ha hb hq h4
  generalize cntB (btwB a b q) = cv at KT ⊢
  generalize btwB a b q = Y at *
  generalize mulB (fI (b - a)) q = M at *
  generalize fI (b - a) = D at *
  have p1 := fun t w => run_float_arith (P := Try.prog) w .sub t .f32 _ _ _ o1
  have p2 := fun t w => run_float_arith (P := Try.prog) w .mul t .f32 _ _ _ o2
  have p3 := fun t w => run_float_arith (P := Try.prog) w .add t .f32 _ _ _ o3
  clear o1 o2 o3
  go_enter Try.func143, Try.ntmps143
  go_wp2_with fail
  refine (KT _).mono ?_
  rintro e w1 ⟨rfl, hb1⟩
  go_wp2_with fail
  go_ret
  exact ⟨rfl, hb1⟩
theorem l05Between_any (a b : Int) (ha : 0 ≤ a ∧ a ≤ 32767) (hb : 0 ≤ b ∧ b ≤ 32767) (q : Nat) (hq : q ≤ 1065353216) (w : World) :
    Calls Try.prog 78 #[.int .i16 a, .int .i16 b, .float .f32 q] w fun e w' => e = .returned (.int .i16 (cntB (btwB a b q))) ∧ Below w.heap.size w w' := by
  obtain ⟨o1, o2, o3, h4⟩ := btw_ops ha hb hq
  have KT := l05Count_any (btwB a b q) h4
  have f1 : floatOfInt .f32 a = fI a := rfl
  have s1 : IntKind.i64.wrap a = a := IntWalk.i64_in _ (by omega)
  have s2 : IntKind.i64.wrap b = b := IntWalk.i64_in _ (by omega)
  have s3 : IntKind.i64.wrap (b - a) = b - a := IntWalk.i64_in _ (by omega)
  have f2 : floatOfInt .f32 (b - a) = fI (b - a) := rfl
  clear ha hb hq h4 o1
  generalize cntB (btwB a b q) = cv at KT ⊢
  generalize btwB a b q = Y at *
  generalize mulB (fI (b - a)) q = M at *
  generalize fI (b - a) = D at *
  generalize fI a = Fa at *
  have p2 := fun t w => run_float_arith (P := Try.prog) w .mul t .f32 _ _ _ o2
  have p3 := fun t w => run_float_arith (P := Try.prog) w .add t .f32 _ _ _ o3
  clear o2 o3
  go_enter Try.func78, Try.ntmps78
  go_wp2_with fail
  refine (KT _).mono ?_
  rintro e w1 ⟨rfl, n1, rfl⟩
  go_wp2_with fail
  go_ret
  exact ⟨rfl, bdrew (Below.refl _ _) n1⟩

end Go.Proofs.Ytlffcpoooaoneaa
