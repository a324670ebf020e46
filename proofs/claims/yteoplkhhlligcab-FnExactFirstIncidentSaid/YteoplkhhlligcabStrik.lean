/-
  CONTRACTS: is much more above than below?
-/
import Derived.Test.YteoplkhhlligcabOwnP
import Derived.Test.YteoplkhhlligcabNum
namespace Go.Proofs.Yteoplkhhlligcab
open Go Go.ChangeShapes Go.WideShapes Go.ChangeAt Go.RowKit
set_option maxRecDepth 100000

set_option maxHeartbeats 1000000 in
theorem isStriking_any (t c f t2 c2 f2 : Int) (a s X Y D M : Nat) (e1 : floatOfInt .f32 f = X) (e2 : floatOfInt .f32 f2 = Y) (o1 : floatBits .sub .f32 X Y = some D) (o2 : floatBits .mul .f32 s X = some M) (w : World) :
    Calls Try.prog 73 #[.agg (p6 t c f t2 c2 f2), .float .f32 a, .float .f32 s] w fun e w' => e = .returned (.bool (geB D a && geB D M)) ∧ Below w.heap.size w w' := by
  have A0 := At.new w (p6 t c f t2 c2 f2) 107
  have k2 := A0.cell (p6_2 t c f t2 c2 f2)
  have k5 := A0.cell (p6_5 t c f t2 c2 f2)
  have B0 := Lib.hid (b0 w (.cells (p6 t c f t2 c2 f2) 107))
  have q1 := fun t w => run_float_arith (P := Try.prog) w .sub t .f32 _ _ _ o1
  have q2 := fun t w => run_float_arith (P := Try.prog) w .mul t .f32 _ _ _ o2
  clear A0 o1 o2
  unfold geB
  generalize p6 t c f t2 c2 f2 = row at *
  cases g1 : (FloatKind.f32.format.order D a == some .gt || FloatKind.f32.format.order D a == some .eq)
  · go_enter Try.func73, Try.ntmps73
    go_wp2_with fail
    go_ret
    exact ⟨rfl, B0.out⟩
  · cases g2 : (FloatKind.f32.format.order D M == some .gt || FloatKind.f32.format.order D M == some .eq)
    · go_enter Try.func73, Try.ntmps73
      go_wp2_with fail
      go_ret
      exact ⟨rfl, B0.out⟩
    · go_enter Try.func73, Try.ntmps73
      go_wp2_with fail
      go_ret
      exact ⟨rfl, B0.out⟩

end Go.Proofs.Yteoplkhhlligcab
