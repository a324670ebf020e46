/-
  CONTRACTS: a new detector, on both sides.
-/
import Derived.Test.YteoplkhhlligcaaTlIn
import Derived.Test.YteoplkhhlligcaaDet
import Derived.Test.YteoplkhhlligcaaToTl
namespace Go.Proofs.Yteoplkhhlligcaa
open Go Go.ChangeShapes Go.WideShapes Go.ChangeAt Go.RowKit
set_option maxRecDepth 100000

def vPlaceD (c : Int) : Int × Int := if inB 0 14 c then (c, 0) else (0, 2)
theorem vPlaceD_yes {c : Int} (h : inB 0 14 c = true) : vPlaceD c = (c, 0) := by unfold vPlaceD; rw [if_pos h]
theorem vPlaceD_no {c : Int} (h : inB 0 14 c = false) : vPlaceD c = (0, 2) := by unfold vPlaceD; rw [h]; rfl

theorem sPlaceDetector_any (c : Int) (w : World) :
    Calls Try.prog 22 #[.int .i64 c] w fun e w' => e = .returned (.tuple #[.agg (dt (vPlaceD c).1 0 0 0 0), .int .i64 (vPlaceD c).2]) ∧ Below w.heap.size w w' := by
  have K := l05Cell_b c
  have R0 := At.new w #[.int .i64 0, .float .f32 0, .int .i16 0, .float .f32 0, .int .i64 0] 29
  have B0 := Lib.hid (b0 w (.cells #[.int .i64 0, .float .f32 0, .int .i16 0, .float .f32 0, .int .i64 0] 29))
  cases h : inB 0 14 c
  · rw [vPlaceD_no h]
    rw [h] at K
    go_enter Try.func22, Try.ntmps22
    go_wp2_with fail
    refine (K _).mono ?_
    rintro e w1 ⟨rfl, n1, rfl⟩
    have R1 := R0.drewN n1
    have R9 := R1.setRow (dt 0 0 0 0 0)
    have B9 := Lib.hid (bset (bdrew B0.out n1) (g := w.heap.size) (Nat.le_refl _) (dt 0 0 0 0 0))
    go_wp2_with (((with_reducible refine is_store 29 _ _ rfl ?_); refine wpList_store_at rfl 29 _ _ rfl _ rfl ((dt 0 0 0 0 0)) rfl (#[.int .i64 0, .float .f32 0, .int .i16 0, .float .f32 0, .int .i64 0]) _ (by with_reducible assumption) 5 (dt_size _ _ _ _ _) (rfl) (by kernel_rfl) (dt_one _ _ _ _ _) ?_))
    exact bodyPost_ret (v := .tuple #[.agg (dt 0 0 0 0 0), .int .i64 2]) (results_at_tmp (p := 2) (ty := 29) rfl _ _ _ (dt 0 0 0 0 0) _ (.int .i64 2) rfl rfl R9 _ Try.underlying29 rfl 5 (dt_size _ _ _ _ _) (by kernel_rfl)) rfl ⟨rfl, B9.out⟩
  · rw [vPlaceD_yes h]
    rw [h] at K
    go_enter Try.func22, Try.ntmps22
    go_wp2_with fail
    refine (K _).mono ?_
    rintro e w1 ⟨rfl, n1, rfl⟩
    have R1 := R0.drewN n1
    have R9 := R1.setRow (dt c 0 0 0 0)
    have B9 := Lib.hid (bset (bdrew B0.out n1) (g := w.heap.size) (Nat.le_refl _) (dt c 0 0 0 0))
    go_wp2_with (((with_reducible refine is_store 29 _ _ rfl ?_); refine wpList_store_at rfl 29 _ _ rfl _ rfl ((dt c 0 0 0 0)) rfl (#[.int .i64 0, .float .f32 0, .int .i16 0, .float .f32 0, .int .i64 0]) _ (by with_reducible assumption) 5 (dt_size _ _ _ _ _) (rfl) (by kernel_rfl) (dt_one _ _ _ _ _) ?_))
    exact bodyPost_ret (v := .tuple #[.agg (dt c 0 0 0 0), .int .i64 0]) (results_at_tmp (p := 2) (ty := 29) rfl _ _ _ (dt c 0 0 0 0) _ (.int .i64 0) rfl rfl R9 _ Try.underlying29 rfl 5 (dt_size _ _ _ _ _) (by kernel_rfl)) rfl ⟨rfl, B9.out⟩

theorem PlaceDetector_any (c : Int) (w : World) :
    Calls Try.prog 23 #[.int .i64 c] w fun e w' => e = .returned (.tuple #[.agg (dt (vPlaceD c).1 0 0 0 0), .int .i64 (vPlaceD c).2]) ∧ Below w.heap.size w w' := by
  have K := isDetectorCell_b c
  have R0 := At.new w #[.int .i64 0, .float .f32 0, .int .i16 0, .float .f32 0, .int .i64 0] 29
  have B0 := Lib.hid (b0 w (.cells #[.int .i64 0, .float .f32 0, .int .i16 0, .float .f32 0, .int .i64 0] 29))
  cases h : inB 0 14 c
  · rw [vPlaceD_no h]
    rw [h] at K
    go_enter Try.func23, Try.ntmps23
    go_wp2_with fail
    refine (K _).mono ?_
    rintro e w1 ⟨rfl, n1, rfl⟩
    have R1 := R0.drewN n1
    have R9 := R1.setRow (dt 0 0 0 0 0)
    have B9 := Lib.hid (bset (bdrew B0.out n1) (g := w.heap.size) (Nat.le_refl _) (dt 0 0 0 0 0))
    go_wp2_with (((with_reducible refine is_store 29 _ _ rfl ?_); refine wpList_store_at rfl 29 _ _ rfl _ rfl ((dt 0 0 0 0 0)) rfl (#[.int .i64 0, .float .f32 0, .int .i16 0, .float .f32 0, .int .i64 0]) _ (by with_reducible assumption) 5 (dt_size _ _ _ _ _) (rfl) (by kernel_rfl) (dt_one _ _ _ _ _) ?_))
    exact bodyPost_ret (v := .tuple #[.agg (dt 0 0 0 0 0), .int .i64 2]) (results_at_tmp (p := 2) (ty := 29) rfl _ _ _ (dt 0 0 0 0 0) _ (.int .i64 2) rfl rfl R9 _ Try.underlying29 rfl 5 (dt_size _ _ _ _ _) (by kernel_rfl)) rfl ⟨rfl, B9.out⟩
  · rw [vPlaceD_yes h]
    rw [h] at K
    go_enter Try.func23, Try.ntmps23
    go_wp2_with fail
    refine (K _).mono ?_
    rintro e w1 ⟨rfl, n1, rfl⟩
    have R1 := R0.drewN n1
    have R9 := R1.setRow (dt c 0 0 0 0)
    have B9 := Lib.hid (bset (bdrew B0.out n1) (g := w.heap.size) (Nat.le_refl _) (dt c 0 0 0 0))
    go_wp2_with (((with_reducible refine is_store 29 _ _ rfl ?_); refine wpList_store_at rfl 29 _ _ rfl _ rfl ((dt c 0 0 0 0)) rfl (#[.int .i64 0, .float .f32 0, .int .i16 0, .float .f32 0, .int .i64 0]) _ (by with_reducible assumption) 5 (dt_size _ _ _ _ _) (rfl) (by kernel_rfl) (dt_one _ _ _ _ _) ?_))
    exact bodyPost_ret (v := .tuple #[.agg (dt c 0 0 0 0), .int .i64 0]) (results_at_tmp (p := 2) (ty := 29) rfl _ _ _ (dt c 0 0 0 0) _ (.int .i64 0) rfl rfl R9 _ Try.underlying29 rfl 5 (dt_size _ _ _ _ _) (by kernel_rfl)) rfl ⟨rfl, B9.out⟩

end Go.Proofs.Yteoplkhhlligcaa
