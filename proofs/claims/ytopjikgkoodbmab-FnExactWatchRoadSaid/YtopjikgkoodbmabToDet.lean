/-
  CONTRACTS: detectors, a law's made the program's, and held against each other.
-/
import Derived.Test.YtopjikgkoodbmabDet
import Derived.Test.YtopjikgkoodbmabToTl
import Derived.Test.YtopjikgkoodbmabEq
namespace Go.Proofs.Ytopjikgkoodbmab
open Go Go.ChangeShapes Go.WideShapes Go.ChangeAt Go.RowKit
set_option maxRecDepth 100000

theorem toDetector_any (c : Int) (y : Nat) (n : Int) (f : Nat) (t : Int) (w : World) :
    Calls Try.prog 62 #[.agg (dt c y n f t)] w fun e w' => e = .returned (.agg (dt c y n f t)) ∧ Below w.heap.size w w' := by
  have A0 : At (((w.alloc (.cells (dt c y n f t) 95)).alloc (.cells #[.int .i64 0, .float .f32 0, .int .i16 0, .float .f32 0, .int .i64 0] 98)).alloc (.cells #[.int .i64 0, .float .f32 0, .int .i16 0, .float .f32 0, .int .i64 0] 98)) w.heap.size (dt c y n f t) 95 := ((At.new w _ _).alloc _).alloc _
  have R0 : At (((w.alloc (.cells (dt c y n f t) 95)).alloc (.cells #[.int .i64 0, .float .f32 0, .int .i16 0, .float .f32 0, .int .i64 0] 98)).alloc (.cells #[.int .i64 0, .float .f32 0, .int .i16 0, .float .f32 0, .int .i64 0] 98)) (w.heap.size + 1) #[.int .i64 0, .float .f32 0, .int .i16 0, .float .f32 0, .int .i64 0] 98 := (At.last1 w _ _ _).alloc _
  have L0 : At (((w.alloc (.cells (dt c y n f t) 95)).alloc (.cells #[.int .i64 0, .float .f32 0, .int .i16 0, .float .f32 0, .int .i64 0] 98)).alloc (.cells #[.int .i64 0, .float .f32 0, .int .i16 0, .float .f32 0, .int .i64 0] 98)) (w.heap.size + 1 + 1) #[.int .i64 0, .float .f32 0, .int .i16 0, .float .f32 0, .int .i64 0] 98 := by
    have := At.new ((w.alloc (.cells (dt c y n f t) 95)).alloc (.cells #[.int .i64 0, .float .f32 0, .int .i16 0, .float .f32 0, .int .i64 0] 98)) #[.int .i64 0, .float .f32 0, .int .i16 0, .float .f32 0, .int .i64 0] 98
    rwa [World.size_alloc, World.size_alloc] at this
  have B0 := Lib.hid (bnew (bnew (b0 w (.cells (dt c y n f t) 95)) (.cells #[.int .i64 0, .float .f32 0, .int .i16 0, .float .f32 0, .int .i64 0] 98)) (.cells #[.int .i64 0, .float .f32 0, .int .i16 0, .float .f32 0, .int .i64 0] 98))
  have A1 := A0.setRow_other (k := w.heap.size + 1 + 1) (by omega) (dt c 0 0 0 0)
  have R1 := R0.setRow_other (k := w.heap.size + 1 + 1) (by omega) (dt c 0 0 0 0)
  have L1 := L0.setRow (dt c 0 0 0 0)
  have B1 := Lib.hid (bset B0.out (g := w.heap.size + 1 + 1) (by omega) (dt c 0 0 0 0))
  have A2 := A1.setRow_other (k := w.heap.size + 1 + 1) (by omega) (dt c y 0 0 0)
  have R2 := R1.setRow_other (k := w.heap.size + 1 + 1) (by omega) (dt c y 0 0 0)
  have L2 := L1.setRow (dt c y 0 0 0)
  have B2 := Lib.hid (bset B1.out (g := w.heap.size + 1 + 1) (by omega) (dt c y 0 0 0))
  have A3 := A2.setRow_other (k := w.heap.size + 1 + 1) (by omega) (dt c y n 0 0)
  have R3 := R2.setRow_other (k := w.heap.size + 1 + 1) (by omega) (dt c y n 0 0)
  have L3 := L2.setRow (dt c y n 0 0)
  have B3 := Lib.hid (bset B2.out (g := w.heap.size + 1 + 1) (by omega) (dt c y n 0 0))
  have A4 := A3.setRow_other (k := w.heap.size + 1 + 1) (by omega) (dt c y n f 0)
  have R4 := R3.setRow_other (k := w.heap.size + 1 + 1) (by omega) (dt c y n f 0)
  have L4 := L3.setRow (dt c y n f 0)
  have B4 := Lib.hid (bset B3.out (g := w.heap.size + 1 + 1) (by omega) (dt c y n f 0))
  have A5 := A4.setRow_other (k := w.heap.size + 1 + 1) (by omega) (dt c y n f t)
  have R5 := R4.setRow_other (k := w.heap.size + 1 + 1) (by omega) (dt c y n f t)
  have L5 := L4.setRow (dt c y n f t)
  have B5 := Lib.hid (bset B4.out (g := w.heap.size + 1 + 1) (by omega) (dt c y n f t))
  have R9 := R5.setRow (dt c y n f t)
  have B9 := Lib.hid (bset B5.out (g := w.heap.size + 1) (by omega) (dt c y n f t))
  go_enter Try.func62, Try.ntmps62
  go_wp2_with (first | ((with_reducible refine is_load 2 _ rfl ?_); refine wpList_load_cell rfl 2 _ rfl _ 0 rfl ((dt c y n f t)) _ (by with_reducible assumption) _ Try.underlying2 rfl (.int .i64 c) (dt_0 _ _ _ _ _) ?_) | ((with_reducible refine is_load 27 _ rfl ?_); refine wpList_load_cell rfl 27 _ rfl _ 1 rfl ((dt c y n f t)) _ (by with_reducible assumption) _ Try.underlying27 rfl (.float .f32 y) (dt_1 _ _ _ _ _) ?_) | ((with_reducible refine is_load 30 _ rfl ?_); refine wpList_load_cell rfl 30 _ rfl _ 2 rfl ((dt c y n f t)) _ (by with_reducible assumption) _ Try.underlying30 rfl (.int .i16 n) (dt_2 _ _ _ _ _) ?_) | ((with_reducible refine is_load 27 _ rfl ?_); refine wpList_load_cell rfl 27 _ rfl _ 3 rfl ((dt c y n f t)) _ (by with_reducible assumption) _ Try.underlying27 rfl (.float .f32 f) (dt_3 _ _ _ _ _) ?_) | ((with_reducible refine is_load 2 _ rfl ?_); refine wpList_load_cell rfl 2 _ rfl _ 4 rfl ((dt c y n f t)) _ (by with_reducible assumption) _ Try.underlying2 rfl (.int .i64 t) (dt_4 _ _ _ _ _) ?_) | ((with_reducible refine is_store 2 _ _ rfl ?_); refine wpList_store_cell rfl 2 _ _ rfl _ 0 rfl (.int .i64 c) rfl (#[.int .i64 0, .float .f32 0, .int .i16 0, .float .f32 0, .int .i64 0]) _ (by with_reducible assumption) (by decide) (by kernel_rfl) rfl ((dt c 0 0 0 0)) (dt_sz _) ?_) | ((with_reducible refine is_store 27 _ _ rfl ?_); refine wpList_store_cell rfl 27 _ _ rfl _ 1 rfl (.float .f32 y) rfl ((dt c 0 0 0 0)) _ (by with_reducible assumption) (by rw [dt_size]; omega) (by kernel_rfl) rfl ((dt c y 0 0 0)) (dt_s1 _ _ _ _ _ _) ?_) | ((with_reducible refine is_store 30 _ _ rfl ?_); refine wpList_store_cell rfl 30 _ _ rfl _ 2 rfl (.int .i16 n) rfl ((dt c y 0 0 0)) _ (by with_reducible assumption) (by rw [dt_size]; omega) (by kernel_rfl) rfl ((dt c y n 0 0)) (dt_s2 _ _ _ _ _ _) ?_) | ((with_reducible refine is_store 27 _ _ rfl ?_); refine wpList_store_cell rfl 27 _ _ rfl _ 3 rfl (.float .f32 f) rfl ((dt c y n 0 0)) _ (by with_reducible assumption) (by rw [dt_size]; omega) (by kernel_rfl) rfl ((dt c y n f 0)) (dt_s3 _ _ _ _ _ _) ?_) | ((with_reducible refine is_store 2 _ _ rfl ?_); refine wpList_store_cell rfl 2 _ _ rfl _ 4 rfl (.int .i64 t) rfl ((dt c y n f 0)) _ (by with_reducible assumption) (by rw [dt_size]; omega) (by kernel_rfl) rfl ((dt c y n f t)) (dt_s4 _ _ _ _ _ _) ?_) | ((with_reducible refine is_load 98 _ rfl ?_); refine wpList_load_at rfl 98 _ rfl _ rfl ((dt c y n f t)) _ (by with_reducible assumption) 5 (dt_size _ _ _ _ _) _ Try.underlying98 rfl (by kernel_rfl) ?_) | ((with_reducible refine is_store 98 _ _ rfl ?_); refine wpList_store_at rfl 98 _ _ rfl _ rfl ((dt c y n f t)) rfl (#[.int .i64 0, .float .f32 0, .int .i16 0, .float .f32 0, .int .i64 0]) _ (by with_reducible assumption) 5 (dt_size _ _ _ _ _) (rfl) (by kernel_rfl) (dt_one _ _ _ _ _) ?_))
  exact bodyPost_ret (v := .agg (dt c y n f t)) (results_at (p := 2) (ty := 98) rfl _ _ _ (dt c y n f t) _ rfl R9 _ Try.underlying98 rfl 5 (dt_size _ _ _ _ _) (by kernel_rfl)) rfl ⟨rfl, B9.out⟩

theorem eqDetector_same (c : Int) (y : Nat) (n : Int) (f : Nat) (t : Int) (hy : y < 4294967296 ∧ nanB y = false) (hf : f < 4294967296 ∧ nanB f = false) (w : World) :
    Calls Try.prog 65 #[.agg (dt c y n f t), .agg (dt c y n f t)] w fun e w' => e = .returned (.bool true) ∧ Below w.heap.size w w' := by
  have T0 := Two.mk w (dt c y n f t) 98 (dt c y n f t) 98
  have c0 := T0.cell1 (dt_0 _ _ _ _ _)
  have c1 := T0.cell1 (dt_1 _ _ _ _ _)
  have c2 := T0.cell1 (dt_2 _ _ _ _ _)
  have c3 := T0.cell1 (dt_3 _ _ _ _ _)
  have c4 := T0.cell1 (dt_4 _ _ _ _ _)
  have d0 := T0.cell2 (dt_0 _ _ _ _ _)
  have d1 := T0.cell2 (dt_1 _ _ _ _ _)
  have d2 := T0.cell2 (dt_2 _ _ _ _ _)
  have d3 := T0.cell2 (dt_3 _ _ _ _ _)
  have d4 := T0.cell2 (dt_4 _ _ _ _ _)
  have wy := wide_at hy.1 hy.2
  have wf := wide_at hf.1 hf.2
  have B0 := Lib.hid T0
  clear T0
  go_enter Try.func65, Try.ntmps65
  go_wp2_with fail
  refine (sameFloat_rd _ hy.1 hy.2 _).mono ?_
  rintro e w1 ⟨rfl, n1, rfl⟩
  have T1 := B0.out.drewN n1
  clear c0 c1 c2 c3 c4 d0 d1 d2 d3 d4 B0
  generalize World.drewN _ n1 = w1 at T1 ⊢
  have c2 := T1.cell1 (dt_2 _ _ _ _ _)
  have c3 := T1.cell1 (dt_3 _ _ _ _ _)
  have c4 := T1.cell1 (dt_4 _ _ _ _ _)
  have d2 := T1.cell2 (dt_2 _ _ _ _ _)
  have d3 := T1.cell2 (dt_3 _ _ _ _ _)
  have d4 := T1.cell2 (dt_4 _ _ _ _ _)
  have B1 := Lib.hid T1
  clear T1
  go_wp2_with fail
  refine (sameFloat_rd _ hf.1 hf.2 _).mono ?_
  rintro e w2 ⟨rfl, n2, rfl⟩
  have T2 := B1.out.drewN n2
  clear c2 c3 c4 d2 d3 d4 B1
  generalize World.drewN _ n2 = w2 at T2 ⊢
  have c4 := T2.cell1 (dt_4 _ _ _ _ _)
  have d4 := T2.cell2 (dt_4 _ _ _ _ _)
  have B2 := Lib.hid T2.2.2
  clear T2
  go_wp2_with fail
  go_ret
  exact ⟨rfl, B2.out⟩

end Go.Proofs.Ytopjikgkoodbmab
