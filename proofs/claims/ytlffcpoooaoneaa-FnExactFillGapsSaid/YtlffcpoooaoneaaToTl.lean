/-
  CONTRACTS: tallies, a law's made the program's, and held against each other.
-/
import Derived.Test.YtlffcpoooaoneaaTl
import Derived.Test.YtlffcpoooaoneaaMix
import Derived.Test.YtlffcpoooaoneaaPiece
import Derived.Test.YtlffcpoooaoneaaJn
import Derived.Test.YtlffcpoooaoneaaOneCell
import Derived.Test.YtlffcpoooaoneaaLaw
import Derived.Deep.LoopGhost
import Derived.IntWalk
namespace Go.Proofs.Ytlffcpoooaoneaa
open Go Go.ChangeShapes Go.WideShapes Go.ChangeAt Go.RowKit
set_option maxRecDepth 100000

theorem toTally_any (t c f : Int) (w : World) :
    Calls Try.prog 72 #[.agg (t1 t c f)] w fun e w' => e = .returned (.agg (t1 t c f)) ∧ Below w.heap.size w w' := by
  have A0 : At (((w.alloc (.cells (t1 t c f) 113)).alloc (.cells #[.int .i64 0, .int .i16 0, .int .i16 0] 111)).alloc (.cells #[.int .i64 0, .int .i16 0, .int .i16 0] 111)) w.heap.size (t1 t c f) 113 := ((At.new w _ _).alloc _).alloc _
  have R0 : At (((w.alloc (.cells (t1 t c f) 113)).alloc (.cells #[.int .i64 0, .int .i16 0, .int .i16 0] 111)).alloc (.cells #[.int .i64 0, .int .i16 0, .int .i16 0] 111)) (w.heap.size + 1) #[.int .i64 0, .int .i16 0, .int .i16 0] 111 := (At.last1 w _ _ _).alloc _
  have L0 : At (((w.alloc (.cells (t1 t c f) 113)).alloc (.cells #[.int .i64 0, .int .i16 0, .int .i16 0] 111)).alloc (.cells #[.int .i64 0, .int .i16 0, .int .i16 0] 111)) (w.heap.size + 1 + 1) #[.int .i64 0, .int .i16 0, .int .i16 0] 111 := by
    have := At.new ((w.alloc (.cells (t1 t c f) 113)).alloc (.cells #[.int .i64 0, .int .i16 0, .int .i16 0] 111)) #[.int .i64 0, .int .i16 0, .int .i16 0] 111
    rwa [World.size_alloc, World.size_alloc] at this
  have B0 := Lib.hid (bnew (bnew (b0 w (.cells (t1 t c f) 113)) (.cells #[.int .i64 0, .int .i16 0, .int .i16 0] 111)) (.cells #[.int .i64 0, .int .i16 0, .int .i16 0] 111))
  have A2 := A0.setRow_other (k := w.heap.size + 1 + 1) (by omega) (t1 t 0 0)
  have R2 := R0.setRow_other (k := w.heap.size + 1 + 1) (by omega) (t1 t 0 0)
  have L2 := L0.setRow (t1 t 0 0)
  have B2 := Lib.hid (bset B0.out (g := w.heap.size + 1 + 1) (by omega) (t1 t 0 0))
  have A3 := A2.setRow_other (k := w.heap.size + 1 + 1) (by omega) (t1 t c 0)
  have R3 := R2.setRow_other (k := w.heap.size + 1 + 1) (by omega) (t1 t c 0)
  have L3 := L2.setRow (t1 t c 0)
  have B3 := Lib.hid (bset B2.out (g := w.heap.size + 1 + 1) (by omega) (t1 t c 0))
  have R4 := R3.setRow_other (k := w.heap.size + 1 + 1) (by omega) (t1 t c f)
  have L4 := L3.setRow (t1 t c f)
  have B4 := Lib.hid (bset B3.out (g := w.heap.size + 1 + 1) (by omega) (t1 t c f))
  have R9 := R4.setRow (t1 t c f)
  have B9 := Lib.hid (bset B4.out (g := w.heap.size + 1) (by omega) (t1 t c f))
  go_enter Try.func72, Try.ntmps72
  go_wp2_with (first | ((with_reducible refine is_load 2 _ rfl ?_); refine wpList_load_cell rfl 2 _ rfl _ 0 rfl ((t1 t c f)) _ (by with_reducible assumption) _ Try.underlying2 rfl (.int .i64 t) (t1_0 _ _ _) ?_) | ((with_reducible refine is_load 34 _ rfl ?_); refine wpList_load_cell rfl 34 _ rfl _ 1 rfl ((t1 t c f)) _ (by with_reducible assumption) _ Try.underlying34 rfl (.int .i16 c) (t1_1 _ _ _) ?_) | ((with_reducible refine is_load 34 _ rfl ?_); refine wpList_load_cell rfl 34 _ rfl _ 2 rfl ((t1 t c f)) _ (by with_reducible assumption) _ Try.underlying34 rfl (.int .i16 f) (t1_2 _ _ _) ?_) | ((with_reducible refine is_store 2 _ _ rfl ?_); refine wpList_store_cell rfl 2 _ _ rfl _ 0 rfl (.int .i64 t) rfl (#[.int .i64 0, .int .i16 0, .int .i16 0]) _ (by with_reducible assumption) (by decide) (by kernel_rfl) rfl (t1 t 0 0) (t1_sz _) ?_) | ((with_reducible refine is_store 34 _ _ rfl ?_); refine wpList_store_cell rfl 34 _ _ rfl _ 1 rfl (.int .i16 c) rfl (t1 t 0 0) _ (by with_reducible assumption) (by rw [t1_size]; omega) (by kernel_rfl) rfl (t1 t c 0) (t1_s1 _ _ _ _) ?_) | ((with_reducible refine is_store 34 _ _ rfl ?_); refine wpList_store_cell rfl 34 _ _ rfl _ 2 rfl (.int .i16 f) rfl (t1 t c 0) _ (by with_reducible assumption) (by rw [t1_size]; omega) (by kernel_rfl) rfl (t1 t c f) (t1_s2 _ _ _ _) ?_) | ((with_reducible refine is_load 111 _ rfl ?_); refine wpList_load_at rfl 111 _ rfl _ rfl ((t1 t c f)) _ (by with_reducible assumption) 3 (t1_size _ _ _) _ Try.underlying111 rfl (by kernel_rfl) ?_) | ((with_reducible refine is_store 111 _ _ rfl ?_); refine wpList_store_at rfl 111 _ _ rfl _ rfl ((t1 t c f)) rfl (#[.int .i64 0, .int .i16 0, .int .i16 0]) _ (by with_reducible assumption) 3 (t1_size _ _ _) (rfl) (by kernel_rfl) (t1_one _ _ _) ?_))
  exact bodyPost_ret (v := .agg (t1 t c f)) (results_at (p := 2) (ty := 111) rfl _ _ _ (t1 t c f) _ rfl R9 _ Try.underlying111 rfl 3 (t1_size _ _ _) (by kernel_rfl)) rfl ⟨rfl, B9.out⟩

/-- two tallies are held against each other -/
theorem eqTally_same (t c f : Int) (w : World) :
    Calls Try.prog 77 #[.agg (t1 t c f), .agg (t1 t c f)] w fun e w' => e = .returned (.bool true) ∧ Below w.heap.size w w' := by
  have A1 : At ((w.alloc (.cells (t1 t c f) 111)).alloc (.cells (t1 t c f) 111)) w.heap.size (t1 t c f) 111 := (At.new w _ _).alloc _
  have A2 : At ((w.alloc (.cells (t1 t c f) 111)).alloc (.cells (t1 t c f) 111)) (w.heap.size + 1) (t1 t c f) 111 := At.last1 w _ _ _
  have B0 := Lib.hid (bnew (b0 w (.cells (t1 t c f) 111)) (.cells (t1 t c f) 111))
  have c0 := A1.cell (t1_0 _ _ _)
  have c1 := A1.cell (t1_1 _ _ _)
  have c2 := A1.cell (t1_2 _ _ _)
  have d0 := A2.cell (t1_0 _ _ _)
  have d1 := A2.cell (t1_1 _ _ _)
  have d2 := A2.cell (t1_2 _ _ _)
  clear A1 A2
  go_enter Try.func77, Try.ntmps77
  go_wp2
  go_ret
  exact ⟨rfl, B0.out⟩

end Go.Proofs.Ytlffcpoooaoneaa
