/-
  CONTRACTS: are two tallies the same but for their turns?
-/
import Derived.Test.YteoplkhhlligcaaToTls
import Derived.Laws.StructEq
namespace Go.Proofs.Yteoplkhhlligcaa
open Go Go.ChangeShapes Go.WideShapes Go.ChangeAt Go.RowKit
set_option maxRecDepth 100000

theorem isRepeated_any (t c f t2 c2 f2 : Int) (w : World) :
    Calls Try.prog 71 #[.agg (t1 t c f), .agg (t1 t2 c2 f2)] w fun e w' => e = .returned (.bool (decide (c = c2 ∧ f = f2))) ∧ Below w.heap.size w w' := by
  have A0 : At ((w.alloc (.cells (t1 t c f) 38)).alloc (.cells (t1 t2 c2 f2) 38)) w.heap.size (t1 t c f) 38 := (At.new w _ _).alloc _
  have D0 : At ((w.alloc (.cells (t1 t c f) 38)).alloc (.cells (t1 t2 c2 f2) 38)) (w.heap.size + 1) (t1 t2 c2 f2) 38 := At.last1 w _ _ _
  have B0 := Lib.hid (bnew (b0 w (.cells (t1 t c f) 38)) (.cells (t1 t2 c2 f2) 38))
  have z0 := D0.cell (t1_0 _ _ _)
  have A1 := A0.setRow (t1 t2 c f)
  have D1 := D0.setRow_other (k := w.heap.size) (by omega) (t1 t2 c f)
  have B1 := Lib.hid (bset B0.out (g := w.heap.size) (by omega) (t1 t2 c f))
  have c0 := A1.cell (t1_0 _ _ _)
  have c1 := A1.cell (t1_1 _ _ _)
  have c2' := A1.cell (t1_2 _ _ _)
  have d0 := D1.cell (t1_0 _ _ _)
  have d1 := D1.cell (t1_1 _ _ _)
  have d2 := D1.cell (t1_2 _ _ _)
  clear A1 D0 D1 B0
  by_cases p : c = c2
  · by_cases q : f = f2
    · have hv := Lib.hid (decide_eq_true (And.intro p q))
      subst p q
      go_enter Try.func71, Try.ntmps71
      go_wp2_with (((with_reducible refine is_store 2 _ _ rfl ?_); refine wpList_store_cell rfl 2 _ _ rfl _ 0 rfl (.int .i64 t2) rfl (t1 t c f) _ (by with_reducible assumption) (by rw [t1_size]; omega) (by kernel_rfl) rfl (t1 t2 c f) (t1_s0 _ _ _ _) ?_))
      go_ret
      exact ⟨by first | rfl | (rw [hv.out]; rfl), B1.out⟩
    · have hv := Lib.hid (decide_eq_false (fun h : c = c2 ∧ f = f2 => q h.2))
      subst p
      have q1 : (f == f2) = false := by simpa using q
      have q2 : decide (f = f2) = false := decide_eq_false q
      go_enter Try.func71, Try.ntmps71
      go_wp2_with (((with_reducible refine is_store 2 _ _ rfl ?_); refine wpList_store_cell rfl 2 _ _ rfl _ 0 rfl (.int .i64 t2) rfl (t1 t c f) _ (by with_reducible assumption) (by rw [t1_size]; omega) (by kernel_rfl) rfl (t1 t2 c f) (t1_s0 _ _ _ _) ?_))
      go_ret
      exact ⟨by first | rfl | (rw [hv.out]; rfl), B1.out⟩
  · have hv := Lib.hid (decide_eq_false (fun h : c = c2 ∧ f = f2 => p h.1))
    have p1 : (c == c2) = false := by simpa using p
    have p2 : decide (c = c2) = false := decide_eq_false p
    go_enter Try.func71, Try.ntmps71
    go_wp2_with (((with_reducible refine is_store 2 _ _ rfl ?_); refine wpList_store_cell rfl 2 _ _ rfl _ 0 rfl (.int .i64 t2) rfl (t1 t c f) _ (by with_reducible assumption) (by rw [t1_size]; omega) (by kernel_rfl) rfl (t1 t2 c f) (t1_s0 _ _ _ _) ?_))
    go_ret
    exact ⟨by first | rfl | (rw [hv.out]; rfl), B1.out⟩

end Go.Proofs.Yteoplkhhlligcaa
