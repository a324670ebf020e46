/-
  FnExactReadOff: the program's ReadOff answers as its model, at every detector. No condition.
-/
import Derived.Test.YteoplkhhlligcaaReadS
import Derived.Test.YteoplkhhlligcaaReadI
import Derived.Test.YteoplkhhlligcaaToDet
import Derived.Test.YteoplkhhlligcaaShDet
import Derived.Test.YteoplkhhlligcaaLaw
namespace Go.Proofs.Yteoplkhhlligcaa.lawFnExactReadOff
open Go Go.ChangeShapes Go.WideShapes Go.ChangeAt Go.RowKit

set_option maxHeartbeats 1000000 in
theorem walk (c : Int) (y : Nat) (n : Int) (f : Nat) (t : Int) (_hc : I64t c) (hy : y < 4294967296) (_hn : I16 n) (hf : f < 4294967296) (_ht : I64t t) (u : Int) (_hu : -9223372036854775808 ≤ u ∧ u ≤ 9223372036854775807) (w : World) :
    Calls Try.prog 7 #[.agg (dt c y n f t), .int .i64 u] w (True? w) := by
  have A0 := At.new w (dt c y n f t) 27
  have B0 := Lib.hid (b0 w (.cells (dt c y n f t) 27))
  have KS := fun w => sReadOff_any c y n f t hy hf u w
  have KI := fun w => ReadOff_any c y n f t hy hf u w
  have hq := vRead_y (c := c) (y := y) (n := n) (f := f) (t := t) (u := u)
  generalize vRead c y n f t u = q at KS KI hq
  obtain ⟨qa, qb, qf, qc, qy, cd⟩ := q
  simp only at KS KI hq
  go_enter Try.func7, Try.ntmps7
  go_wp2_with (first | ((with_reducible refine is_load 27 _ rfl ?_); refine wpList_load_at rfl 27 _ rfl _ rfl ((dt c y n f t)) _ (by with_reducible assumption) 5 (dt_size _ _ _ _ _) _ Try.underlying27 rfl (by kernel_rfl) ?_) | ((with_reducible refine is_store 38 _ _ rfl ?_); refine wpList_store_at rfl 38 _ _ rfl _ rfl ((t1 qa qb qf)) rfl (#[.int .i64 0, .int .i16 0, .int .i16 0]) _ (by with_reducible assumption) 3 (t1_size _ _ _) (rfl) (by kernel_rfl) (t1_one _ _ _) ?_) | ((with_reducible refine is_store 29 _ _ rfl ?_); refine wpList_store_at rfl 29 _ _ rfl _ rfl ((dt qc qy 0 0 0)) rfl (#[.int .i64 0, .float .f32 0, .int .i16 0, .float .f32 0, .int .i64 0]) _ (by with_reducible assumption) 5 (dt_size _ _ _ _ _) (rfl) (by kernel_rfl) (dt_one _ _ _ _ _) ?_) | ((with_reducible refine is_load 38 _ rfl ?_); refine wpList_load_at rfl 38 _ rfl _ rfl ((t1 qa qb qf)) _ (by with_reducible assumption) 3 (t1_size _ _ _) _ Try.underlying38 rfl (by kernel_rfl) ?_) | ((with_reducible refine is_load 29 _ rfl ?_); refine wpList_load_at rfl 29 _ rfl _ rfl ((dt qc qy 0 0 0)) _ (by with_reducible assumption) 5 (dt_size _ _ _ _ _) _ Try.underlying29 rfl (by kernel_rfl) ?_))
  refine (toDetector_any c y n f t _).mono ?_
  rintro e w1 ⟨rfl, hb1⟩
  have A1 := A0.step hb1
  have B1 := Lib.hid (bthen B0.out hb1)
  clear A0 B0 hb1
  go_wp2_with fail
  refine (KS _).mono ?_
  rintro e w2 ⟨rfl, hb2⟩
  have X2 : At ((w2.alloc (.cells #[.int .i64 0, .int .i16 0, .int .i16 0] 38)).alloc (.cells #[.int .i64 0, .float .f32 0, .int .i16 0, .float .f32 0, .int .i64 0] 29)) w2.heap.size #[.int .i64 0, .int .i16 0, .int .i16 0] 38 := (At.new w2 _ _).alloc _
  have Y2 : At ((w2.alloc (.cells #[.int .i64 0, .int .i16 0, .int .i16 0] 38)).alloc (.cells #[.int .i64 0, .float .f32 0, .int .i16 0, .float .f32 0, .int .i64 0] 29)) (w2.heap.size + 1) #[.int .i64 0, .float .f32 0, .int .i16 0, .float .f32 0, .int .i64 0] 29 := At.last1 w2 _ _ _
  have Y2a := Y2.setRow_other (k := w2.heap.size) (by omega) (t1 qa qb qf)
  have X2b := (X2.setRow (t1 qa qb qf)).setRow_other (k := w2.heap.size + 1) (by omega) (dt qc qy 0 0 0)
  have Y2b := Y2a.setRow (dt qc qy 0 0 0)
  have hv2 : Below w2.heap.size w2 ((((w2.alloc (.cells #[.int .i64 0, .int .i16 0, .int .i16 0] 38)).alloc (.cells #[.int .i64 0, .float .f32 0, .int .i16 0, .float .f32 0, .int .i64 0] 29)).setRow w2.heap.size (t1 qa qb qf)).setRow (w2.heap.size + 1) (dt qc qy 0 0 0)) := bset (bset (bnew (b0 w2 (.cells #[.int .i64 0, .int .i16 0, .int .i16 0] 38)) (.cells #[.int .i64 0, .float .f32 0, .int .i16 0, .float .f32 0, .int .i64 0] 29)) (g := w2.heap.size) (Nat.le_refl _) (t1 qa qb qf)) (g := w2.heap.size + 1) (by omega) (dt qc qy 0 0 0)
  have A2 := (A1.step hb2).step hv2
  have c2a := Y2a
  have B2 := Lib.hid (bthen (bthen B1.out hb2) hv2)
  have A2x := (((A1.step hb2).alloc (.cells #[.int .i64 0, .int .i16 0, .int .i16 0] 38)).alloc (.cells #[.int .i64 0, .float .f32 0, .int .i16 0, .float .f32 0, .int .i64 0] 29))
  clear A1 B1 hb2 hv2
  go_wp2_with (first | ((with_reducible refine is_load 27 _ rfl ?_); refine wpList_load_at rfl 27 _ rfl _ rfl ((dt c y n f t)) _ (by with_reducible assumption) 5 (dt_size _ _ _ _ _) _ Try.underlying27 rfl (by kernel_rfl) ?_) | ((with_reducible refine is_store 38 _ _ rfl ?_); refine wpList_store_at rfl 38 _ _ rfl _ rfl ((t1 qa qb qf)) rfl (#[.int .i64 0, .int .i16 0, .int .i16 0]) _ (by with_reducible assumption) 3 (t1_size _ _ _) (rfl) (by kernel_rfl) (t1_one _ _ _) ?_) | ((with_reducible refine is_store 29 _ _ rfl ?_); refine wpList_store_at rfl 29 _ _ rfl _ rfl ((dt qc qy 0 0 0)) rfl (#[.int .i64 0, .float .f32 0, .int .i16 0, .float .f32 0, .int .i64 0]) _ (by with_reducible assumption) 5 (dt_size _ _ _ _ _) (rfl) (by kernel_rfl) (dt_one _ _ _ _ _) ?_) | ((with_reducible refine is_load 38 _ rfl ?_); refine wpList_load_at rfl 38 _ rfl _ rfl ((t1 qa qb qf)) _ (by with_reducible assumption) 3 (t1_size _ _ _) _ Try.underlying38 rfl (by kernel_rfl) ?_) | ((with_reducible refine is_load 29 _ rfl ?_); refine wpList_load_at rfl 29 _ rfl _ rfl ((dt qc qy 0 0 0)) _ (by with_reducible assumption) 5 (dt_size _ _ _ _ _) _ Try.underlying29 rfl (by kernel_rfl) ?_))
  clear X2 Y2 Y2a c2a A2x
  generalize ((((w2.alloc (.cells #[.int .i64 0, .int .i16 0, .int .i16 0] 38)).alloc (.cells #[.int .i64 0, .float .f32 0, .int .i16 0, .float .f32 0, .int .i64 0] 29)).setRow w2.heap.size (t1 qa qb qf)).setRow (w2.heap.size + 1) (dt qc qy 0 0 0)) = v2 at X2b Y2b A2 B2 ⊢
  refine (toDetector_any c y n f t _).mono ?_
  rintro e w3 ⟨rfl, hb3⟩
  have X3 := X2b.step hb3
  have Y3 := Y2b.step hb3
  have B3 := Lib.hid (bthen B2.out hb3)
  clear X2b Y2b A2 B2 hb3
  go_wp2_with fail
  refine (KI _).mono ?_
  rintro e w4 ⟨rfl, hb4⟩
  have X4 : At ((w4.alloc (.cells #[.int .i64 0, .int .i16 0, .int .i16 0] 38)).alloc (.cells #[.int .i64 0, .float .f32 0, .int .i16 0, .float .f32 0, .int .i64 0] 29)) w4.heap.size #[.int .i64 0, .int .i16 0, .int .i16 0] 38 := (At.new w4 _ _).alloc _
  have Y4 : At ((w4.alloc (.cells #[.int .i64 0, .int .i16 0, .int .i16 0] 38)).alloc (.cells #[.int .i64 0, .float .f32 0, .int .i16 0, .float .f32 0, .int .i64 0] 29)) (w4.heap.size + 1) #[.int .i64 0, .float .f32 0, .int .i16 0, .float .f32 0, .int .i64 0] 29 := At.last1 w4 _ _ _
  have Y4a := Y4.setRow_other (k := w4.heap.size) (by omega) (t1 qa qb qf)
  have X4b := (X4.setRow (t1 qa qb qf)).setRow_other (k := w4.heap.size + 1) (by omega) (dt qc qy 0 0 0)
  have Y4b := Y4a.setRow (dt qc qy 0 0 0)
  have hv4 : Below w4.heap.size w4 ((((w4.alloc (.cells #[.int .i64 0, .int .i16 0, .int .i16 0] 38)).alloc (.cells #[.int .i64 0, .float .f32 0, .int .i16 0, .float .f32 0, .int .i64 0] 29)).setRow w4.heap.size (t1 qa qb qf)).setRow (w4.heap.size + 1) (dt qc qy 0 0 0)) := bset (bset (bnew (b0 w4 (.cells #[.int .i64 0, .int .i16 0, .int .i16 0] 38)) (.cells #[.int .i64 0, .float .f32 0, .int .i16 0, .float .f32 0, .int .i64 0] 29)) (g := w4.heap.size) (Nat.le_refl _) (t1 qa qb qf)) (g := w4.heap.size + 1) (by omega) (dt qc qy 0 0 0)
  have X5 := (X3.step hb4).step hv4
  have Y5 := (Y3.step hb4).step hv4
  have B5 := Lib.hid (bthen (bthen B3.out hb4) hv4)
  clear X3 Y3 B3 hb4 hv4
  go_wp2_with (first | ((with_reducible refine is_load 27 _ rfl ?_); refine wpList_load_at rfl 27 _ rfl _ rfl ((dt c y n f t)) _ (by with_reducible assumption) 5 (dt_size _ _ _ _ _) _ Try.underlying27 rfl (by kernel_rfl) ?_) | ((with_reducible refine is_store 38 _ _ rfl ?_); refine wpList_store_at rfl 38 _ _ rfl _ rfl ((t1 qa qb qf)) rfl (#[.int .i64 0, .int .i16 0, .int .i16 0]) _ (by with_reducible assumption) 3 (t1_size _ _ _) (rfl) (by kernel_rfl) (t1_one _ _ _) ?_) | ((with_reducible refine is_store 29 _ _ rfl ?_); refine wpList_store_at rfl 29 _ _ rfl _ rfl ((dt qc qy 0 0 0)) rfl (#[.int .i64 0, .float .f32 0, .int .i16 0, .float .f32 0, .int .i64 0]) _ (by with_reducible assumption) 5 (dt_size _ _ _ _ _) (rfl) (by kernel_rfl) (dt_one _ _ _ _ _) ?_) | ((with_reducible refine is_load 38 _ rfl ?_); refine wpList_load_at rfl 38 _ rfl _ rfl ((t1 qa qb qf)) _ (by with_reducible assumption) 3 (t1_size _ _ _) _ Try.underlying38 rfl (by kernel_rfl) ?_) | ((with_reducible refine is_load 29 _ rfl ?_); refine wpList_load_at rfl 29 _ rfl _ rfl ((dt qc qy 0 0 0)) _ (by with_reducible assumption) 5 (dt_size _ _ _ _ _) _ Try.underlying29 rfl (by kernel_rfl) ?_))
  clear X4 Y4 Y4a
  generalize ((((w4.alloc (.cells #[.int .i64 0, .int .i16 0, .int .i16 0] 38)).alloc (.cells #[.int .i64 0, .float .f32 0, .int .i16 0, .float .f32 0, .int .i64 0] 29)).setRow w4.heap.size (t1 qa qb qf)).setRow (w4.heap.size + 1) (dt qc qy 0 0 0)) = v4 at X4b Y4b X5 Y5 B5 ⊢
  refine (eqTally_same qa qb qf _).mono ?_
  rintro e w6 ⟨rfl, hb6⟩
  have Y4c := Y4b.step hb6
  have Y5c := Y5.step hb6
  have B6 := Lib.hid (bthen B5.out hb6)
  clear X4b Y4b X5 Y5 B5 hb6
  have y0 := Y4c.cell (dt_0 _ _ _ _ _)
  have y1 := Y4c.cell (dt_1 _ _ _ _ _)
  have y2 := Y4c.cell (dt_2 _ _ _ _ _)
  have y3 := Y4c.cell (dt_3 _ _ _ _ _)
  have y4 := Y4c.cell (dt_4 _ _ _ _ _)
  have z0 := Y5c.cell (dt_0 _ _ _ _ _)
  have z1 := Y5c.cell (dt_1 _ _ _ _ _)
  have z2 := Y5c.cell (dt_2 _ _ _ _ _)
  have z3 := Y5c.cell (dt_3 _ _ _ _ _)
  have z4 := Y5c.cell (dt_4 _ _ _ _ _)
  go_wp2_with fail
  refine (eqDetector_same qc qy 0 0 0 hq (by decide) _).mono ?_
  rintro e w7 ⟨rfl, hb7⟩
  go_wp2_with fail
  go_ret
  exact ⟨rfl, bthen B6.out hb7⟩

set_option maxRecDepth 100000 in
theorem lifted (os : Os) (started : os.Started) (H : Type) (enc : TypeId × Value → H) :
    ReturnsInHanded {} Try.checked os 7 .any (Rows.fnExactReadOffSpec.pre6 enc Try.prog Try.f7 Rows.fnExactReadOffRow.domain false) (Rows.fnExactReadOffSpec.post enc Try.prog Try.f7 false true false false) := by
  refine law_lifted enc os started (by kernel_rfl) Try.func7
    (ChangeSpec.witness6 (enc := enc) (C := Try.checked) false ⟨#[], #[.agg #[.int .i64 0, .float .f32 0, .int .i16 0, .float .f32 0, .int .i64 0], .int .i64 0], []⟩ 24 (by kernel_rfl) (by kernel_rfl) (by kernel_rfl) (by kernel_rfl)) rfl (by kernel_rfl) ?_ ?_ ?_
  · rw [Try.params7]
    intro t ht
    have hall : (#[27, 2].toList.all fun u => Try.prog.readableRec u && decide (u < Try.prog.types.size)) = true := by kernel_rfl
    have := List.all_eq_true.1 hall t ht
    simpa using this
  · intro ds h
    rw [Try.params7] at h
    match ds, h with
    | [d0, d1], _ => rfl
  · intro W base args hl hval
    rw [Try.params7] at hl hval
    obtain ⟨v0, v1, rfl⟩ : ∃ v0 v1, args = #[v0, v1] := by
      obtain ⟨l⟩ := args
      match l, hl with
      | [v0, v1], _ => exact ⟨v0, v1, rfl⟩
    obtain ⟨c0, y0, n0, f0, t0, rfl, hc0, hy0, hn0, hf0, ht0⟩ := shape_det (hval 0 _ _ rfl rfl)
    obtain ⟨x1, rfl, h1⟩ := shape_i64 (hval 1 _ _ rfl rfl)
    exact walk c0 y0 n0 f0 t0 hc0 hy0 hn0 hf0 ht0 x1 h1 W

/-- THE STATEMENT -/
theorem proved : Rows.FnExactReadOffSaid :=
  OpenClaim.holds_of_wide 7 Try.f7 rfl rfl rfl rfl rfl rfl rfl ⟨rfl, rfl, rfl, rfl, rfl⟩ rfl rfl rfl rfl rfl (by kernel_rfl) Try.func7 (by kernel_rfl)
    (of_decide_eq_true (by kernel_rfl)) (by unfold Func.isWrapper; first | (rw [if_pos (by decide +kernel)]; kernel_rfl) | (rw [if_neg (by decide +kernel)]; exact ⟨rfl, rfl⟩))
    (fun os started H enc _ => lifted os started H enc)
#print axioms proved
end Go.Proofs.Yteoplkhhlligcaa.lawFnExactReadOff
