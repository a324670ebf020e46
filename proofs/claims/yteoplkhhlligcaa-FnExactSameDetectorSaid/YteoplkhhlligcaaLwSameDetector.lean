/-
  FnExactSameDetector: the program's SameDetector answers as its model, at every detector. No condition.
-/
import Derived.Test.YteoplkhhlligcaaSameDI
import Derived.Test.YteoplkhhlligcaaToDet
import Derived.Test.YteoplkhhlligcaaShDet
import Derived.Test.YteoplkhhlligcaaLaw
namespace Go.Proofs.Yteoplkhhlligcaa.lawFnExactSameDetector
open Go Go.ChangeShapes Go.WideShapes Go.ChangeAt Go.RowKit

set_option maxHeartbeats 1000000 in
theorem walk (c : Int) (y : Nat) (n : Int) (f : Nat) (t : Int) (_hc : I64t c) (hy : y < 4294967296) (_hn : I16 n) (hf : f < 4294967296) (_ht : I64t t) (c2 : Int) (y2 : Nat) (n2 : Int) (f2 : Nat) (t2 : Int) (_hc2 : I64t c2) (hy2 : y2 < 4294967296) (_hn2 : I16 n2) (hf2 : f2 < 4294967296) (_ht2 : I64t t2) (w : World) :
    Calls Try.prog 5 #[.agg (dt c y n f t), .agg (dt c2 y2 n2 f2 t2)] w (True? w) := by
  have A0 : At ((w.alloc (.cells (dt c y n f t) 27)).alloc (.cells (dt c2 y2 n2 f2 t2) 27)) w.heap.size (dt c y n f t) 27 := (At.new w _ _).alloc _
  have D0 : At ((w.alloc (.cells (dt c y n f t) 27)).alloc (.cells (dt c2 y2 n2 f2 t2) 27)) (w.heap.size + 1) (dt c2 y2 n2 f2 t2) 27 := At.last1 w _ _ _
  have B0 := Lib.hid (bnew (b0 w (.cells (dt c y n f t) 27)) (.cells (dt c2 y2 n2 f2 t2) 27))
  go_enter Try.func5, Try.ntmps5
  go_wp2_with fail
  generalize (w.alloc (.cells (dt c y n f t) 27)).alloc (.cells (dt c2 y2 n2 f2 t2) 27) = w0 at A0 D0 B0 ⊢
  generalize w.heap.size + 1 = q at D0 ⊢
  generalize hp : w.heap.size = p at A0 ⊢
  clear hp
  have hC := Cb.const w0
  refine wp_region_cb (by kernel_rfl) (by kernel_rfl) ?_
  repeat (first
        | go_big_quiet_skip
        | (go_big_quiet_want; first
          | (refine q_row 27 _ rfl rfl A0 5 (dt_size _ _ _ _ _) _ Try.underlying27 rfl (by kernel_rfl) ?_; go_simp; go_big_quiet_on)
          | (refine q_row 27 _ rfl rfl D0 5 (dt_size _ _ _ _ _) _ Try.underlying27 rfl (by kernel_rfl) ?_; go_simp; go_big_quiet_on)
          | (go_big_quiet_op; go_big_quiet_on)
          | (go_big_quiet_op; apply Exists.intro; refine ⟨fun w' hw' => ?_, ?_⟩; (first | (go_at_call 18; exact (toDetector_any _ _ _ _ _ _).mono fun _ _ h => ⟨h.1, hw'.step h.2⟩) | (go_at_call 20; exact (sSameDetector_any c y n f t hy hf c2 y2 n2 f2 t2 hy2 hf2 _).mono fun _ _ h => ⟨h.1, hw'.step h.2⟩)); go_big_quiet_on)))
  refine wpQuiet_nil ?_
  intro w1 hw1
  have A1 := A0.step hw1
  have D1 := D0.step hw1
  have B1 := Lib.hid (bthen B0.out hw1)
  clear A0 D0 B0 hw1 hC
  go_wp2_with fail
  have hC := Cb.const w1
  refine wp_region_cb (by kernel_rfl) (by kernel_rfl) ?_
  repeat (first
        | go_big_quiet_skip
        | (go_big_quiet_want; first
          | (refine q_row 27 _ rfl rfl A1 5 (dt_size _ _ _ _ _) _ Try.underlying27 rfl (by kernel_rfl) ?_; go_simp; go_big_quiet_on)
          | (refine q_row 27 _ rfl rfl D1 5 (dt_size _ _ _ _ _) _ Try.underlying27 rfl (by kernel_rfl) ?_; go_simp; go_big_quiet_on)
          | (go_big_quiet_op; go_big_quiet_on)
          | (go_big_quiet_op; apply Exists.intro; refine ⟨fun w' hw' => ?_, ?_⟩; (first | (go_at_call 18; exact (toDetector_any _ _ _ _ _ _).mono fun _ _ h => ⟨h.1, hw'.step h.2⟩) | (go_at_call 21; exact (SameDetector_any c y n f t hy hf c2 y2 n2 f2 t2 hy2 hf2 _).mono fun _ _ h => ⟨h.1, hw'.step h.2⟩)); go_big_quiet_on)))
  refine wpQuiet_nil ?_
  intro w2 hw2
  have A2 := A1.step hw2
  have D2 := D1.step hw2
  have B2 := Lib.hid (bthen B1.out hw2)
  clear A1 D1 B1 hw2 hC
  go_wp2_with fail
  go_ret
  exact ⟨rfl, B2.out⟩

set_option maxRecDepth 100000 in
theorem lifted (os : Os) (started : os.Started) (H : Type) (enc : TypeId × Value → H) :
    ReturnsInHanded {} Try.checked os 5 .any (Rows.fnExactSameDetectorSpec.pre6 enc Try.prog Try.f5 Rows.fnExactSameDetectorRow.domain false) (Rows.fnExactSameDetectorSpec.post enc Try.prog Try.f5 false true false false) := by
  refine law_lifted enc os started (by kernel_rfl) Try.func5
    (ChangeSpec.witness6 (enc := enc) (C := Try.checked) false ⟨#[], #[.agg #[.int .i64 0, .float .f32 0, .int .i16 0, .float .f32 0, .int .i64 0], .agg #[.int .i64 0, .float .f32 0, .int .i16 0, .float .f32 0, .int .i64 0]], []⟩ 24 (by kernel_rfl) (by kernel_rfl) (by kernel_rfl) (by kernel_rfl)) rfl (by kernel_rfl) ?_ ?_ ?_
  · rw [Try.params5]
    intro t ht
    have hall : (#[27, 27].toList.all fun u => Try.prog.readableRec u && decide (u < Try.prog.types.size)) = true := by kernel_rfl
    have := List.all_eq_true.1 hall t ht
    simpa using this
  · intro ds h
    rw [Try.params5] at h
    match ds, h with
    | [d0, d1], _ => rfl
  · intro W base args hl hval
    rw [Try.params5] at hl hval
    obtain ⟨v0, v1, rfl⟩ : ∃ v0 v1, args = #[v0, v1] := by
      obtain ⟨l⟩ := args
      match l, hl with
      | [v0, v1], _ => exact ⟨v0, v1, rfl⟩
    obtain ⟨c0, y0, n0, f0, t0, rfl, hc0, hy0, hn0, hf0, ht0⟩ := shape_det (hval 0 _ _ rfl rfl)
    obtain ⟨c1, y1, n1, f1, t1, rfl, hc1, hy1, hn1, hf1, ht1⟩ := shape_det (hval 1 _ _ rfl rfl)
    exact walk c0 y0 n0 f0 t0 hc0 hy0 hn0 hf0 ht0 c1 y1 n1 f1 t1 hc1 hy1 hn1 hf1 ht1 W

/-- THE STATEMENT -/
theorem proved : Rows.FnExactSameDetectorSaid :=
  OpenClaim.holds_of_wide 5 Try.f5 rfl rfl rfl rfl rfl rfl rfl ⟨rfl, rfl, rfl, rfl, rfl⟩ rfl rfl rfl rfl rfl (by kernel_rfl) Try.func5 (by kernel_rfl)
    (of_decide_eq_true (by kernel_rfl)) (by unfold Func.isWrapper; first | (rw [if_pos (by decide +kernel)]; kernel_rfl) | (rw [if_neg (by decide +kernel)]; exact ⟨rfl, rfl⟩))
    (fun os started H enc _ => lifted os started H enc)
#print axioms proved
end Go.Proofs.Yteoplkhhlligcaa.lawFnExactSameDetector
