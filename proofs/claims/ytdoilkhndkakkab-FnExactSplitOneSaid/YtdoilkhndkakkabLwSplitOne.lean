/-
  FnExactSplitOne: the program's SplitOne answers as its model, at every nine narrow floats. No condition.
-/
import Derived.Test.YtdoilkhndkakkabLaw
import Derived.Test.YtdoilkhndkakkabSplit
namespace Go.Proofs.Ytdoilkhndkakkab.lawFnExactSplitOne
open Go Go.ChangeShapes Go.WideShapes Go.ChangeAt Go.RowKit

set_option maxRecDepth 100000
set_option maxHeartbeats 400000 in
theorem walk (s : Nat) (hs : s < 4294967296) (xs : List Nat) (hl : xs.length = 4) (hc : ∀ x ∈ xs, x < 4294967296) (ys : List Nat) (hl' : ys.length = 4) (hc' : ∀ x ∈ ys, x < 4294967296) (w : World) :
    Calls Try.prog 4 #[.float .f32 s, .agg (fl xs), .agg (fl ys)] w (True? w) := by
  have X0 : At ((w.alloc (.cells (fl xs) 28)).alloc (.cells (fl ys) 28)) w.heap.size (fl xs) 28 := (At.new w _ _).alloc _
  have Y0 : At ((w.alloc (.cells (fl xs) 28)).alloc (.cells (fl ys) 28)) (w.heap.size + 1) (fl ys) 28 := At.last1 w _ _ _
  have B0 := Lib.hid (bnew (b0 w (.cells (fl xs) 28)) (.cells (fl ys) 28))
  have SX : (fl xs).size = 4 := by rw [fl_size, hl]
  have SY : (fl ys).size = 4 := by rw [fl_size, hl']
  have KX := toFour_any xs hl
  have KY := toFour_any ys hl'
  have KS := sSplitOne_b s hs xs hl hc ys hl' hc'
  have KI := SplitOne_b s hs xs hl hc ys hl' hc'
  obtain ⟨hv1, hv2⟩ := vSplit_good s xs ys
  have hw := wide_at hv1 hv2
  go_enter Try.func4, Try.ntmps4
  go_wp2
  generalize ((w.alloc (.cells (fl xs) 28)).alloc (.cells (fl ys) 28)) = w0 at X0 Y0 B0 ⊢
  have hC := Cb.const w0
  refine wp_region_cb (by kernel_rfl) (by kernel_rfl) ?_
  repeat (first
    | go_big_quiet_skip
    | (go_big_quiet_want; first
      | (refine q_row 28 _ rfl rfl X0 4 SX _ Try.underlying28 rfl (by kernel_rfl) ?_; go_simp; go_big_quiet_on)
      | (refine q_row 28 _ rfl rfl Y0 4 SY _ Try.underlying28 rfl (by kernel_rfl) ?_; go_simp; go_big_quiet_on)
      | (go_big_quiet_op; go_big_quiet_on)
      | (go_big_quiet_op; apply Exists.intro; refine ⟨fun w' hw' => ?_, ?_⟩; (go_at_call 18; (with_reducible show Calls _ _ #[.agg (fl xs)] _ _); exact (KX _).mono fun _ _ h => ⟨h.1, hw'.step h.2⟩); go_big_quiet_on)
      | (go_big_quiet_op; apply Exists.intro; refine ⟨fun w' hw' => ?_, ?_⟩; (go_at_call 18; (with_reducible show Calls _ _ #[.agg (fl ys)] _ _); exact (KY _).mono fun _ _ h => ⟨h.1, hw'.step h.2⟩); go_big_quiet_on)
      | (go_big_quiet_op; apply Exists.intro; refine ⟨fun w' hw' => ?_, ?_⟩; (go_at_call 17; (with_reducible show Calls _ _ #[.float .f32 s, .agg (fl xs), .agg (fl ys)] _ _); exact (KS _).mono fun _ _ h => ⟨h.1, hw'.step h.2⟩); go_big_quiet_on)))
  refine wpQuiet_nil ?_
  intro w1 hw1
  have X1 := X0.step hw1
  have Y1 := Y0.step hw1
  have B1 := Lib.hid (bthen B0.out hw1)
  clear X0 Y0 B0 hw1 hC
  go_wp2
  have hC := Cb.const w1
  refine wp_region_cb (by kernel_rfl) (by kernel_rfl) ?_
  repeat (first
    | go_big_quiet_skip
    | (go_big_quiet_want; first
      | (refine q_row 28 _ rfl rfl X1 4 SX _ Try.underlying28 rfl (by kernel_rfl) ?_; go_simp; go_big_quiet_on)
      | (refine q_row 28 _ rfl rfl Y1 4 SY _ Try.underlying28 rfl (by kernel_rfl) ?_; go_simp; go_big_quiet_on)
      | (go_big_quiet_op; go_big_quiet_on)
      | (go_big_quiet_op; apply Exists.intro; refine ⟨fun w' hw' => ?_, ?_⟩; (go_at_call 18; (with_reducible show Calls _ _ #[.agg (fl xs)] _ _); exact (KX _).mono fun _ _ h => ⟨h.1, hw'.step h.2⟩); go_big_quiet_on)
      | (go_big_quiet_op; apply Exists.intro; refine ⟨fun w' hw' => ?_, ?_⟩; (go_at_call 18; (with_reducible show Calls _ _ #[.agg (fl ys)] _ _); exact (KY _).mono fun _ _ h => ⟨h.1, hw'.step h.2⟩); go_big_quiet_on)
      | (go_big_quiet_op; apply Exists.intro; refine ⟨fun w' hw' => ?_, ?_⟩; (go_at_call 19; (with_reducible show Calls _ _ #[.float .f32 s, .agg (fl xs), .agg (fl ys)] _ _); exact (KI _).mono fun _ _ h => ⟨h.1, hw'.step h.2⟩); go_big_quiet_on)))
  refine wpQuiet_nil ?_
  intro w2 hw2
  have B2 := Lib.hid (bthen B1.out hw2)
  clear X1 Y1 B1 hw2 hC
  go_wp2_with fail
  refine (sameFloat_same _ hv1 hv2 _).mono ?_
  rintro e w5 ⟨rfl, rfl⟩
  go_wp2_with fail
  go_ret
  exact ⟨rfl, B2.out⟩

set_option maxRecDepth 100000 in
theorem lifted (os : Os) (started : os.Started) (H : Type) (enc : TypeId × Value → H) :
    ReturnsInHanded {} Try.checked os 4 .any (Rows.fnExactSplitOneSpec.pre6 enc Try.prog Try.f4 Rows.fnExactSplitOneRow.domain false) (Rows.fnExactSplitOneSpec.post enc Try.prog Try.f4 false true false false) := by
  refine law_lifted enc os started (by kernel_rfl) Try.func4
    (ChangeSpec.witness6 (enc := enc) (C := Try.checked) false ⟨#[], #[.float .f32 0, .agg (Array.replicate 4 (.float .f32 0)), .agg (Array.replicate 4 (.float .f32 0))], []⟩ 24 (by kernel_rfl) (by kernel_rfl) (by kernel_rfl) (by kernel_rfl)) rfl (by kernel_rfl) ?_ ?_ ?_
  · rw [Try.params4]
    intro t ht
    have hall : (#[22, 28, 28].toList.all fun u => Try.prog.readableRec u && decide (u < Try.prog.types.size)) = true := by kernel_rfl
    have := List.all_eq_true.1 hall t ht
    simpa using this
  · intro ds h
    rw [Try.params4] at h
    match ds, h with
    | [d0, d1, d2], _ => rfl
  · intro W base args hl hval
    rw [Try.params4] at hl hval
    obtain ⟨v0, v1, v2, rfl⟩ : ∃ v0 v1 v2, args = #[v0, v1, v2] := by
      obtain ⟨l⟩ := args
      match l, hl with
      | [v0, v1, v2], _ => exact ⟨v0, v1, v2, rfl⟩
    obtain ⟨x0, rfl, h0⟩ := shape_f32 (hval 0 _ _ rfl rfl)
    obtain ⟨c1, rfl, hl1, hc1⟩ := shape_fl (n := 4) Try.underlying28 rfl (by kernel_rfl) (by kernel_rfl) (hval 1 _ _ rfl rfl)
    obtain ⟨c2, rfl, hl2, hc2⟩ := shape_fl (n := 4) Try.underlying28 rfl (by kernel_rfl) (by kernel_rfl) (hval 2 _ _ rfl rfl)
    exact walk x0 h0 c1 hl1 hc1 c2 hl2 hc2 W

/-- THE STATEMENT -/
theorem proved : Rows.FnExactSplitOneSaid :=
  OpenClaim.holds_of_wide 4 Try.f4 rfl rfl rfl rfl rfl rfl rfl ⟨rfl, rfl, rfl, rfl, rfl⟩ rfl rfl rfl rfl rfl (by kernel_rfl) Try.func4 (by kernel_rfl)
    (of_decide_eq_true (by kernel_rfl)) (by unfold Func.isWrapper; first | (rw [if_pos (by decide +kernel)]; kernel_rfl) | (rw [if_neg (by decide +kernel)]; exact ⟨rfl, rfl⟩))
    (fun os started H enc _ => lifted os started H enc)
#print axioms proved
end Go.Proofs.Ytdoilkhndkakkab.lawFnExactSplitOne
