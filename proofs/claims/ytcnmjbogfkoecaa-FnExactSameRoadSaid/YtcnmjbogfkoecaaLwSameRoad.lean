/-
  FnExactSameRoad: the program's SameRoad answers as its model, at every two roads. No condition.
-/
import Derived.Test.YtcnmjbogfkoecaaLaw
import Derived.Test.YtcnmjbogfkoecaaSameRoadS
namespace Go.Proofs.Ytcnmjbogfkoecaa.lawFnExactSameRoad
open Go Go.ChangeShapes Go.WideShapes Go.ChangeAt Go.RowKit

theorem walk (cs : List Nat) (p b l : Nat) (hl : cs.length = 16) (hc : ∀ x ∈ cs, x < 4294967296) (hp : p < 4294967296) (hb : b < 4294967296) (hla : l < 4294967296) (es : List Nat) (q c m : Nat) (hl' : es.length = 16) (hc' : ∀ x ∈ es, x < 4294967296) (hq' : q < 4294967296) (hb' : c < 4294967296) (hm' : m < 4294967296) (w : World) :
    Calls Try.prog 7 #[.agg (rd cs p b l), .agg (rd es q c m)] w (True? w) := by
  have A0 : At ((w.alloc (.cells (rd cs p b l) 27)).alloc (.cells (rd es q c m) 27)) w.heap.size (rd cs p b l) 27 := (At.new w _ _).alloc _
  have E0 : At ((w.alloc (.cells (rd cs p b l) 27)).alloc (.cells (rd es q c m) 27)) (w.heap.size + 1) (rd es q c m) 27 := At.new1 w _ _ _
  have B0 := Lib.hid (bnew (b0 w (.cells (rd cs p b l) 27)) (.cells (rd es q c m) 27))
  have KA := toRoad_any cs p b l hl
  have KE := toRoad_any es q c m hl'
  have KS := sSameRoad_any cs p b l hl hc hp hb hla es q c m hl' hc' hq' hb' hm'
  have KI := SameRoad_any cs p b l hl hc hp hb hla es q c m hl' hc' hq' hb' hm'
  go_enter Try.func7, Try.ntmps7
  go_wp2
  generalize (w.alloc (.cells (rd cs p b l) 27)).alloc (.cells (rd es q c m) 27) = w0 at A0 E0 B0 ⊢
  have hC := Cb.const w0
  refine wp_region_cb (by kernel_rfl) (by kernel_rfl) ?_
  repeat (first
    | go_big_quiet_skip
    | (go_big_quiet_want; first
      | (refine q_row 27 _ rfl rfl A0 19 (rd_size hl p b l) _ Try.underlying27 rfl (by kernel_rfl) ?_; go_simp; go_big_quiet_on)
      | (refine q_row 27 _ rfl rfl E0 19 (rd_size hl' q c m) _ Try.underlying27 rfl (by kernel_rfl) ?_; go_simp; go_big_quiet_on)
      | (go_big_quiet_op; go_big_quiet_on)
      | (go_big_quiet_op; apply Exists.intro; refine ⟨fun w' hw' => ?_, ?_⟩; (go_at_call 21; (with_reducible show Calls _ _ #[.agg (rd cs p b l)] _ _); exact (KA _).mono fun _ _ h => ⟨h.1, hw'.step h.2⟩); go_big_quiet_on)
      | (go_big_quiet_op; apply Exists.intro; refine ⟨fun w' hw' => ?_, ?_⟩; (go_at_call 21; (with_reducible show Calls _ _ #[.agg (rd es q c m)] _ _); exact (KE _).mono fun _ _ h => ⟨h.1, hw'.step h.2⟩); go_big_quiet_on)
      | (go_big_quiet_op; apply Exists.intro; refine ⟨fun w' hw' => ?_, ?_⟩; (go_at_call 23; (with_reducible show Calls _ _ #[.agg (rd cs p b l), .agg (rd es q c m)] _ _); exact (KS _).mono fun _ _ h => ⟨h.1, hw'.step h.2⟩); go_big_quiet_on)))
  refine wpQuiet_nil ?_
  intro w1 hw1
  have A1 := A0.step hw1
  have E1 := E0.step hw1
  have B1 := Lib.hid (bthen B0.out hw1)
  clear hw1 A0 E0 hC B0
  have hC := Cb.const w1
  go_wp2
  refine wp_region_cb (by kernel_rfl) (by kernel_rfl) ?_
  repeat (first
    | go_big_quiet_skip
    | (go_big_quiet_want; first
      | (refine q_row 27 _ rfl rfl A1 19 (rd_size hl p b l) _ Try.underlying27 rfl (by kernel_rfl) ?_; go_simp; go_big_quiet_on)
      | (refine q_row 27 _ rfl rfl E1 19 (rd_size hl' q c m) _ Try.underlying27 rfl (by kernel_rfl) ?_; go_simp; go_big_quiet_on)
      | (go_big_quiet_op; go_big_quiet_on)
      | (go_big_quiet_op; apply Exists.intro; refine ⟨fun w' hw' => ?_, ?_⟩; (go_at_call 21; (with_reducible show Calls _ _ #[.agg (rd cs p b l)] _ _); exact (KA _).mono fun _ _ h => ⟨h.1, hw'.step h.2⟩); go_big_quiet_on)
      | (go_big_quiet_op; apply Exists.intro; refine ⟨fun w' hw' => ?_, ?_⟩; (go_at_call 21; (with_reducible show Calls _ _ #[.agg (rd es q c m)] _ _); exact (KE _).mono fun _ _ h => ⟨h.1, hw'.step h.2⟩); go_big_quiet_on)
      | (go_big_quiet_op; apply Exists.intro; refine ⟨fun w' hw' => ?_, ?_⟩; (go_at_call 24; (with_reducible show Calls _ _ #[.agg (rd cs p b l), .agg (rd es q c m)] _ _); exact (KI _).mono fun _ _ h => ⟨h.1, hw'.step h.2⟩); go_big_quiet_on)))
  refine wpQuiet_nil ?_
  intro w2 hw2
  go_wp2
  go_ret
  exact ⟨rfl, bthen B1.out hw2⟩

set_option maxRecDepth 100000 in
theorem lifted (os : Os) (started : os.Started) (H : Type) (enc : TypeId × Value → H) :
    ReturnsInHanded {} Try.checked os 7 .any (Rows.fnExactSameRoadSpec.pre6 enc Try.prog Try.f7 Rows.fnExactSameRoadRow.domain false) (Rows.fnExactSameRoadSpec.post enc Try.prog Try.f7 false true false false) := by
  refine law_lifted enc os started (by kernel_rfl) Try.func7
    (ChangeSpec.witness6 (enc := enc) (C := Try.checked) false ⟨#[], #[.agg (Array.replicate 19 (.float .f32 0)), .agg (Array.replicate 19 (.float .f32 0))], []⟩ 24 (by kernel_rfl) (by kernel_rfl) (by kernel_rfl) (by kernel_rfl)) rfl (by kernel_rfl) ?_ ?_ ?_
  · rw [Try.params7]
    intro t ht
    have hall : (#[27, 27].toList.all fun u => Try.prog.readableRec u && decide (u < Try.prog.types.size)) = true := by kernel_rfl
    have := List.all_eq_true.1 hall t ht
    simpa using this
  · intro ds h
    rw [Try.params7] at h
    match ds, h with
    | [d0, d1], _ => rfl
  · intro W base args hl hval
    rw [Try.params7] at hl hval
    obtain ⟨v0, v1, rfl⟩ : ∃ v0 v1, args = #[v0, v1] := by
      obtain ⟨l⟩ := args
      match l, hl with
      | [v0, v1], _ => exact ⟨v0, v1, rfl⟩
    obtain ⟨c0, p0, b0, l0, rfl, hl0, hc0, hp0, hb0, hla0⟩ := shape_road (hval 0 _ _ rfl rfl)
    obtain ⟨c1, p1, b1, l1, rfl, hl1, hc1, hp1, hb1, hla1⟩ := shape_road (hval 1 _ _ rfl rfl)
    exact walk c0 p0 b0 l0 hl0 hc0 hp0 hb0 hla0 c1 p1 b1 l1 hl1 hc1 hp1 hb1 hla1 W

/-- THE STATEMENT -/
theorem proved : Rows.FnExactSameRoadSaid :=
  OpenClaim.holds_of_wide 7 Try.f7 rfl rfl rfl rfl rfl rfl rfl ⟨rfl, rfl, rfl, rfl, rfl⟩ rfl rfl rfl rfl rfl (by kernel_rfl) Try.func7 (by kernel_rfl)
    (of_decide_eq_true (by kernel_rfl)) (by unfold Func.isWrapper; first | (rw [if_pos (by decide +kernel)]; kernel_rfl) | (rw [if_neg (by decide +kernel)]; exact ⟨rfl, rfl⟩))
    (fun os started H enc _ => lifted os started H enc)
#print axioms proved
end Go.Proofs.Ytcnmjbogfkoecaa.lawFnExactSameRoad
