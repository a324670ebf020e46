/-
  FnExactMixRoads: the program's MixRoads answers as its model, at every two roads and narrow float. No condition.
-/
import Derived.Test.YtldgacihegibmaaLaw
import Derived.Test.YtldgacihegibmaaMixRoads
import Derived.Test.YtldgacihegibmaaNew
namespace Go.Proofs.Ytldgacihegibmaa.lawFnExactMixRoads
open Go Go.ChangeShapes Go.WideShapes Go.ChangeAt Go.RowKit

theorem ZL : rd (zeros 16) 0 0 0 = #[.float .f32 0, .float .f32 0, .float .f32 0, .float .f32 0, .float .f32 0, .float .f32 0, .float .f32 0, .float .f32 0, .float .f32 0, .float .f32 0, .float .f32 0, .float .f32 0, .float .f32 0, .float .f32 0, .float .f32 0, .float .f32 0, .float .f32 0, .float .f32 0, .float .f32 0] := rfl

set_option maxHeartbeats 400000 in
theorem walk (cs : List Nat) (p b l : Nat) (hl : cs.length = 16) (hc : ∀ x ∈ cs, x < 4294967296) (hp : p < 4294967296) (hb : b < 4294967296) (hla : l < 4294967296) (es : List Nat) (q c m : Nat) (hl' : es.length = 16) (hc' : ∀ x ∈ es, x < 4294967296) (hq' : q < 4294967296) (hb' : c < 4294967296) (hm' : m < 4294967296) (x : Nat) (hx : x < 4294967296) (w : World) :
    Calls Try.prog 14 #[.agg (rd cs p b l), .agg (rd es q c m), .float .f32 x] w (True? w) := by
  have A0 : At ((w.alloc (.cells (rd cs p b l) 25)).alloc (.cells (rd es q c m) 25)) w.heap.size (rd cs p b l) 25 := (At.new w _ _).alloc _
  have E0 : At ((w.alloc (.cells (rd cs p b l) 25)).alloc (.cells (rd es q c m) 25)) (w.heap.size + 1) (rd es q c m) 25 := At.last1 w _ _ _
  have B0 := Lib.hid (bnew (b0 w (.cells (rd cs p b l) 25)) (.cells (rd es q c m) 25))
  have KA := toRoad_any cs p b l hl
  have KE := toRoad_any es q c m hl'
  have KS := sMixRoads_any cs p b l hl hc hp hb hla es q c m hl' hc' hq' hb' hm' x hx
  have KI := MixRoads_any cs p b l hl hc hp hb hla es q c m hl' hc' hq' hb' hm' x hx
  have GD := vMixRoads_good hl p b l es q c m x
  have SZ : (rd (vMixRoads cs p b l es q c m x).1 (vMixRoads cs p b l es q c m x).2.1 (vMixRoads cs p b l es q c m x).2.2.1 (vMixRoads cs p b l es q c m x).2.2.2.1).size = 19 := rd_size GD.1 _ _ _
  go_enter Try.func14, Try.ntmps14
  go_wp2
  generalize (w.alloc (.cells (rd cs p b l) 25)).alloc (.cells (rd es q c m) 25) = w0 at A0 E0 B0 ⊢
  have hC := Cb.const w0
  refine wp_region_new (n := 11) (ia := 9) (ist := 10) (d := 7) (s := 18) (T := 31) (ZR := rd (zeros 16) 0 0 0) (RV := rd (vMixRoads cs p b l es q c m x).1 (vMixRoads cs p b l es q c m x).2.1 (vMixRoads cs p b l es q c m x).2.2.1 (vMixRoads cs p b l es q c m x).2.2.2.1) (by kernel_rfl) (by kernel_rfl) (by kernel_rfl) ⟨rfl, rfl, rfl, rfl, by decide, by decide, by decide, by kernel_rfl, by kernel_rfl, by kernel_rfl, by kernel_rfl, by kernel_rfl, by kernel_rfl, by decide⟩ (by simp) (fun ev w' => by kernel_rfl) (store_fresh rfl 19 SZ (rd_size (zeros_len 16) _ _ _) (by kernel_rfl) (fl_one _)) ?_
  intro W9 hW9
  have A9 := A0.step hW9
  have E9 := E0.step hW9
  have hC := Cb.const W9
  simp (config := { decide := true }) only [cutOut, nop, List.mapIdx_cons, List.mapIdx_nil, Nat.zero_add, Nat.reduceAdd, if_true, if_false, List.take, List.drop]
  repeat (first
    | go_big_quiet_skip
    | (go_big_quiet_want; first
      | (refine q_row 25 _ rfl rfl A9 19 (rd_size hl p b l) _ Try.underlying25 rfl (by kernel_rfl) ?_; go_simp; go_big_quiet_on)
      | (refine q_row 25 _ rfl rfl E9 19 (rd_size hl' q c m) _ Try.underlying25 rfl (by kernel_rfl) ?_; go_simp; go_big_quiet_on)
      | (go_big_quiet_op; go_big_quiet_on)
      | (go_big_quiet_op; apply Exists.intro; refine ⟨fun w' hw' => ?_, ?_⟩; (go_at_call 16; (with_reducible show Calls _ _ #[.agg (rd cs p b l)] _ _); exact (KA _).mono fun _ _ h => ⟨h.1, hw'.step h.2⟩); go_big_quiet_on)
      | (go_big_quiet_op; apply Exists.intro; refine ⟨fun w' hw' => ?_, ?_⟩; (go_at_call 16; (with_reducible show Calls _ _ #[.agg (rd es q c m)] _ _); exact (KE _).mono fun _ _ h => ⟨h.1, hw'.step h.2⟩); go_big_quiet_on)
      | (go_big_quiet_op; apply Exists.intro; refine ⟨fun w' hw' => ?_, ?_⟩; (go_at_call 56; (with_reducible show Calls _ _ #[.agg (rd cs p b l), .agg (rd es q c m), .float .f32 x] _ _); exact (KS _).mono fun _ _ h => ⟨h.1, hw'.step h.2⟩); go_big_quiet_on)))
  refine wpQuiet_nil ?_
  refine ⟨rfl, fun g1 w1 hw9 hgg9 G1 => ?_⟩
  clear A9 E9 hC hW9
  simp only [List.drop, Act.put, Array.setIfInBounds]
  have A1 := A0.step hw9
  have E1 := E0.step hw9
  have B1 := Lib.hid (bthen B0.out hw9)
  clear hw9 hgg9 A0 E0 B0
  go_wp2
  refine wp_region_new (n := 11) (ia := 9) (ist := 10) (d := 9) (s := 27) (T := 31) (ZR := rd (zeros 16) 0 0 0) (RV := rd (vMixRoads cs p b l es q c m x).1 (vMixRoads cs p b l es q c m x).2.1 (vMixRoads cs p b l es q c m x).2.2.1 (vMixRoads cs p b l es q c m x).2.2.2.1) (by kernel_rfl) (by kernel_rfl) (by kernel_rfl) ⟨rfl, rfl, rfl, rfl, by decide, by decide, by decide, by kernel_rfl, by kernel_rfl, by kernel_rfl, by kernel_rfl, by kernel_rfl, by kernel_rfl, by decide⟩ (by simp) (fun ev w' => by kernel_rfl) (store_fresh rfl 19 SZ (rd_size (zeros_len 16) _ _ _) (by kernel_rfl) (fl_one _)) ?_
  intro W9 hW9
  have A9 := A1.step hW9
  have E9 := E1.step hW9
  have hC := Cb.const W9
  simp (config := { decide := true }) only [cutOut, nop, List.mapIdx_cons, List.mapIdx_nil, Nat.zero_add, Nat.reduceAdd, if_true, if_false, List.take, List.drop]
  repeat (first
    | go_big_quiet_skip
    | (go_big_quiet_want; first
      | (refine q_row 25 _ rfl rfl A9 19 (rd_size hl p b l) _ Try.underlying25 rfl (by kernel_rfl) ?_; go_simp; go_big_quiet_on)
      | (refine q_row 25 _ rfl rfl E9 19 (rd_size hl' q c m) _ Try.underlying25 rfl (by kernel_rfl) ?_; go_simp; go_big_quiet_on)
      | (go_big_quiet_op; go_big_quiet_on)
      | (go_big_quiet_op; apply Exists.intro; refine ⟨fun w' hw' => ?_, ?_⟩; (go_at_call 16; (with_reducible show Calls _ _ #[.agg (rd cs p b l)] _ _); exact (KA _).mono fun _ _ h => ⟨h.1, hw'.step h.2⟩); go_big_quiet_on)
      | (go_big_quiet_op; apply Exists.intro; refine ⟨fun w' hw' => ?_, ?_⟩; (go_at_call 16; (with_reducible show Calls _ _ #[.agg (rd es q c m)] _ _); exact (KE _).mono fun _ _ h => ⟨h.1, hw'.step h.2⟩); go_big_quiet_on)
      | (go_big_quiet_op; apply Exists.intro; refine ⟨fun w' hw' => ?_, ?_⟩; (go_at_call 57; (with_reducible show Calls _ _ #[.agg (rd cs p b l), .agg (rd es q c m), .float .f32 x] _ _); exact (KI _).mono fun _ _ h => ⟨h.1, hw'.step h.2⟩); go_big_quiet_on)))
  refine wpQuiet_nil ?_
  refine ⟨rfl, fun g2 w3 hw9 hgg9 G3 => ?_⟩
  clear A9 E9 hC hW9
  simp only [List.drop, Act.put, Array.setIfInBounds]
  have C3 := G1.step hw9
  have B3 := Lib.hid (bthen B1.out hw9)
  clear hw9 hgg9 A1 E1 B1 G1
  go_wp2_with (((with_reducible refine is_load 31 _ rfl ?_); refine wpList_load_at rfl 31 _ rfl _ rfl (rd (vMixRoads cs p b l es q c m x).1 (vMixRoads cs p b l es q c m x).2.1 (vMixRoads cs p b l es q c m x).2.2.1 (vMixRoads cs p b l es q c m x).2.2.2.1) _ (by assumption) 19 (SZ) _ Try.underlying31 rfl (by kernel_rfl) ?_))
  refine (eqRoad_same _ _ _ _ GD _).mono ?_
  rintro e w5 ⟨rfl, hb5⟩
  go_wp2_with fail
  go_ret
  exact ⟨rfl, bthen B3.out hb5⟩

set_option maxRecDepth 100000 in
theorem lifted (os : Os) (started : os.Started) (H : Type) (enc : TypeId × Value → H) :
    ReturnsInHanded {} Try.checked os 14 .any (Rows.fnExactMixRoadsSpec.pre6 enc Try.prog Try.f14 Rows.fnExactMixRoadsRow.domain false) (Rows.fnExactMixRoadsSpec.post enc Try.prog Try.f14 false true false false) := by
  refine law_lifted enc os started (by kernel_rfl) Try.func14
    (ChangeSpec.witness6 (enc := enc) (C := Try.checked) false ⟨#[], #[.agg (Array.replicate 19 (.float .f32 0)), .agg (Array.replicate 19 (.float .f32 0)), .float .f32 0], []⟩ 24 (by kernel_rfl) (by kernel_rfl) (by kernel_rfl) (by kernel_rfl)) rfl (by kernel_rfl) ?_ ?_ ?_
  · rw [Try.params14]
    intro t ht
    have hall : (#[25, 25, 22].toList.all fun u => Try.prog.readableRec u && decide (u < Try.prog.types.size)) = true := by kernel_rfl
    have := List.all_eq_true.1 hall t ht
    simpa using this
  · intro ds h
    rw [Try.params14] at h
    match ds, h with
    | [d0, d1, d2], _ => rfl
  · intro W base args hl hval
    rw [Try.params14] at hl hval
    obtain ⟨v0, v1, v2, rfl⟩ : ∃ v0 v1 v2, args = #[v0, v1, v2] := by
      obtain ⟨l⟩ := args
      match l, hl with
      | [v0, v1, v2], _ => exact ⟨v0, v1, v2, rfl⟩
    obtain ⟨c0, p0, b0, l0, rfl, hl0, hc0, hp0, hb0, hla0⟩ := shape_road (hval 0 _ _ rfl rfl)
    obtain ⟨c1, p1, b1, l1, rfl, hl1, hc1, hp1, hb1, hla1⟩ := shape_road (hval 1 _ _ rfl rfl)
    obtain ⟨x2, rfl, h2⟩ := shape_f32 (hval 2 _ _ rfl rfl)
    exact walk c0 p0 b0 l0 hl0 hc0 hp0 hb0 hla0 c1 p1 b1 l1 hl1 hc1 hp1 hb1 hla1 x2 h2 W

/-- THE STATEMENT -/
theorem proved : Rows.FnExactMixRoadsSaid :=
  OpenClaim.holds_of_wide 14 Try.f14 rfl rfl rfl rfl rfl rfl rfl ⟨rfl, rfl, rfl, rfl, rfl⟩ rfl rfl rfl rfl rfl (by kernel_rfl) Try.func14 (by kernel_rfl)
    (of_decide_eq_true (by kernel_rfl)) (by unfold Func.isWrapper; first | (rw [if_pos (by decide +kernel)]; kernel_rfl) | (rw [if_neg (by decide +kernel)]; exact ⟨rfl, rfl⟩))
    (fun os started H enc _ => lifted os started H enc)
#print axioms proved
end Go.Proofs.Ytldgacihegibmaa.lawFnExactMixRoads
