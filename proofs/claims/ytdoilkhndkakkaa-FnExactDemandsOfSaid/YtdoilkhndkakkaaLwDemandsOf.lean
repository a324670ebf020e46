/-
  FnExactDemandsOf: the program's DemandsOf answers as its model, at every junction and every four narrow floats. No condition.
-/
import Derived.Test.YtdoilkhndkakkaaLaw
import Derived.Test.YtdoilkhndkakkaaToJn
import Derived.Test.YtdoilkhndkakkaaNew
import Derived.Test.YtdoilkhndkakkaaDemands
namespace Go.Proofs.Ytdoilkhndkakkaa.lawFnExactDemandsOf
open Go Go.ChangeShapes Go.WideShapes Go.ChangeAt Go.RowKit

set_option maxRecDepth 100000
set_option maxHeartbeats 1000000 in
theorem walk (i o : Int) (ts ps : List Nat) (hi : -9223372036854775808 ≤ i ∧ i ≤ 9223372036854775807) (ho : -9223372036854775808 ≤ o ∧ o ≤ 9223372036854775807) (hlt : ts.length = 16) (hlp : ps.length = 4) (hct : ∀ x ∈ ts, x < 4294967296) (hcp : ∀ x ∈ ps, x < 4294967296) (ss : List Nat) (hls : ss.length = 4) (hcs : ∀ x ∈ ss, x < 4294967296) (w : World) :
    Calls Try.prog 8 #[.agg (jn i o ts ps), .agg (fl ss)] w (True? w) := by
  have A0 : At ((w.alloc (.cells (jn i o ts ps) 26)).alloc (.cells (fl ss) 23)) w.heap.size (jn i o ts ps) 26 := (At.new w _ _).alloc _
  have S0 : At ((w.alloc (.cells (jn i o ts ps) 26)).alloc (.cells (fl ss) 23)) (w.heap.size + 1) (fl ss) 23 := At.last1 w _ _ _
  have B0 := Lib.hid (bnew (b0 w (.cells (jn i o ts ps) 26)) (.cells (fl ss) 23))
  have SZ := jn_size hlt hlp i o
  have SS : (fl ss).size = 4 := by rw [fl_size, hls]
  have KJ := toJunction_any i o ts ps hi ho hlt hlp hct hcp
  have KF := toFour_any ss hls
  have KS := sDemandsOf_b i o ts ps hi ho hlt hlp hct hcp ss hls hcs
  have KI := DemandsOf_b i o ts ps hi ho hlt hlp hct hcp ss hls hcs
  have GD := vDemands_good i o ts ps ss
  have SZV : (fl (vDemands i o ts ps ss).1).size = 4 := by rw [fl_size, GD.1]
  go_enter Try.func8, Try.ntmps8
  go_wp2
  generalize ((w.alloc (.cells (jn i o ts ps) 26)).alloc (.cells (fl ss) 23)) = w0 at A0 S0 B0 ⊢
  have hC := Cb.const w0
  refine wp_region_new (n := 10) (ia := 8) (ist := 9) (d := 5) (s := 15) (T := 29) (ZR := fl (zeros 4)) (RV := fl (vDemands i o ts ps ss).1) (by kernel_rfl) (by kernel_rfl) (by kernel_rfl) ⟨rfl, rfl, rfl, rfl, by decide, by decide, by decide, by kernel_rfl, by kernel_rfl, by kernel_rfl, by kernel_rfl, by kernel_rfl, by kernel_rfl, by decide⟩ (by simp) (fun ev w' => by kernel_rfl) (store_fresh rfl 4 SZV (by rw [fl_size, zeros_len]) (by kernel_rfl) (fl_one _)) ?_
  intro W9 hW9
  have A9 := A0.step hW9
  have S9 := S0.step hW9
  have hC := Cb.const W9
  simp (config := { decide := true }) only [cutOut, nop, List.mapIdx_cons, List.mapIdx_nil, Nat.zero_add, Nat.reduceAdd, if_true, if_false, List.take, List.drop]
  repeat (first
    | go_big_quiet_skip
    | (go_big_quiet_want; first
      | (refine q_row 26 _ rfl rfl A9 22 SZ _ Try.underlying26 rfl (by kernel_rfl) ?_; go_simp; go_big_quiet_on)
      | (refine q_row 23 _ rfl rfl S9 4 SS _ Try.underlying23 rfl (by kernel_rfl) ?_; go_simp; go_big_quiet_on)
      | (go_big_quiet_op; go_big_quiet_on)
      | (go_big_quiet_op; apply Exists.intro; refine ⟨fun w' hw' => ?_, ?_⟩; (go_at_call 16; (with_reducible show Calls _ _ #[.agg (jn i o ts ps)] _ _); exact (KJ _).mono fun _ _ h => ⟨h.1, hw'.step h.2⟩); go_big_quiet_on)
      | (go_big_quiet_op; apply Exists.intro; refine ⟨fun w' hw' => ?_, ?_⟩; (go_at_call 26; (with_reducible show Calls _ _ #[.agg (fl ss)] _ _); exact (KF _).mono fun _ _ h => ⟨h.1, hw'.step h.2⟩); go_big_quiet_on)
      | (go_big_quiet_op; apply Exists.intro; refine ⟨fun w' hw' => ?_, ?_⟩; (go_at_call 29; (with_reducible show Calls _ _ #[.agg (jn i o ts ps), .agg (fl ss)] _ _); exact (KS _).mono fun _ _ h => ⟨h.1, hw'.step h.2⟩); go_big_quiet_on)))
  refine wpQuiet_nil ?_
  refine ⟨rfl, fun g1 w1 hw9 hgg9 G1 => ?_⟩
  clear A9 S9 hC hW9
  simp only [List.drop, Act.put, Array.setIfInBounds]
  have A1 := A0.step hw9
  have S1 := S0.step hw9
  have B1 := Lib.hid (bthen B0.out hw9)
  clear hw9 hgg9 A0 S0 B0
  go_wp2
  refine wp_region_new (n := 10) (ia := 8) (ist := 9) (d := 7) (s := 23) (T := 29) (ZR := fl (zeros 4)) (RV := fl (vDemands i o ts ps ss).1) (by kernel_rfl) (by kernel_rfl) (by kernel_rfl) ⟨rfl, rfl, rfl, rfl, by decide, by decide, by decide, by kernel_rfl, by kernel_rfl, by kernel_rfl, by kernel_rfl, by kernel_rfl, by kernel_rfl, by decide⟩ (by simp) (fun ev w' => by kernel_rfl) (store_fresh rfl 4 SZV (by rw [fl_size, zeros_len]) (by kernel_rfl) (fl_one _)) ?_
  intro W9 hW9
  have A9 := A1.step hW9
  have S9 := S1.step hW9
  have hC := Cb.const W9
  simp (config := { decide := true }) only [cutOut, nop, List.mapIdx_cons, List.mapIdx_nil, Nat.zero_add, Nat.reduceAdd, if_true, if_false, List.take, List.drop]
  repeat (first
    | go_big_quiet_skip
    | (go_big_quiet_want; first
      | (refine q_row 26 _ rfl rfl A9 22 SZ _ Try.underlying26 rfl (by kernel_rfl) ?_; go_simp; go_big_quiet_on)
      | (refine q_row 23 _ rfl rfl S9 4 SS _ Try.underlying23 rfl (by kernel_rfl) ?_; go_simp; go_big_quiet_on)
      | (go_big_quiet_op; go_big_quiet_on)
      | (go_big_quiet_op; apply Exists.intro; refine ⟨fun w' hw' => ?_, ?_⟩; (go_at_call 16; (with_reducible show Calls _ _ #[.agg (jn i o ts ps)] _ _); exact (KJ _).mono fun _ _ h => ⟨h.1, hw'.step h.2⟩); go_big_quiet_on)
      | (go_big_quiet_op; apply Exists.intro; refine ⟨fun w' hw' => ?_, ?_⟩; (go_at_call 26; (with_reducible show Calls _ _ #[.agg (fl ss)] _ _); exact (KF _).mono fun _ _ h => ⟨h.1, hw'.step h.2⟩); go_big_quiet_on)
      | (go_big_quiet_op; apply Exists.intro; refine ⟨fun w' hw' => ?_, ?_⟩; (go_at_call 30; (with_reducible show Calls _ _ #[.agg (jn i o ts ps), .agg (fl ss)] _ _); exact (KI _).mono fun _ _ h => ⟨h.1, hw'.step h.2⟩); go_big_quiet_on)))
  refine wpQuiet_nil ?_
  refine ⟨rfl, fun g2 w3 hw9 hgg9 G3 => ?_⟩
  clear A9 S9 hC hW9
  simp only [List.drop, Act.put, Array.setIfInBounds]
  have C3 := G1.step hw9
  have B3 := Lib.hid (bthen B1.out hw9)
  clear hw9 hgg9 A1 S1 B1 G1
  go_wp2_with (((with_reducible refine is_load 29 _ rfl ?_); refine wpList_load_at rfl 29 _ rfl _ rfl (fl (vDemands i o ts ps ss).1) _ (by assumption) 4 (SZV) _ Try.underlying29 rfl (by kernel_rfl) ?_))
  refine (eqFour_same _ GD.1 GD.2 _).mono ?_
  rintro e w5 ⟨rfl, hb5⟩
  go_wp2_with fail
  go_ret
  exact ⟨rfl, bthen B3.out hb5⟩

set_option maxRecDepth 100000 in
theorem lifted (os : Os) (started : os.Started) (H : Type) (enc : TypeId × Value → H) :
    ReturnsInHanded {} Try.checked os 8 .any (Rows.fnExactDemandsOfSpec.pre6 enc Try.prog Try.f8 Rows.fnExactDemandsOfRow.domain false) (Rows.fnExactDemandsOfSpec.post enc Try.prog Try.f8 false true false false) := by
  refine law_lifted enc os started (by kernel_rfl) Try.func8
    (ChangeSpec.witness6 (enc := enc) (C := Try.checked) false ⟨#[], #[.agg (#[.int .i64 0, .int .i64 0] ++ Array.replicate 20 (.float .f32 0)), .agg (Array.replicate 4 (.float .f32 0))], []⟩ 24 (by kernel_rfl) (by kernel_rfl) (by kernel_rfl) (by kernel_rfl)) rfl (by kernel_rfl) ?_ ?_ ?_
  · rw [Try.params8]
    intro t ht
    have hall : (#[26, 23].toList.all fun u => Try.prog.readableRec u && decide (u < Try.prog.types.size)) = true := by kernel_rfl
    have := List.all_eq_true.1 hall t ht
    simpa using this
  · intro ds h
    rw [Try.params8] at h
    match ds, h with
    | [d0, d1], _ => rfl
  · intro W base args hl hval
    rw [Try.params8] at hl hval
    obtain ⟨v0, v1, rfl⟩ : ∃ v0 v1, args = #[v0, v1] := by
      obtain ⟨l⟩ := args
      match l, hl with
      | [v0, v1], _ => exact ⟨v0, v1, rfl⟩
    obtain ⟨ji0, jo0, jt0, jp0, rfl, hji0, hjo0, hlt0, hlp0, hct0, hcp0⟩ := shape_jn (hval 0 _ _ rfl rfl)
    obtain ⟨c1, rfl, hl1, hc1⟩ := shape_fl (n := 4) Try.underlying23 rfl (by kernel_rfl) (by kernel_rfl) (hval 1 _ _ rfl rfl)
    exact walk ji0 jo0 jt0 jp0 hji0 hjo0 hlt0 hlp0 hct0 hcp0 c1 hl1 hc1 W

/-- THE STATEMENT -/
theorem proved : Rows.FnExactDemandsOfSaid :=
  OpenClaim.holds_of_wide 8 Try.f8 rfl rfl rfl rfl rfl rfl rfl ⟨rfl, rfl, rfl, rfl, rfl⟩ rfl rfl rfl rfl rfl (by kernel_rfl) Try.func8 (by kernel_rfl)
    (of_decide_eq_true (by kernel_rfl)) (by unfold Func.isWrapper; first | (rw [if_pos (by decide +kernel)]; kernel_rfl) | (rw [if_neg (by decide +kernel)]; exact ⟨rfl, rfl⟩))
    (fun os started H enc _ => lifted os started H enc)
#print axioms proved
end Go.Proofs.Ytdoilkhndkakkaa.lawFnExactDemandsOf
