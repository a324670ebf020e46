/-
  FnExactCrossTable: the program's CrossTable answers as its model, at all arms and counts. No condition.
-/
import Derived.Test.YtkhnhbmnmciiaaaLaw
import Derived.Test.YtkhnhbmnmciiaaaWayS
import Derived.Test.YtkhnhbmnmciiaaaNew
import Derived.Test.YtkhnhbmnmciiaaaShIl
namespace Go.Proofs.Ytkhnhbmnmciiaaa.lawFnExactCrossTable
open Go Go.ChangeShapes Go.WideShapes Go.ChangeAt Go.RowKit

set_option maxRecDepth 100000
set_option maxHeartbeats 1000000 in
theorem walk (fs : List Int) (hf : fs.length = 8) (_hr : True) (ts : List Int) (ht : ts.length = 8) (_hr2 : True) (n : Int) (_hn : I64 n) (w : World) :
    Calls Try.prog 4 #[.agg (il fs), .agg (il ts), .int .i64 n] w (True? w) := by
  have A0 : At ((w.alloc (.cells (il fs) 28)).alloc (.cells (il ts) 28)) w.heap.size (il fs) 28 := (At.new w _ _).alloc _
  have S0 : At ((w.alloc (.cells (il fs) 28)).alloc (.cells (il ts) 28)) (w.heap.size + 1) (il ts) 28 := At.last1 w _ _ _
  have B0 := Lib.hid (bnew (b0 w (.cells (il fs) 28)) (.cells (il ts) 28))
  have SF : (il fs).size = 8 := by rw [il_size, hf]
  have ST : (il ts).size = 8 := by rw [il_size, ht]
  have KF := fun w => toInt64A8_any fs hf w
  have KT := fun w => toInt64A8_any ts ht w
  have KS := fun w => sCrossTable_any fs ts hf ht n w
  have KI := fun w => CrossTable_any fs ts hf ht n w
  have hl := vCt_len fs ts n
  generalize (vCt fs ts n).1 = tt at KS KI hl
  generalize (vCt fs ts n).2 = cd at KS KI
  have SZV : (bl tt).size = 64 := by rw [bl_size, hl]
  go_enter Try.func4, Try.ntmps4
  go_wp2
  generalize ((w.alloc (.cells (il fs) 28)).alloc (.cells (il ts) 28)) = w0 at A0 S0 B0 ⊢
  refine wp_region_new (n := 11) (ia := 9) (ist := 10) (d := 7) (s := 18) (T := 25) (ZR := z64) (RV := bl tt) (by kernel_rfl) (by kernel_rfl) (by kernel_rfl) ⟨rfl, rfl, rfl, rfl, by decide, by decide, by decide, by kernel_rfl, by kernel_rfl, by kernel_rfl, by kernel_rfl, by kernel_rfl, by kernel_rfl, by decide⟩ (by simp) (fun ev w' => by kernel_rfl) (store_fresh rfl 64 SZV z64_size (by kernel_rfl) (bl_one _)) ?_
  intro W9 hW9
  have A9 := A0.step hW9
  have S9 := S0.step hW9
  have hC := Cb.const W9
  simp (config := { decide := true }) only [cutOut, nop, List.mapIdx_cons, List.mapIdx_nil, if_true, if_false, List.take, List.drop]
  repeat (first
    | go_big_quiet_skip
    | (go_big_quiet_want; first
      | (refine q_rowC 28 _ rfl rfl A9 8 SF _ Try.underlying28 rfl (by kernel_rfl) ?_; go_simp; go_big_quiet_on)
      | (refine q_rowC 28 _ rfl rfl S9 8 ST _ Try.underlying28 rfl (by kernel_rfl) ?_; go_simp; go_big_quiet_on)
      | (go_big_quiet_op; go_big_quiet_on)
      | (go_big_quiet_op; apply Exists.intro; refine ⟨fun w' hw' => ?_, ?_⟩; (go_at_call 19; (with_reducible show Calls _ _ #[.agg (il fs)] _ _); exact (KF _).mono fun _ _ h => ⟨h.1, hw'.step h.2⟩); go_big_quiet_on)
      | (go_big_quiet_op; apply Exists.intro; refine ⟨fun w' hw' => ?_, ?_⟩; (go_at_call 19; (with_reducible show Calls _ _ #[.agg (il ts)] _ _); exact (KT _).mono fun _ _ h => ⟨h.1, hw'.step h.2⟩); go_big_quiet_on)
      | (go_big_quiet_op; apply Exists.intro; refine ⟨fun w' hw' => ?_, ?_⟩; (go_at_call 18; (with_reducible show Calls _ _ #[.agg (il fs), .agg (il ts), .int .i64 n] _ _); exact (KS _).mono fun _ _ h => ⟨h.1, hw'.step h.2⟩); go_big_quiet_on)))
  refine wpQuiet_nil ?_
  refine ⟨rfl, fun g1 w1 hw9 hgg9 G1 => ?_⟩
  clear A9 S9 hC hW9
  simp only [Act.put, Array.setIfInBounds]
  have A1 := A0.step hw9
  have S1 := S0.step hw9
  have B1 := Lib.hid (bthen B0.out hw9)
  clear hw9 hgg9 A0 S0 B0
  go_wp2
  refine wp_region_new (n := 11) (ia := 9) (ist := 10) (d := 9) (s := 27) (T := 25) (ZR := z64) (RV := bl tt) (by kernel_rfl) (by kernel_rfl) (by kernel_rfl) ⟨rfl, rfl, rfl, rfl, by decide, by decide, by decide, by kernel_rfl, by kernel_rfl, by kernel_rfl, by kernel_rfl, by kernel_rfl, by kernel_rfl, by decide⟩ (by simp) (fun ev w' => by kernel_rfl) (store_fresh rfl 64 SZV z64_size (by kernel_rfl) (bl_one _)) ?_
  intro W9 hW9
  have A9 := A1.step hW9
  have S9 := S1.step hW9
  have hC := Cb.const W9
  simp (config := { decide := true }) only [cutOut, nop, List.mapIdx_cons, List.mapIdx_nil, if_true, if_false, List.take, List.drop]
  repeat (first
    | go_big_quiet_skip
    | (go_big_quiet_want; first
      | (refine q_rowC 28 _ rfl rfl A9 8 SF _ Try.underlying28 rfl (by kernel_rfl) ?_; go_simp; go_big_quiet_on)
      | (refine q_rowC 28 _ rfl rfl S9 8 ST _ Try.underlying28 rfl (by kernel_rfl) ?_; go_simp; go_big_quiet_on)
      | (go_big_quiet_op; go_big_quiet_on)
      | (go_big_quiet_op; apply Exists.intro; refine ⟨fun w' hw' => ?_, ?_⟩; (go_at_call 19; (with_reducible show Calls _ _ #[.agg (il fs)] _ _); exact (KF _).mono fun _ _ h => ⟨h.1, hw'.step h.2⟩); go_big_quiet_on)
      | (go_big_quiet_op; apply Exists.intro; refine ⟨fun w' hw' => ?_, ?_⟩; (go_at_call 19; (with_reducible show Calls _ _ #[.agg (il ts)] _ _); exact (KT _).mono fun _ _ h => ⟨h.1, hw'.step h.2⟩); go_big_quiet_on)
      | (go_big_quiet_op; apply Exists.intro; refine ⟨fun w' hw' => ?_, ?_⟩; (go_at_call 20; (with_reducible show Calls _ _ #[.agg (il fs), .agg (il ts), .int .i64 n] _ _); exact (KI _).mono fun _ _ h => ⟨h.1, hw'.step h.2⟩); go_big_quiet_on)))
  refine wpQuiet_nil ?_
  refine ⟨rfl, fun g2 w3 hw9 hgg9 G3 => ?_⟩
  clear A9 S9 hC hW9
  simp only [Act.put, Array.setIfInBounds]
  have C3 := G1.step hw9
  have B3 := Lib.hid (bthen B1.out hw9)
  clear hw9 hgg9 A1 S1 B1 G1
  go_wp2_with (((with_reducible refine is_load 25 _ rfl ?_); refine wpList_load_at rfl 25 _ rfl _ rfl (bl tt) _ (by with_reducible assumption) 64 (SZV) _ Try.underlying25 rfl (by kernel_rfl) ?_))
  refine (eqTable_same tt hl _).mono ?_
  rintro e w5 ⟨rfl, hb5⟩
  go_wp2_with fail
  go_ret
  exact ⟨rfl, bthen B3.out hb5⟩

set_option maxRecDepth 100000 in
theorem lifted (os : Os) (started : os.Started) (H : Type) (enc : TypeId × Value → H) :
    ReturnsInHanded {} Try.checked os 4 .any (Rows.fnExactCrossTableSpec.pre6 enc Try.prog Try.f4 Rows.fnExactCrossTableRow.domain false) (Rows.fnExactCrossTableSpec.post enc Try.prog Try.f4 false true false false) := by
  refine law_lifted enc os started (by kernel_rfl) Try.func4
    (ChangeSpec.witness6 (enc := enc) (C := Try.checked) false ⟨#[], #[.agg (Array.replicate 8 (.int .i64 0)), .agg (Array.replicate 8 (.int .i64 0)), .int .i64 0], []⟩ 24 (by kernel_rfl) (by kernel_rfl) (by kernel_rfl) (by kernel_rfl)) rfl (by kernel_rfl) ?_ ?_ ?_
  · rw [Try.params4]
    intro t ht
    have hall : (#[28, 28, 2].toList.all fun u => Try.prog.readableRec u && decide (u < Try.prog.types.size)) = true := by kernel_rfl
    have := List.all_eq_true.1 hall t ht
    simpa using this
  · intro ds h
    rw [Try.params4] at h
    match ds, h with
    | [d0, d1, d2], _ => rfl
  · intro W base args hl hval
    rw [Try.params4] at hl hval
    obtain ⟨v0, v1, v2, rfl⟩ : ∃ v0 v1 v2, args = #[v0, v1, v2] := by
      obtain ⟨l⟩ := args
      match l, hl with
      | [v0, v1, v2], _ => exact ⟨v0, v1, v2, rfl⟩
    obtain ⟨c0, rfl, hl0, hr0⟩ := shape_il (n := 8) Try.underlying28 rfl (by kernel_rfl) (by kernel_rfl) (hval 0 _ _ rfl rfl)
    obtain ⟨c1, rfl, hl1, hr1⟩ := shape_il (n := 8) Try.underlying28 rfl (by kernel_rfl) (by kernel_rfl) (hval 1 _ _ rfl rfl)
    obtain ⟨x2, rfl, h2⟩ := shape_i64 (hval 2 _ _ rfl rfl)
    exact walk c0 hl0 hr0 c1 hl1 hr1 x2 h2 W

/-- THE STATEMENT -/
theorem proved : Rows.FnExactCrossTableSaid :=
  OpenClaim.holds_of_wide 4 Try.f4 rfl rfl rfl rfl rfl rfl rfl ⟨rfl, rfl, rfl, rfl, rfl⟩ rfl rfl rfl rfl rfl (by kernel_rfl) Try.func4 (by kernel_rfl)
    (of_decide_eq_true (by kernel_rfl)) (by unfold Func.isWrapper; first | (rw [if_pos (by decide +kernel)]; kernel_rfl) | (rw [if_neg (by decide +kernel)]; exact ⟨rfl, rfl⟩))
    (fun os started H enc _ => lifted os started H enc)
#print axioms proved
end Go.Proofs.Ytkhnhbmnmciiaaa.lawFnExactCrossTable
