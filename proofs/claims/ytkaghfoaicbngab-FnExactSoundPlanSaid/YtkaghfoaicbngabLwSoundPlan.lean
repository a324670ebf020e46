/-
  FnExactSoundPlan: the program's SoundPlan answers as its model, at every table and plan. No condition.
-/
import Derived.Test.YtkaghfoaicbngabSndI
import Derived.Test.YtkaghfoaicbngabRunPl
import Derived.Test.YtkaghfoaicbngabShPlan
import Derived.Test.YtkaghfoaicbngabTake
import Derived.Test.YtkaghfoaicbngabLawS
import Derived.Test.YtkaghfoaicbngabOneCell
import Derived.Test.YtkaghfoaicbngabPiece
namespace Go.Proofs.Ytkaghfoaicbngab.lawFnExactSoundPlan
open Go Go.ChangeShapes Go.WideShapes Go.ChangeAt Go.RowKit

theorem run_tab {ts : List Bool} {w : World} {g : Nat} {T : TypeId} (ty : TypeId) (hl : ts.length = 64) {n : Nat} {e : TypeId} (h : At w g (bl ts) T) (hu : Try.prog.underlying ty = some (.array n e)) (hi : (Try.prog.info? ty).map (·.size) = some 64) :
    (Instr.loadAt ty (.pointer (some ⟨g, 0, none⟩))).run Try.prog w = .ok (.agg (bl ts)) w := by
  have hs : (bl ts).size = 64 := by rw [bl_size, hl]
  have := run_loadAt_part (P := Try.prog) w g 0 64 ty (bl ts) T (0, 0) _ h hu rfl hi (by rw [hs]; omega)
  rwa [Nat.zero_add, ← hs, Array.extract_size] at this

set_option maxRecDepth 100000
set_option maxHeartbeats 2000000 in
theorem walk (w : World) (ts : List Bool) (hl : ts.length = 64) (a : Option Addr) (cap : Nat) (xs : Slots) (b o : Int) (hF : SSl w (.slice a xs.length cap) xs) (_hb : I64 b) (_ho : I64 o) :
    Calls Try.prog 5 #[.agg (bl ts), .agg (plC (.slice a xs.length cap) b o)] w (True? w) := by
  have T0 : At ((w.alloc (.cells (bl ts) 38)).alloc (.cells (plC (.slice a xs.length cap) b o) 41)) w.heap.size (bl ts) 38 := (At.new w _ _).alloc _
  have P0 : At ((w.alloc (.cells (bl ts) 38)).alloc (.cells (plC (.slice a xs.length cap) b o) 41)) (w.heap.size + 1) (plC (.slice a xs.length cap) b o) 41 := At.last1 w _ _ _
  have B0 := Lib.hid (bnew (b0 w (.cells (bl ts) 38)) (.cells (plC (.slice a xs.length cap) b o) 41))
  have hW := hF.wf
  have hlen : xs.length ≤ 9223372036854775807 := Nat.le_trans hF.len (by decide)
  have K := szPlan_any a xs.length cap b o 1048576 (by omega) hF.len
  have HF := Lib.hid hF
  clear hF
  by_cases hn : xs.length ≤ 1048576
  · rw [if_neg (by omega)] at K
    have hnn : ¬ (1048576 - ((xs.length : Nat) : Int) < 0) := by omega
    have KS := fun G w h => sSoundPlan_any ts hl G xs b o hW hn 96 w h
    have KI := fun G w h => SoundPlan_any ts hl G xs b o hW hn 96 w h
    generalize vSnd ts xs b o = q at KS KI
    obtain ⟨q1, q2, q3, q4⟩ := q
    simp only at KS KI
    go_enter Try.func5, Try.ntmps5
    go_wp2_with (((with_reducible refine is_load 41 _ rfl ?_); refine wpList_load_at rfl 41 _ rfl _ rfl ((plC (.slice a xs.length cap) b o)) _ (by with_reducible assumption) 3 (plC_size _ _ _) _ Try.underlying41 rfl (by kernel_rfl) ?_))
    refine (K _).mono ?_
    rintro e w1 ⟨rfl, hb1⟩
    have T1 := T0.step hb1
    have P1 := P0.step hb1
    have B1 := Lib.hid (bthen B0.out hb1)
    clear T0 P0 B0 hb1 K
    go_wp2_with fail
    refine wp_region_held (S := fun w' => Below w1.heap.size w1 w') (by kernel_rfl) ?_
    show wpAnyH _ _ _ _ _ 14 (Array.replicate 14 false) _ _
    have S0 : Below w1.heap.size w1 { w1 with drawn := w1.drawn + 1 } := bdrew (Below.refl _ w1) 1
    generalize hw0 : ({ w1 with drawn := w1.drawn + 1 } : World) = u0 at S0 ⊢
    clear hw0
    refine wpAnyH_take (i := 0) (v := .agg (bl ts)) rfl (by kernel_rfl) (by kernel_rfl) (by kernel_rfl) (fun _ _ _ h => h) (yif rfl fun w' hw' => x_load 38 (.tmp 2) rfl ⟨w.heap.size, 0, none⟩ (by kernel_rfl) (run_tab 38 hl (T1.step hw') Try.underlying38 (by kernel_rfl))) (by assumption) ?_
    refine wpAnyH_take (i := 2) (v := .agg (plC (.slice a xs.length cap) b o)) rfl (by kernel_rfl) (by kernel_rfl) (by kernel_rfl) (fun _ _ _ h => h) (yif rfl fun w' hw' => x_load 41 (.tmp 3) rfl ⟨w.heap.size + 1, 0, none⟩ (by kernel_rfl) (run_plan 41 _ (P1.step hw') Try.underlying41 (by kernel_rfl))) (by assumption) ?_
    refine wpAnyH_all (rs := [1]) (by kernel_rfl) (by simp) fun i9 hi9 => ?_
    obtain rfl := one_of hi9
    refine op_call (f := 23) (args := #[.agg (bl ts)]) rfl rfl (by kernel_rfl) ((toTable_any ts hl u0).mono ?_)
    rintro e u1 ⟨rfl, hb0⟩
    have S1 := bthen S0 hb0
    refine ⟨_, rfl, S1, ?_⟩
    refine wpAnyH_all (rs := [3]) (by kernel_rfl) (by simp) fun i9 hi9 => ?_
    obtain rfl := one_of hi9
    refine op_call (f := 24) (args := #[.agg (plC (.slice a xs.length cap) b o)]) rfl rfl (by kernel_rfl) ((toPlan_any a cap xs b o u1 (HF.out.step (Nat.le_refl _) (bthen B1.out S1)) hn).mono ?_)
    rintro e u2 ⟨G2, rfl, H2, -, hb1⟩
    have S2 := bthen S1 hb1
    refine ⟨_, rfl, S2, ?_⟩
    refine wpAnyH_all (rs := [4]) (by kernel_rfl) (by simp) fun i9 hi9 => ?_
    obtain rfl := one_of hi9
    refine op_call (f := 22) (args := #[.agg (bl ts), .agg (plC (.slice (some ⟨G2, 0, none⟩) xs.length xs.length) b o)]) rfl rfl (by kernel_rfl) ((KS G2 u2 H2).mono ?_)
    rintro e u3 ⟨rfl, hb2⟩
    have S3 := bthen S2 hb2
    refine ⟨_, rfl, S3, ?_⟩
    refine wpAnyH_take (i := 5) (v := .tuple #[.int .i64 q1, .int .i64 q2, .int .i64 q3, .int .i64 q4]) rfl (by kernel_rfl) (by kernel_rfl) (by kernel_rfl) (fun _ _ _ h => h) (yif rfl fun w2 hw2 => by kernel_rfl) (by assumption) ?_
    refine wpAnyH_take (i := 6) (v := .int .i64 q1) rfl (by kernel_rfl) (by kernel_rfl) (by kernel_rfl) (fun _ _ _ h => h) (yif rfl fun w2 hw2 => by kernel_rfl) (by assumption) ?_
    refine wpAnyH_take (i := 7) (v := .int .i64 q2) rfl (by kernel_rfl) (by kernel_rfl) (by kernel_rfl) (fun _ _ _ h => h) (yif rfl fun w2 hw2 => by kernel_rfl) (by assumption) ?_
    refine wpAnyH_take (i := 8) (v := .int .i64 q3) rfl (by kernel_rfl) (by kernel_rfl) (by kernel_rfl) (fun _ _ _ h => h) (yif rfl fun w2 hw2 => by kernel_rfl) (by assumption) ?_
    refine wpAnyH_take (i := 9) (v := .int .i64 q4) rfl (by kernel_rfl) (by kernel_rfl) (by kernel_rfl) (fun _ _ _ h => h) (yif rfl fun w2 hw2 => by kernel_rfl) (by assumption) ?_
    refine wpAnyH_take (i := 10) (v := .int .i64 q1) rfl (by kernel_rfl) (by kernel_rfl) (by kernel_rfl) (fun _ _ _ h => h) (yif rfl fun w2 hw2 => by kernel_rfl) (by assumption) ?_
    refine wpAnyH_take (i := 11) (v := .int .i64 q2) rfl (by kernel_rfl) (by kernel_rfl) (by kernel_rfl) (fun _ _ _ h => h) (yif rfl fun w2 hw2 => by kernel_rfl) (by assumption) ?_
    refine wpAnyH_take (i := 12) (v := .int .i64 q3) rfl (by kernel_rfl) (by kernel_rfl) (by kernel_rfl) (fun _ _ _ h => h) (yif rfl fun w2 hw2 => by kernel_rfl) (by assumption) ?_
    refine wpAnyH_take (i := 13) (v := .int .i64 q4) rfl (by kernel_rfl) (by kernel_rfl) (by kernel_rfl) (fun _ _ _ h => h) (yif rfl fun w2 hw2 => by kernel_rfl) (by assumption) ?_
    refine wpAnyH_done (by kernel_rfl) ?_ _
    have T3 := T1.step S3
    have P3 := P1.step S3
    have B3 := Lib.hid (bthen B1.out S3)
    clear T1 P1 B1 S0 S1 S2 S3 H2 hb0 hb1 hb2 KS
    go_simp
    go_wp2_with (((with_reducible refine is_load 41 _ rfl ?_); refine wpList_load_at rfl 41 _ rfl _ rfl ((plC (.slice a xs.length cap) b o)) _ (by with_reducible assumption) 3 (plC_size _ _ _) _ Try.underlying41 rfl (by kernel_rfl) ?_))
    refine (toPlan_any a cap xs b o _ (HF.out.step (Nat.le_refl _) B3.out) hn).mono ?_
    rintro e w4 ⟨G4, rfl, H4, -, hb4⟩
    have T4 := T3.step hb4
    have P4 := P3.step hb4
    have B4 := Lib.hid (bthen B3.out hb4)
    clear T3 P3 B3 hb4
    have X0 := At.new w4 (#[.slice none 0 0, .int .i64 0, .int .i64 0]) 49
    have X5 := X0.setRow (plC (.slice (some ⟨G4, 0, none⟩) xs.length xs.length) b o)
    have T5 := (T4.alloc (.cells (#[.slice none 0 0, .int .i64 0, .int .i64 0]) 49)).setRow_other (k := w4.heap.size) (Nat.ne_of_lt T4.lt) (plC (.slice (some ⟨G4, 0, none⟩) xs.length xs.length) b o)
    have P5 := (P4.alloc (.cells (#[.slice none 0 0, .int .i64 0, .int .i64 0]) 49)).setRow_other (k := w4.heap.size) (Nat.ne_of_lt P4.lt) (plC (.slice (some ⟨G4, 0, none⟩) xs.length xs.length) b o)
    have G5 := (H4.alloc (.cells (#[.slice none 0 0, .int .i64 0, .int .i64 0]) 49)).setRow_other (k := w4.heap.size) (Nat.ne_of_lt H4.lt) (plC (.slice (some ⟨G4, 0, none⟩) xs.length xs.length) b o)
    have B5 := Lib.hid (bset (bnew B4.out (.cells (#[.slice none 0 0, .int .i64 0, .int .i64 0]) 49)) (g := w4.heap.size) B4.out.size (plC (.slice (some ⟨G4, 0, none⟩) xs.length xs.length) b o))
    clear T4 P4 B4 H4
    go_wp2_with (first | ((with_reducible refine is_store 49 _ _ rfl ?_); refine wpList_store_at rfl 49 _ _ rfl _ rfl (plC (.slice (some ⟨G4, 0, none⟩) xs.length xs.length) b o) rfl (#[.slice none 0 0, .int .i64 0, .int .i64 0]) _ X0 3 (plC_size _ _ _) rfl (by kernel_rfl) (pl_one _ rfl _ _) ?_))
    generalize World.setRow _ _ _ = w5 at X5 T5 P5 G5 B5 ⊢
    clear X0
    go_simp
    have hC := Cb.const w5
    refine wp_region_cb (by kernel_rfl) (by kernel_rfl) ?_
    repeat (first
      | go_big_quiet_skip
      | (go_big_quiet_want; first
        | (refine q_row 38 _ rfl rfl T5 64 (by rw [bl_size, hl]) _ Try.underlying38 rfl (by kernel_rfl) ?_; go_simp; go_big_quiet_on)
        | (refine q_row 49 _ rfl rfl X5 3 (plC_size _ _ _) _ Try.underlying49 rfl (by kernel_rfl) ?_; go_simp; go_big_quiet_on)
        | (go_big_quiet_op; go_big_quiet_on)
        | (go_big_quiet_op; apply Exists.intro; refine ⟨fun w' hw' => ?_, ?_⟩; (go_at_call 23; exact (toTable_any ts hl _).mono fun _ _ h => ⟨h.1, hw'.step h.2⟩); go_big_quiet_on)
        | (go_big_quiet_op; apply Exists.intro; refine ⟨fun w' hw' => ?_, ?_⟩; (go_at_call 25; exact (KI G4 _ (G5.step hw')).mono fun _ _ h => ⟨h.1, hw'.step h.2⟩); go_big_quiet_on)))
    refine wpQuiet_nil ?_
    intro w6 hw6
    have X6 := X5.step hw6
    have P6 := P5.step hw6
    have G6 := G5.step hw6
    have B6 := Lib.hid (bthen B5.out hw6)
    clear hC T5 X5 P5 G5 B5 hw6 KI
    go_wp2_with fail
    refine wp_region_held (S := fun w' => Below w6.heap.size w6 w') (by kernel_rfl) ?_
    show wpAnyH _ _ _ _ _ 5 (Array.replicate 5 false) _ _
    have S0 : Below w6.heap.size w6 { w6 with drawn := w6.drawn + 1 } := bdrew (Below.refl _ w6) 1
    generalize hw0 : ({ w6 with drawn := w6.drawn + 1 } : World) = u0 at S0 ⊢
    clear hw0
    refine wpAnyH_take (i := 0) (v := .agg (plC (.slice (some ⟨G4, 0, none⟩) xs.length xs.length) b o)) rfl (by kernel_rfl) (by kernel_rfl) (by kernel_rfl) (fun _ _ _ h => h) (yif rfl fun w' hw' => x_load 49 (.tmp 10) rfl ⟨w4.heap.size, 0, none⟩ (by kernel_rfl) (run_plan 49 _ (X6.step hw') Try.underlying49 (by kernel_rfl))) (by assumption) ?_
    refine wpAnyH_take (i := 1) (v := .agg (plC (.slice a xs.length cap) b o)) rfl (by kernel_rfl) (by kernel_rfl) (by kernel_rfl) (fun _ _ _ h => h) (yif rfl fun w' hw' => x_load 41 (.tmp 3) rfl ⟨w.heap.size + 1, 0, none⟩ (by kernel_rfl) (run_plan 41 _ (P6.step hw') Try.underlying41 (by kernel_rfl))) (by assumption) ?_
    refine wpAnyH_all (rs := [2]) (by kernel_rfl) (by simp) fun i9 hi9 => ?_
    obtain rfl := one_of hi9
    refine op_call (f := 24) (args := #[.agg (plC (.slice a xs.length cap) b o)]) rfl rfl (by kernel_rfl) ((toPlan_any a cap xs b o u0 (HF.out.step (Nat.le_refl _) (bthen B6.out S0)) hn).mono ?_)
    rintro e u1 ⟨G8, rfl, H8, -, hb0⟩
    have S1 := bthen S0 hb0
    refine ⟨_, rfl, S1, ?_⟩
    refine wpAnyH_all (rs := [3]) (by kernel_rfl) (by simp) fun i9 hi9 => ?_
    obtain rfl := one_of hi9
    refine op_call (f := 26) (args := #[.agg (plC (.slice (some ⟨G4, 0, none⟩) xs.length xs.length) b o), .agg (plC (.slice (some ⟨G8, 0, none⟩) xs.length xs.length) b o)]) rfl rfl (by kernel_rfl) ((eqPlan_same G4 G8 xs b o hW hn _ _ u1 (G6.step S1) H8).mono ?_)
    rintro e u2 ⟨rfl, hb1⟩
    have S2 := bthen S1 hb1
    refine ⟨_, rfl, S2, ?_⟩
    refine wpAnyH_take (i := 4) (v := .bool false) rfl (by kernel_rfl) (by kernel_rfl) (by kernel_rfl) (fun _ _ _ h => h) (yif rfl fun w2 hw2 => by kernel_rfl) (by assumption) ?_
    refine wpAnyH_done (by kernel_rfl) ?_ _
    have B9 := Lib.hid (bthen B6.out S2)
    clear P6 X6 G6 B6 H8 S0 S1 S2 hb0 hb1
    go_simp
    go_wp2
    go_ret
    exact ⟨rfl, B9.out⟩
  · rw [if_pos (by omega)] at K
    go_enter Try.func5, Try.ntmps5
    go_wp2_with (((with_reducible refine is_load 41 _ rfl ?_); refine wpList_load_at rfl 41 _ rfl _ rfl ((plC (.slice a xs.length cap) b o)) _ (by with_reducible assumption) 3 (plC_size _ _ _) _ Try.underlying41 rfl (by kernel_rfl) ?_))
    refine (K _).mono ?_
    rintro e w1 ⟨rfl, hb1⟩
    go_wp2_with fail
    go_ret
    exact ⟨rfl, bthen B0.out hb1⟩

set_option maxRecDepth 100000 in
theorem lifted (os : Os) (started : os.Started) (H : Type) (enc : TypeId × Value → H) :
    ReturnsInHanded {} Try.checked os 5 .any (Rows.fnExactSoundPlanSpec.pre6 enc Try.prog Try.f5 Rows.fnExactSoundPlanRow.domain false) (Rows.fnExactSoundPlanSpec.post enc Try.prog Try.f5 false true false false) := by
  refine law_liftedS enc os started (by kernel_rfl) Try.func5
    (ChangeSpec.witness6 (enc := enc) (C := Try.checked) false ⟨#[], #[.agg (Array.replicate 64 (.bool false)), .agg #[.slice none 0 0, .int .i64 0, .int .i64 0]], []⟩ 24 (by kernel_rfl) (by kernel_rfl) (by kernel_rfl) (by kernel_rfl)) rfl (by kernel_rfl) ?_ ?_ ?_
  · rw [Try.params5]
    intro t ht
    have hall : (#[38, 41].toList.all fun u => Try.prog.readableRec u && decide (u < Try.prog.types.size)) = true := by kernel_rfl
    have := List.all_eq_true.1 hall t ht
    simpa using this
  · intro ds h
    rw [Try.params5] at h
    match ds, h with
    | [d0, d1], _ => rfl
  · intro W base args ds ps hl hval hA
    rw [Try.params5] at hl hval hA
    obtain ⟨v0, v1, rfl⟩ : ∃ v0 v1, args = #[v0, v1] := by
      obtain ⟨l⟩ := args
      match l, hl with
      | [v0, v1], _ => exact ⟨v0, v1, rfl⟩
    obtain ⟨vx0, vy0, dd0, de0, pp0, pq0, ee0, -, -, tr0, rr0⟩ := trodAll_cons hA
    obtain ⟨rfl, rfl⟩ := List.cons.inj ee0
    obtain ⟨vx1, vy1, dd1, de1, pp1, pq1, ee1, -, -, tr1, rr1⟩ := trodAll_cons rr0
    obtain ⟨rfl, rfl⟩ := List.cons.inj ee1
    obtain ⟨c0, rfl, hl0⟩ := shape_bl (n := 64) Try.underlying38 rfl (by kernel_rfl) (by kernel_rfl) (hval 0 _ _ rfl rfl)
    obtain ⟨a1, cap1, x1, b1, o1, rfl, h1, hb1, ho1⟩ := shape_plan (hval 1 _ _ rfl rfl) tr1
    exact walk W c0 hl0 a1 cap1 x1 b1 o1 h1 hb1 ho1

/-- THE STATEMENT -/
theorem proved : Rows.FnExactSoundPlanSaid := by
  first
    | (refine OpenClaim.holds_of_wide 5 Try.f5 rfl rfl rfl rfl rfl rfl rfl ⟨rfl, rfl, rfl, rfl, rfl⟩ rfl rfl rfl rfl rfl (by kernel_rfl) Try.func5 (by kernel_rfl) (of_decide_eq_true (by kernel_rfl)) ?_ (fun os started H enc _ => lifted os started H enc))
    | (refine OpenClaim.holds_of_wide_leaving 5 Try.f5 rfl rfl rfl rfl rfl rfl rfl ⟨rfl, rfl, rfl, rfl, rfl⟩ rfl rfl rfl rfl rfl (by kernel_rfl) Try.func5 (by kernel_rfl) (of_decide_eq_true (by kernel_rfl)) ?_ (fun os started H enc _ => leaving_of_handed (lifted os started H enc)))
  unfold Func.isWrapper
  first | (rw [if_pos (by decide +kernel)]; kernel_rfl) | (rw [if_neg (by decide +kernel)]; exact ⟨rfl, rfl⟩)
#print axioms proved
end Go.Proofs.Ytkaghfoaicbngab.lawFnExactSoundPlan
