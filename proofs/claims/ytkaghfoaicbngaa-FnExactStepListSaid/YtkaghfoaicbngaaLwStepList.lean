/-
  FnExactStepList: the program's StepList answers as its model, at every road and every two lists of narrow floats. No condition.
-/
import Derived.Test.YtkaghfoaicbngaaSlicesM
import Derived.Test.YtkaghfoaicbngaaStepListM
namespace Go.Proofs.Ytkaghfoaicbngaa.lawFnExactStepList
open Go Go.ChangeShapes Go.WideShapes Go.ChangeAt Go.RowKit


theorem vStepList_good {cs : List Nat} (hl : cs.length = 16) (p b l : Nat) (xs ys : List Nat) : goodL (vStepList cs p b l xs ys).1 (vStepList cs p b l xs ys).2.1 (vStepList cs p b l xs ys).2.2.1 (vStepList cs p b l xs ys).2.2.2.1 ∧ ((vStepList cs p b l xs ys).2.2.2.2.1 < 4294967296 ∧ nanB (vStepList cs p b l xs ys).2.2.2.2.1 = false) ∧ ((vStepList cs p b l xs ys).2.2.2.2.2.1 < 4294967296 ∧ nanB (vStepList cs p b l xs ys).2.2.2.2.2.1 = false) := by
  unfold vStepList
  by_cases h : listC (okB cs p b l) xs ys = 0
  · rw [if_pos h]
    have hok := (listC_zero h).1
    have ok := OkR.of hl hok
    obtain ⟨g1, g2, g3, g4, g5⟩ := okB_good hl hok
    have ok2 := itL_ok ok (fun k => nth xs k) (fun k => nth ys k) xs.length
    exact ⟨⟨ok2.len, fun y hy => nan_le (ok2.cars y hy) (by omega), g3, g4, g5⟩, nan_le (itS_facts ok (fun k => nth xs k) (fun k => nth ys k) 0 xs.length) (by omega), nan_le (itS_facts ok (fun k => nth xs k) (fun k => nth ys k) 16 xs.length) (by omega)⟩
  · rw [if_neg h]
    exact ⟨zero_good, ⟨show 0 < 4294967296 by decide, show nanB 0 = false by decide⟩, ⟨show 0 < 4294967296 by decide, show nanB 0 = false by decide⟩⟩
theorem fsl_form {w : World} {v : Value} {xs : List Nat} (h : FSl w v xs) : ∃ a cap, v = .slice a xs.length cap := by
  rcases h.val with ⟨rfl, a, cap, rfl⟩ | ⟨g, off, cap, rfl, -, -⟩
  · exact ⟨a, cap, rfl⟩
  · exact ⟨_, cap, rfl⟩

set_option maxHeartbeats 4000000 in
theorem walk (w : World) (cs : List Nat) (p b l : Nat) (hl : cs.length = 16) (hc : ∀ x ∈ cs, x < 4294967296) (hp : p < 4294967296) (hb : b < 4294967296) (hla : l < 4294967296) (v1 : Value) (xs : List Nat) (F1 : FSl w v1 xs) (v2 : Value) (ys : List Nat) (F2 : FSl w v2 ys) :
    Calls Try.prog 5 #[.agg (rd cs p b l), v1, v2] w (True? w) := by
  obtain ⟨a1, c1, rfl⟩ := fsl_form F1
  obtain ⟨a2, c2, rfl⟩ := fsl_form F2
  by_cases hnx : xs.length ≤ 1048576
  · by_cases hny : ys.length ≤ 1048576
    · have A0 := At.new w (rd cs p b l) 25
      have B0 := Lib.hid (b0 w (.cells (rd cs p b l) 25))
      have HX := Lib.hid (And.intro F1.lt F2.lt)
      have G1 := F1.step (Nat.le_refl _) B0.out
      have G2 := F2.step (Nat.le_refl _) B0.out
      obtain ⟨GD, g1, g2⟩ := vStepList_good hl p b l xs ys
      have w1f := wide_at g1.1 g1.2
      have w2f := wide_at g2.1 g2.2
      have SZ : (rd (vStepList cs p b l xs ys).1 (vStepList cs p b l xs ys).2.1 (vStepList cs p b l xs ys).2.2.1 (vStepList cs p b l xs ys).2.2.2.1).size = 19 := rd_size GD.1 _ _ _
      have KS := fun ga gb Ta Tb w => sStepList_any cs p b l hl hc hp hb hla xs ys F1.lt F2.lt hnx hny ga gb Ta Tb w
      have KI := fun ga gb Ta Tb w => StepList_any cs p b l hl hc hp hb hla xs ys F1.lt F2.lt hnx hny ga gb Ta Tb w
      have GG := Lib.hid (And.intro g1 g2)
      have d1 : decide ((1048576 : Int) < (xs.length : Int)) = false := decide_eq_false (by omega)
      have d2 : decide ((1048576 : Int) < (ys.length : Int)) = false := decide_eq_false (by omega)
      have i1 : ¬ (1048576 : Int) < (xs.length : Int) := by omega
      have i2 : ¬ (1048576 : Int) < (ys.length : Int) := by omega
      have HNN := Lib.hid (And.intro hnx hny)
      clear g1 g2 hnx hny F1 F2
      generalize (vStepList cs p b l xs ys).2.2.2.2.1 = v4 at KS KI GG w1f
      generalize (vStepList cs p b l xs ys).2.2.2.2.2.1 = v5 at KS KI GG w2f
      generalize (vStepList cs p b l xs ys).2.2.2.2.2.2 = v7 at KS KI
      go_enter Try.func5, Try.ntmps5
      go_wp2_with (((with_reducible refine is_load 25 _ rfl ?_); refine wpList_load_at rfl 25 _ rfl _ rfl (rd cs p b l) _ (by assumption) 19 (rd_size hl p b l) _ Try.underlying25 rfl (by kernel_rfl) ?_))
      refine (toRoad_any cs p b l hl _).mono ?_
      rintro e w1 ⟨rfl, hb1⟩
      have A1 := A0.step hb1
      have B1 := Lib.hid (bthen B0.out hb1)
      have G3 := G1.step (Nat.le_refl _) hb1
      have G4 := G2.step (Nat.le_refl _) hb1
      clear G1 G2 A0 B0 hb1
      go_wp2_with fail
      refine (toFloat32S_any _ xs G3 HNN.out.1).mono ?_
      rintro e w2 ⟨rfl, X2, hb2⟩
      have A2 := A1.step hb2
      have B2 := Lib.hid (bthen B1.out hb2)
      have G5 := G3.step (Nat.le_refl _) hb2
      have G6 := G4.step (Nat.le_refl _) hb2
      clear G3 G4 A1 B1 hb2
      go_wp2_with fail
      refine (toFloat32S_any _ ys G6 HNN.out.2).mono ?_
      rintro e w3 ⟨rfl, Y3, hb3⟩
      have X3 := X2.step hb3
      have A3 := A2.step hb3
      have B3 := Lib.hid (bthen B2.out hb3)
      have G7 := G5.step (Nat.le_refl _) hb3
      have G8 := G6.step (Nat.le_refl _) hb3
      clear G5 G6 A2 B2 hb3 X2
      go_wp2_with fail
      refine (KS _ _ _ _ _ X3 Y3).mono ?_
      rintro e w4 ⟨rfl, hb4⟩
      clear KS X3 Y3
      have A4 := A3.step hb4
      have B4 := Lib.hid (bthen B3.out hb4)
      have G9 := G7.step (Nat.le_refl _) hb4
      have G10 := G8.step (Nat.le_refl _) hb4
      clear G7 G8 A3 B3 hb4
      have C1 := At.new w4 (rd (zeros 16) 0 0 0) 28
      have C2 := C1.setRow (rd (vStepList cs p b l xs ys).1 (vStepList cs p b l xs ys).2.1 (vStepList cs p b l xs ys).2.2.1 (vStepList cs p b l xs ys).2.2.2.1)
      have A5 := (A4.alloc (.cells (rd (zeros 16) 0 0 0) 28)).setRow_other (k := w4.heap.size) (Nat.ne_of_lt A4.lt) (rd (vStepList cs p b l xs ys).1 (vStepList cs p b l xs ys).2.1 (vStepList cs p b l xs ys).2.2.1 (vStepList cs p b l xs ys).2.2.2.1)
      have hb5 : Below w4.heap.size w4 ((w4.alloc (.cells (rd (zeros 16) 0 0 0) 28)).setRow w4.heap.size (rd (vStepList cs p b l xs ys).1 (vStepList cs p b l xs ys).2.1 (vStepList cs p b l xs ys).2.2.1 (vStepList cs p b l xs ys).2.2.2.1)) := bset (b0 w4 (.cells (rd (zeros 16) 0 0 0) 28)) (g := w4.heap.size) (Nat.le_refl _) (rd (vStepList cs p b l xs ys).1 (vStepList cs p b l xs ys).2.1 (vStepList cs p b l xs ys).2.2.1 (vStepList cs p b l xs ys).2.2.2.1)
      have B5 := Lib.hid (bthen B4.out hb5)
      have G11 := G9.step (Nat.le_refl _) hb5
      have G12 := G10.step (Nat.le_refl _) hb5
      clear G9 G10 A4 B4 hb5
      go_wp2_with (((with_reducible refine is_store 28 (.tmp 7) (.tmp 31) rfl ?_); refine wpList_store_at rfl 28 (.tmp 7) (.tmp 31) rfl _ rfl (rd (vStepList cs p b l xs ys).1 (vStepList cs p b l xs ys).2.1 (vStepList cs p b l xs ys).2.2.1 (vStepList cs p b l xs ys).2.2.2.1) rfl (rd (zeros 16) 0 0 0) _ (by assumption) 19 SZ (rd_size (zeros_len 16) _ _ _) (by kernel_rfl) (fl_one _) ?_))
      refine (toFloat32S_any _ xs G11 HNN.out.1).mono ?_
      rintro e w6 ⟨rfl, X6, hb6⟩
      have X6 : At w6 (w4.heap.size + 1) (fl xs) 22 := by
        have hq := X6
        rwa [show ∀ (c : Array Value), ((w4.alloc (.cells c 28)).setRow w4.heap.size (rd (vStepList cs p b l xs ys).1 (vStepList cs p b l xs ys).2.1 (vStepList cs p b l xs ys).2.2.1 (vStepList cs p b l xs ys).2.2.2.1)).heap.size = w4.heap.size + 1 from fun c => by simp] at hq
      have A6 := A5.step hb6
      have C6 := C2.step hb6
      have B6 := Lib.hid (bthen B5.out hb6)
      have G13 := G11.step (Nat.le_refl _) hb6
      have G14 := G12.step (Nat.le_refl _) hb6
      clear G11 G12 A5 B5 hb6 C1 C2
      go_wp2_with fail
      refine (toFloat32S_any _ ys G14 HNN.out.2).mono ?_
      rintro e w7 ⟨rfl, Y7, hb7⟩
      have X7 := X6.step hb7
      have A7 := A6.step hb7
      have C7 := C6.step hb7
      have B7 := Lib.hid (bthen B6.out hb7)
      have G15 := G13.step (Nat.le_refl _) hb7
      have G16 := G14.step (Nat.le_refl _) hb7
      clear G13 G14 A6 B6 hb7 C6 X6
      go_wp2_with (((with_reducible refine is_load 25 _ rfl ?_); refine wpList_load_at rfl 25 _ rfl _ rfl (rd cs p b l) _ (by assumption) 19 (rd_size hl p b l) _ Try.underlying25 rfl (by kernel_rfl) ?_))
      refine (toRoad_any cs p b l hl _).mono ?_
      rintro e w8 ⟨rfl, hb8⟩
      have X8 := X7.step hb8
      have Y8 := Y7.step hb8
      have C8 := C7.step hb8
      have B8 := Lib.hid (bthen B7.out hb8)
      have G17 := G15.step (Nat.le_refl _) hb8
      have G18 := G16.step (Nat.le_refl _) hb8
      clear G15 G16 A7 B7 hb8 C7 X7 Y7
      go_wp2_with fail
      refine (KI _ _ _ _ _ X8 Y8).mono ?_
      rintro e w9 ⟨rfl, hb9⟩
      clear KI
      have X9 := X8.step hb9
      have Y9 := Y8.step hb9
      have C9 := C8.step hb9
      have B9 := Lib.hid (bthen B8.out hb9)
      have G19 := G17.step (Nat.le_refl _) hb9
      have G20 := G18.step (Nat.le_refl _) hb9
      clear G17 G18 B8 hb9 C8 X8 Y8
      have E1 := At.new w9 (rd (zeros 16) 0 0 0) 28
      have E2 := E1.setRow (rd (vStepList cs p b l xs ys).1 (vStepList cs p b l xs ys).2.1 (vStepList cs p b l xs ys).2.2.1 (vStepList cs p b l xs ys).2.2.2.1)
      have C10 := (C9.alloc (.cells (rd (zeros 16) 0 0 0) 28)).setRow_other (k := w9.heap.size) (Nat.ne_of_lt C9.lt) (rd (vStepList cs p b l xs ys).1 (vStepList cs p b l xs ys).2.1 (vStepList cs p b l xs ys).2.2.1 (vStepList cs p b l xs ys).2.2.2.1)
      have hb10 : Below w9.heap.size w9 ((w9.alloc (.cells (rd (zeros 16) 0 0 0) 28)).setRow w9.heap.size (rd (vStepList cs p b l xs ys).1 (vStepList cs p b l xs ys).2.1 (vStepList cs p b l xs ys).2.2.1 (vStepList cs p b l xs ys).2.2.2.1)) := bset (b0 w9 (.cells (rd (zeros 16) 0 0 0) 28)) (g := w9.heap.size) (Nat.le_refl _) (rd (vStepList cs p b l xs ys).1 (vStepList cs p b l xs ys).2.1 (vStepList cs p b l xs ys).2.2.1 (vStepList cs p b l xs ys).2.2.2.1)
      have X10 := X9.step hb10
      have Y10 := Y9.step hb10
      have B10 := Lib.hid (bthen B9.out hb10)
      have G21 := G19.step (Nat.le_refl _) hb10
      have G22 := G20.step (Nat.le_refl _) hb10
      clear G19 G20 B9 hb10 C9 X9 Y9
      go_wp2_with (first | ((with_reducible refine is_store 28 (.tmp 13) (.tmp 45) rfl ?_); refine wpList_store_at rfl 28 (.tmp 13) (.tmp 45) rfl _ rfl (rd (vStepList cs p b l xs ys).1 (vStepList cs p b l xs ys).2.1 (vStepList cs p b l xs ys).2.2.1 (vStepList cs p b l xs ys).2.2.2.1) rfl (rd (zeros 16) 0 0 0) _ (by assumption) 19 SZ (rd_size (zeros_len 16) _ _ _) (by kernel_rfl) (fl_one _) ?_) | ((with_reducible refine is_load 28 _ rfl ?_); refine wpList_load_at rfl 28 _ rfl _ rfl (rd (vStepList cs p b l xs ys).1 (vStepList cs p b l xs ys).2.1 (vStepList cs p b l xs ys).2.2.1 (vStepList cs p b l xs ys).2.2.2.1) _ (by assumption) 19 (SZ) _ Try.underlying28 rfl (by kernel_rfl) ?_))
      refine (eqRoad_same _ _ _ _ GD _).mono ?_
      rintro e w11 ⟨rfl, hb11⟩
      have X11 := X10.step hb11
      have Y11 := Y10.step hb11
      have B11 := Lib.hid (bthen B10.out hb11)
      have G23 := G21.step (Nat.le_refl _) hb11
      have G24 := G22.step (Nat.le_refl _) hb11
      clear G21 G22 B10 hb11 C10 X10 Y10 E1 E2
      go_wp2_with fail
      refine (sameFloat_same v4 GG.out.1.1 GG.out.1.2 _).mono ?_
      rintro e w12 ⟨rfl, rfl⟩
      go_wp2_with fail
      refine (sameFloat_same v5 GG.out.2.1 GG.out.2.2 _).mono ?_
      rintro e w13 ⟨rfl, rfl⟩
      go_wp2_with fail
      refine (toFloat32S_any _ xs G23 HNN.out.1).mono ?_
      rintro e w14 ⟨rfl, Z14, hb14⟩
      have X14 := X11.step hb14
      have Y14 := Y11.step hb14
      have B14 := Lib.hid (bthen B11.out hb14)
      have G26 := G24.step (Nat.le_refl _) hb14
      clear G23 G24 X11 Y11 B11 hb14
      go_wp2_with fail
      refine (eqFloat32S_same _ _ xs HX.out.1 HNN.out.1 _ _ _ X14 Z14).mono ?_
      rintro e w15 ⟨rfl, hb15⟩
      have Y15 := Y14.step hb15
      have B15 := Lib.hid (bthen B14.out hb15)
      have G27 := G26.step (Nat.le_refl _) hb15
      clear X14 Z14 Y14 B14 hb15 G26
      go_wp2_with fail
      refine (toFloat32S_any _ ys G27 HNN.out.2).mono ?_
      rintro e w16 ⟨rfl, Z16, hb16⟩
      have Y16 := Y15.step hb16
      have B16 := Lib.hid (bthen B15.out hb16)
      clear Y15 B15 hb16 G27
      go_wp2_with fail
      refine (eqFloat32S_same _ _ ys HX.out.2 HNN.out.2 _ _ _ Y16 Z16).mono ?_
      rintro e w17 ⟨rfl, hb17⟩
      go_wp2_with fail
      go_ret
      exact ⟨rfl, bthen B16.out hb17⟩
    · have i1 : ¬ (1048576 : Int) < (xs.length : Int) := by omega
      have d1 : decide ((1048576 : Int) < (xs.length : Int)) = false := decide_eq_false (by omega)
      have i2 : (1048576 : Int) < (ys.length : Int) := by omega
      have d2 : decide ((1048576 : Int) < (ys.length : Int)) = true := decide_eq_true (by omega)
      go_enter Try.func5, Try.ntmps5
      go_wp2
      go_ret
      exact ⟨rfl, b0 _ _⟩
  · have i1 : (1048576 : Int) < (xs.length : Int) := by omega
    have d1 : decide ((1048576 : Int) < (xs.length : Int)) = true := decide_eq_true (by omega)
    go_enter Try.func5, Try.ntmps5
    go_wp2
    go_ret
    exact ⟨rfl, b0 _ _⟩

set_option maxRecDepth 100000 in
theorem lifted (os : Os) (started : os.Started) (H : Type) (enc : TypeId × Value → H) :
    ReturnsInHanded {} Try.checked os 5 .any (Rows.fnExactStepListSpec.pre6 enc Try.prog Try.f5 Rows.fnExactStepListRow.domain false) (Rows.fnExactStepListSpec.post enc Try.prog Try.f5 false true false false) := by
  refine law_liftedS enc os started (by kernel_rfl) Try.func5
    (ChangeSpec.witness6 (enc := enc) (C := Try.checked) false ⟨#[], #[.agg (Array.replicate 19 (.float .f32 0)), .slice none 0 0, .slice none 0 0], []⟩ 24 (by kernel_rfl) (by kernel_rfl) (by kernel_rfl) (by kernel_rfl)) rfl (by kernel_rfl) ?_ ?_ ?_
  · rw [Try.params5]
    intro t ht
    have hall : (#[25, 38, 38].toList.all fun u => Try.prog.readableRec u && decide (u < Try.prog.types.size)) = true := by kernel_rfl
    have := List.all_eq_true.1 hall t ht
    simpa using this
  · intro ds h
    rw [Try.params5] at h
    match ds, h with
    | [d0, d1, d2], _ => rfl
  · intro W base args ds ps hl hval hA
    rw [Try.params5] at hl hval hA
    obtain ⟨v0, v1, v2, rfl⟩ : ∃ v0 v1 v2, args = #[v0, v1, v2] := by
      obtain ⟨l⟩ := args
      match l, hl with
      | [v0, v1, v2], _ => exact ⟨v0, v1, v2, rfl⟩
    obtain ⟨vx0, vy0, dd0, de0, pp0, pq0, ee0, -, -, tr0, rr0⟩ := trodAll_cons hA
    obtain ⟨rfl, rfl⟩ := List.cons.inj ee0
    obtain ⟨vx1, vy1, dd1, de1, pp1, pq1, ee1, -, -, tr1, rr1⟩ := trodAll_cons rr0
    obtain ⟨rfl, rfl⟩ := List.cons.inj ee1
    obtain ⟨vx2, vy2, dd2, de2, pp2, pq2, ee2, -, -, tr2, rr2⟩ := trodAll_cons rr1
    obtain ⟨rfl, rfl⟩ := List.cons.inj ee2
    obtain ⟨c0, p0, b0, l0, rfl, hl0, hc0, hp0, hb0, hla0⟩ := shape_road (hval 0 _ _ rfl rfl)
    obtain ⟨x1, h1⟩ := shape_f32s Try.underlying38 Try.underlying22 (by kernel_rfl) (okWide_slice Try.underlying38 (hval 1 _ _ rfl rfl)) tr1
    obtain ⟨x2, h2⟩ := shape_f32s Try.underlying38 Try.underlying22 (by kernel_rfl) (okWide_slice Try.underlying38 (hval 2 _ _ rfl rfl)) tr2
    exact walk W c0 p0 b0 l0 hl0 hc0 hp0 hb0 hla0 v1 x1 h1 v2 x2 h2

/-- THE STATEMENT -/
theorem proved : Rows.FnExactStepListSaid :=
  OpenClaim.holds_of_wide 5 Try.f5 rfl rfl rfl rfl rfl rfl rfl ⟨rfl, rfl, rfl, rfl, rfl⟩ rfl rfl rfl rfl rfl (by kernel_rfl) Try.func5 (by kernel_rfl)
    (of_decide_eq_true (by kernel_rfl)) (by unfold Func.isWrapper; first | (rw [if_pos (by decide +kernel)]; kernel_rfl) | (rw [if_neg (by decide +kernel)]; exact ⟨rfl, rfl⟩))
    (fun os started H enc _ => lifted os started H enc)
#print axioms proved
end Go.Proofs.Ytkaghfoaicbngaa.lawFnExactStepList
