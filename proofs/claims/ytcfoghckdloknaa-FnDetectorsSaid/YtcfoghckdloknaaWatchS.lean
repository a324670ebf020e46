/-
  CONTRACTS: the model's WatchRoad.
-/
import Derived.Test.YtcfoghckdloknaaWatchI
import Derived.Test.YtcfoghckdloknaaVDet
import Derived.Test.YtcfoghckdloknaaTakes
import Derived.Test.YtcfoghckdloknaaRoadS
namespace Go.Proofs.Ytcfoghckdloknaa
open Go Go.ChangeShapes Go.WideShapes Go.ChangeAt Go.RowKit
set_option maxRecDepth 100000

theorem l00Min_w (x y : Int) (w : World) : Calls Try.prog 30 #[.int .i64 x, .int .i64 y] w (Rd (.int .i64 (min x y)) w) := by
  by_cases h : x < y
  · rw [show min x y = x from by omega]
    go_enter Try.func30, Try.ntmps30
    go_wp2
    go_ret
    exact Rd.mk0
  · rw [show min x y = y from by omega]
    go_enter Try.func30, Try.ntmps30
    go_wp2
    go_ret
    exact Rd.mk0

theorem RoadAt.of_at {w : World} {g : Nat} {cs : List Nat} {p b l : Nat} {T : TypeId} (h : At w g (rd cs p b l) T) : RoadAt w g cs p b l := ⟨T, (0, 0), h⟩

theorem vWR_q {y f : Nat} {t : Int} {cs : List Nat} {p b l m k a fl_ : Nat} (h : (okD (k : Int) y (m : Int) f t && okB cs p b l) = true) (ha : a = addB y (mulB fl_ l)) (hf : fl_ = flowW p b cs k) :
    (t = 1000000 → vWR (k : Int) y (m : Int) f t cs p b l = (0, 0, 0, 0, 0, 4)) ∧ (t ≠ 1000000 → vWR (k : Int) y (m : Int) f t cs p b l = ((k : Int), car a, ((min (m + flo a) 32767 : Nat) : Int), addB f (nth cs k), t + 1, 0)) := by
  refine ⟨fun ht => vWR_4 h ht, fun ht => ?_⟩
  rw [vWR_0 h ht, Int.toNat_natCast, Int.toNat_natCast, ha, hf]

set_option maxHeartbeats 2000000 in
theorem sWatchRoad_any (c : Int) (y : Nat) (n : Int) (f : Nat) (t : Int) (hy : y < 4294967296) (hn : -32768 ≤ n ∧ n ≤ 32767) (hf : f < 4294967296) (cs : List Nat) (p b l : Nat) (hl : cs.length = 16) (hc : ∀ x ∈ cs, x < 4294967296) (hp : p < 4294967296) (hb : b < 4294967296) (hla : l < 4294967296) (w : World) :
    Calls Try.prog 11 #[.agg (dt c y n f t), .agg (rd cs p b l)] w fun e w' => e = .returned (.tuple #[.agg (dt (vWR c y n f t cs p b l).1 (vWR c y n f t cs p b l).2.1 (vWR c y n f t cs p b l).2.2.1 (vWR c y n f t cs p b l).2.2.2.1 (vWR c y n f t cs p b l).2.2.2.2.1), .int .i64 ((vWR c y n f t cs p b l).2.2.2.2.2)]) ∧ Below w.heap.size w w' := by
  have D0 : At (((w.alloc (.cells (dt c y n f t) 33)).alloc (.cells (rd cs p b l) 28)).alloc (.cells (#[.int .i64 0, .float .f32 0, .int .i16 0, .float .f32 0, .int .i64 0]) 33)) w.heap.size (dt c y n f t) 33 := ((At.new w _ _).alloc _).alloc _
  have Q0 : At (((w.alloc (.cells (dt c y n f t) 33)).alloc (.cells (rd cs p b l) 28)).alloc (.cells (#[.int .i64 0, .float .f32 0, .int .i16 0, .float .f32 0, .int .i64 0]) 33)) (w.heap.size + 1) (rd cs p b l) 28 := (At.last1 w _ _ _).alloc _
  have R0 : At (((w.alloc (.cells (dt c y n f t) 33)).alloc (.cells (rd cs p b l) 28)).alloc (.cells (#[.int .i64 0, .float .f32 0, .int .i16 0, .float .f32 0, .int .i64 0]) 33)) (w.heap.size + 1 + 1) (#[.int .i64 0, .float .f32 0, .int .i16 0, .float .f32 0, .int .i64 0]) 33 := by
    have := At.new ((w.alloc (.cells (dt c y n f t) 33)).alloc (.cells (rd cs p b l) 28)) (#[.int .i64 0, .float .f32 0, .int .i16 0, .float .f32 0, .int .i64 0]) 33
    rwa [World.size_alloc, World.size_alloc] at this
  have B0 := Lib.hid (bnew (bnew (b0 w (.cells (dt c y n f t) 33)) (.cells (rd cs p b l) 28)) (.cells (#[.int .i64 0, .float .f32 0, .int .i16 0, .float .f32 0, .int .i64 0]) 33))
  have KD := fun W A => l05Ok_any c y n f t hy hf w.heap.size 33 W A
  have KR := fun W (h : RoadAt W (w.heap.size + 1) cs p b l) => l01Ok_any (w.heap.size + 1) cs p b l hl hc hp hb hla W h
  cases hD : okD c y n f t
  · have hv := Lib.hid (vWR_1 (show (okD c y n f t && okB cs p b l) = false from by rw [hD]; rfl))
    rw [hD] at KD
    have HF := Lib.hid hD
    clear hD
    go_enter Try.func11, Try.ntmps11
    go_wp2_with fail
    refine (KD _ D0).mono ?_
    rintro e w1 ⟨rfl, hb1⟩
    have D1 := D0.step hb1
    have Q1 := Q0.step hb1
    have R1 := R0.step hb1
    have B1 := Lib.hid (bthen B0.out hb1)
    clear D0 Q0 R0 B0 hb1
    clear KR KD
    have R8 := R1.setRow (dt 0 0 0 0 0)
    have R9 := R8
    have B9 := Lib.hid (bset B1.out (g := w.heap.size + 1 + 1) (by omega) (dt 0 0 0 0 0))
    clear R8 D1 Q1 HF
    go_wp2_with (((with_reducible refine is_store 33 _ _ rfl ?_); refine wpList_store_at rfl 33 _ _ rfl _ rfl ((dt 0 0 0 0 0)) rfl (#[.int .i64 0, .float .f32 0, .int .i16 0, .float .f32 0, .int .i64 0]) _ (by with_reducible assumption) 5 (dt_size _ _ _ _ _) (rfl) (by kernel_rfl) (dt_one _ _ _ _ _) ?_))
    exact bodyPost_ret (v := .tuple #[.agg (dt 0 0 0 0 0), .int .i64 1]) (results_at_tmp (p := 4) (ty := 33) rfl _ _ _ (dt 0 0 0 0 0) _ (.int .i64 1) rfl rfl R9 _ Try.underlying33 rfl 5 (dt_size _ _ _ _ _) (by kernel_rfl)) rfl ⟨by rw [hv.out], B9.out⟩
  · rw [hD] at KD
    cases hB : okB cs p b l
    · have hv := Lib.hid (vWR_1 (show (okD c y n f t && okB cs p b l) = false from by rw [hB, Bool.and_false]))
      rw [hB] at KR
      have HF := Lib.hid hD
      clear hD hB
      go_enter Try.func11, Try.ntmps11
      go_wp2_with fail
      refine (KD _ D0).mono ?_
      rintro e w1 ⟨rfl, hb1⟩
      have D1 := D0.step hb1
      have Q1 := Q0.step hb1
      have R1 := R0.step hb1
      have B1 := Lib.hid (bthen B0.out hb1)
      clear D0 Q0 R0 B0 hb1
      go_wp2_with fail
      refine (KR _ (RoadAt.of_at Q1)).mono ?_
      rintro e w2 ⟨rfl, n2, rfl⟩
      have hb2 : Below w1.heap.size w1 (w1.drewN n2) := bdrew (Below.refl _ _) n2
      have D2 := D1.step hb2
      have Q2 := Q1.step hb2
      have R2 := R1.step hb2
      have B2 := Lib.hid (bthen B1.out hb2)
      clear D1 Q1 R1 B1 hb2
      clear KR KD
      have R8 := R2.setRow (dt 0 0 0 0 0)
      have R9 := R8
      have B9 := Lib.hid (bset B2.out (g := w.heap.size + 1 + 1) (by omega) (dt 0 0 0 0 0))
      clear R8 D2 Q2 HF
      go_wp2_with (((with_reducible refine is_store 33 _ _ rfl ?_); refine wpList_store_at rfl 33 _ _ rfl _ rfl ((dt 0 0 0 0 0)) rfl (#[.int .i64 0, .float .f32 0, .int .i16 0, .float .f32 0, .int .i64 0]) _ (by with_reducible assumption) 5 (dt_size _ _ _ _ _) (rfl) (by kernel_rfl) (dt_one _ _ _ _ _) ?_))
      exact bodyPost_ret (v := .tuple #[.agg (dt 0 0 0 0 0), .int .i64 1]) (results_at_tmp (p := 4) (ty := 33) rfl _ _ _ (dt 0 0 0 0 0) _ (.int .i64 1) rfl rfl R9 _ Try.underlying33 rfl 5 (dt_size _ _ _ _ _) (by kernel_rfl)) rfl ⟨by rw [hv.out], B9.out⟩
    · have hq : (okD c y n f t && okB cs p b l) = true := by rw [hD, hB]; rfl
      rw [hB] at KR
      have HF := Lib.hid hq
      clear hD hB
      obtain ⟨ok, h0, hn0, ht0, hf0, hy0, hfl, ha, f1, f2', hs⟩ := wr_facts hl hq
      obtain ⟨k, rfl⟩ := Int.eq_ofNat_of_zero_le h0.1
      obtain ⟨m, rfl⟩ := Int.eq_ofNat_of_zero_le hn0
      rw [Int.toNat_natCast] at hfl ha f1 f2' hs
      have hk16 : k < 16 := by omega
      have hk14 : k + 1 < 16 := by omega
      have hm7 : m ≤ 32767 := by have := hn.2; omega
      obtain ⟨fl_, hfl_⟩ : ∃ x, x = flowW p b cs k := ⟨_, rfl⟩
      have HFL := Lib.hid hfl_
      rw [← hfl_] at hfl ha f1 f2'
      obtain ⟨a, haa⟩ : ∃ x, x = addB y (mulB fl_ l) := ⟨_, rfl⟩
      rw [← haa] at ha f2'
      have hvq := vWR_q hq haa hfl_ (m := m) (k := k) (t := t)
      clear haa hfl_ h0 hn0
      obtain ⟨c1, c2⟩ := car_ok ha
      obtain ⟨u1, u2⟩ := full_ok hf0 hs
      obtain ⟨o1, o2, o3⟩ := whole_ops ⟨flo a, by have := flo_le ha; omega⟩
      have h16 := flo_le ha
      have s1 := add_whole hm7 h16
      simp only at o1 o2 o3
      have hw := wide_at (x := a) (by omega) (by unfold nanB; exact decide_eq_false (by rw [Nat.mod_eq_of_lt (by omega)]; omega))
      rw [show wideB a = S64.word false (wideR a) from wide_fin false (r := a) (by omega)] at hw
      have KFl := fun w => floor_any ha w
      have c4 : (flo a : Int) ≤ 16 := by omega
      obtain ⟨u, hu⟩ : ∃ u, u = min (m + flo a) 32767 := ⟨_, rfl⟩
      rw [← hu] at hvq
      have KT := fun w => l00Min_w ((m : Int) + (flo a : Int)) 32767 w
      rw [show min ((m : Int) + (flo a : Int)) 32767 = (u : Int) from by omega] at KT
      have s3 : IntKind.i16.wrap (u : Int) = (u : Int) := IntWalk.i16_in _ (by omega)
      have s4 : IntKind.i64.wrap (m : Int) = (m : Int) := IntWalk.i64_in _ (by omega)
      have s5 : IntKind.i64.wrap ((m : Int) + (flo a : Int)) = (m : Int) + (flo a : Int) := IntWalk.i64_in _ (by omega)
      obtain ⟨f2, hf2⟩ : ∃ x, x = addB f (nth cs k) := ⟨_, rfl⟩
      rw [← hf2] at u1 u2 hvq
      have hok2 : okD (k : Int) (car a) (u : Int) f2 (t + 1) = decide (t ≠ 1000000) := by
        have e1 : inB 0 14 (k : Int) = true := decide_eq_true ⟨by omega, by omega⟩
        have e2 : amtB (car a) = true := decide_eq_true (by omega)
        have e4 : amtB f2 = true := decide_eq_true u2
        unfold okD
        rw [e1, e2, e4, decide_eq_true c2, decide_eq_true (show (0 : Int) ≤ (u : Int) by omega)]
        simp only [Bool.true_and]
        unfold inB
        exact decide_eq_decide.2 ⟨fun h => by omega, fun h => by omega⟩
      have KO2 := fun W A => l05Ok_any (k : Int) (car a) (u : Int) f2 (t + 1) (by omega) (by omega) w.heap.size 33 W A
      rw [hok2] at KO2
      have KF := fun W (h : RoadAt W (w.heap.size + 1) cs p b l) => l01Flow_any (w.heap.size + 1) k hk14 cs p b l ok W h
      rw [← HFL.out] at KF
      have g1 : ∀ ty w, (binOp .mul ty (.float .f32 fl_) (.float .f32 l)).run Try.prog w = .ok (.float .f32 (mulB fl_ l)) w := fun ty w => run_float_arith w .mul ty .f32 _ _ _ f1
      have g2 : ∀ ty w, (binOp .add ty (.float .f32 y) (.float .f32 (mulB fl_ l))).run Try.prog w = .ok (.float .f32 a) w := fun ty w => run_float_arith w .add ty .f32 _ _ _ f2'
      have g3 : ∀ ty w, (binOp .sub ty (.float .f32 a) (.float .f32 (fN (flo a)))).run Try.prog w = .ok (.float .f32 (car a)) w := fun ty w => run_float_arith w .sub ty .f32 _ _ _ c1
      have g5 : ∀ ty w, (binOp .add ty (.float .f32 f) (.float .f32 (nth cs k))).run Try.prog w = .ok (.float .f32 f2) w := fun ty w => run_float_arith w .add ty .f32 _ _ _ u1
      have g6 : ∀ w, (convert 59 24 (.float .f64 (wIk 1074 (flo a)))).run Try.prog w = .ok (.float .f32 (fN (flo a))) w := fun w => run_convert_float_float w 59 24 .f64 .f32 _ _ (by rw [Try.underlying59]; rfl) Try.underlying24 o1
      have g7 : ∀ w, (convert 59 2 (.float .f64 (wIk 1074 (flo a)))).run Try.prog w = .ok (.int .i64 (flo a : Int)) w := fun w => run_convert_float_int w 59 2 .f64 .i64 _ _ (by rw [Try.underlying59]; rfl) Try.underlying2 o2
      have s9 : IntKind.i64.wrap (t + 1) = t + 1 := IntWalk.i64_in _ (by omega)
      have HQ := Lib.hid hvq
      clear hvq ok f1 f2' c1 c2 s1 u1 u2 o1 o2 o3 h16 c4 hs hfl ha hf2 hf0 hy0 hq hok2 ht0
      generalize S64.word false (wideR a) = WV at hw KFl
      generalize wIk 1074 (flo a) = FV at KFl g6 g7
      generalize fN (flo a) = fv at g3 g6
      have HU := Lib.hid hu
      clear hu
      generalize flo a = fa at *
      go_enter Try.func11, Try.ntmps11
      go_wp2_with fail
      refine (KD _ D0).mono ?_
      rintro e w1 ⟨rfl, hb1⟩
      have D1 := D0.step hb1
      have Q1 := Q0.step hb1
      have R1 := R0.step hb1
      have B1 := Lib.hid (bthen B0.out hb1)
      clear D0 Q0 R0 B0 hb1
      go_wp2_with fail
      refine (KR _ (RoadAt.of_at Q1)).mono ?_
      rintro e w2 ⟨rfl, n2, rfl⟩
      have hb2 : Below w1.heap.size w1 (w1.drewN n2) := bdrew (Below.refl _ _) n2
      have D2 := D1.step hb2
      have Q2 := Q1.step hb2
      have R2 := R1.step hb2
      have B2 := Lib.hid (bthen B1.out hb2)
      clear D1 Q1 R1 B1 hb2
      generalize w1.drewN n2 = w2 at D2 Q2 R2 B2 ⊢
      clear KR KD
      go_wp2_with fail
      have hC := Cb.const w2
      refine wp_region_cb (by kernel_rfl) (by kernel_rfl) ?_
      repeat (first
        | go_big_quiet_skip
        | (go_big_quiet_want; first
          | (refine q_cell 24 _ rfl _ Try.underlying24 _ rfl D2 _ (dt_1 _ _ _ _ _) ?_; go_simp; go_big_quiet_on)
          | (refine q_cell 24 _ rfl _ Try.underlying24 _ rfl Q2 _ (rd_lanes hl p b l) ?_; go_simp; go_big_quiet_on)
          | (refine q_row 28 _ rfl rfl Q2 19 (rd_size hl p b l) _ Try.underlying28 rfl (by kernel_rfl) ?_; go_simp; go_big_quiet_on)
          | (refine q_oneD 2 _ rfl _ Try.underlying2 rfl 0 rfl D2 _ (dt_0 _ _ _ _ _) ?_; go_simp; go_big_quiet_on)
          | (go_big_quiet_op; go_big_quiet_on)
          | (go_big_quiet_op; apply Exists.intro; refine ⟨fun w' hw' => ?_, ?_⟩; (go_at_call 24; exact (KF _ (RoadAt.of_at (Q2.step hw'))).mono fun _ _ h => ⟨h.1, hw'.step (by obtain ⟨m, rfl⟩ := h.2; exact bdrew (Below.refl _ _) m)⟩); go_big_quiet_on)))
      refine wpQuiet_nil ?_
      intro w3 hw3
      have D3 := D2.step hw3
      have Q3 := Q2.step hw3
      have R3 := R2.step hw3
      have B3 := Lib.hid (bthen B2.out hw3)
      clear D2 Q2 R2 B2 hw3
      clear hC KF
      go_wp2_with (simp only [hw])
      refine (KFl _).mono ?_
      rintro e w4 ⟨rfl, n4, rfl⟩
      have hb4 : Below w3.heap.size w3 (w3.drewN n4) := bdrew (Below.refl _ _) n4
      have D4 := D3.step hb4
      have Q4 := Q3.step hb4
      have R4 := R3.step hb4
      have B4 := Lib.hid (bthen B3.out hb4)
      clear D3 Q3 R3 B3 hb4
      clear KFl hw
      generalize w3.drewN n4 = w4 at D4 Q4 R4 B4 ⊢
      have d42 := D4.cell (dt_2 _ _ _ _ _)
      have D5 := D4.setRow (dt (k : Int) (car a) (m : Int) f t)
      have Q5 := Q4.setRow_other (k := w.heap.size) (by omega) (dt (k : Int) (car a) (m : Int) f t)
      have R5 := R4.setRow_other (k := w.heap.size) (by omega) (dt (k : Int) (car a) (m : Int) f t)
      have B5 := Lib.hid (bset B4.out (g := w.heap.size) (Nat.le_refl _) (dt (k : Int) (car a) (m : Int) f t))
      go_wp2_with (first | simp only [g6, g7] | ((with_reducible refine is_store 24 _ _ rfl ?_); refine wpList_store_cell rfl 24 _ _ rfl _ 1 rfl (.float .f32 (car a)) rfl (dt (k : Int) y (m : Int) f t) _ (by with_reducible assumption) (by rw [dt_size]; omega) (by kernel_rfl) rfl (dt (k : Int) (car a) (m : Int) f t) (dt_s1 _ _ _ _ _ _) ?_))
      clear d42 D4 Q4 R4 B4
      generalize World.setRow _ _ _ = w5 at D5 Q5 R5 B5 ⊢
      refine (KT _).mono ?_
      rintro e w6 ⟨rfl, n6, rfl⟩
      have hb6 : Below w5.heap.size w5 (w5.drewN n6) := bdrew (Below.refl _ _) n6
      have D6 := D5.step hb6
      have Q6 := Q5.step hb6
      have R6 := R5.step hb6
      have B6 := Lib.hid (bthen B5.out hb6)
      clear D5 Q5 R5 B5 hb6
      generalize w5.drewN n6 = w6 at D6 Q6 R6 B6 ⊢
      clear KT g3 g6 g7
      have D7 := D6.setRow (dt (k : Int) (car a) (u : Int) f t)
      have Q7 := Q6.setRow_other (k := w.heap.size) (by omega) (dt (k : Int) (car a) (u : Int) f t)
      have R7 := R6.setRow_other (k := w.heap.size) (by omega) (dt (k : Int) (car a) (u : Int) f t)
      have B7 := Lib.hid (bset B6.out (g := w.heap.size) (Nat.le_refl _) (dt (k : Int) (car a) (u : Int) f t))
      go_wp2_with (((with_reducible refine is_store 31 _ _ rfl ?_); refine wpList_store_cell rfl 31 _ _ rfl _ 2 rfl (.int .i16 (u : Int)) rfl (dt (k : Int) (car a) (m : Int) f t) _ (by with_reducible assumption) (by rw [dt_size]; omega) (by kernel_rfl) rfl (dt (k : Int) (car a) (u : Int) f t) (dt_s2 _ _ _ _ _ _) ?_))
      generalize World.setRow _ _ _ = w7 at D7 Q7 R7 B7 ⊢
      clear D6 Q6 R6 B6
      go_simp
      have hcell : (rd cs p b l)[k]? = some (.float .f32 (nth cs k)) := rd_cell hl p b l hk16
      have hC := Cb.const w7
      refine wp_region_cb_tail 9 (by kernel_rfl) (by kernel_rfl) ?_
      simp only [List.take]
      repeat (first
        | go_big_quiet_skip
        | (go_big_quiet_want; first
          | (refine q_cell 24 _ rfl _ Try.underlying24 _ rfl D7 _ (dt_3 _ _ _ _ _) ?_; go_simp; go_big_quiet_on)
          | (refine q_cell 24 _ rfl _ Try.underlying24 _ rfl Q7 _ (rd_cell hl p b l hk16) ?_; go_simp; go_big_quiet_on)
          | (refine q_oneD 2 _ rfl _ Try.underlying2 rfl 0 rfl D7 _ (dt_0 _ _ _ _ _) ?_; go_simp; go_big_quiet_on)
          | (go_big_quiet_op; go_big_quiet_on)))
      refine wpQuiet_nil ?_
      intro w8 hw8
      have D8 := D7.step hw8
      have Q8 := Q7.step hw8
      have R8 := R7.step hw8
      have B8 := Lib.hid (bthen B7.out hw8)
      clear D7 Q7 R7 B7 hw8
      clear hC
      simp only [List.drop]
      have D9 := D8.setRow (dt (k : Int) (car a) (u : Int) f2 t)
      have Q9 := Q8.setRow_other (k := w.heap.size) (by omega) (dt (k : Int) (car a) (u : Int) f2 t)
      have R9 := R8.setRow_other (k := w.heap.size) (by omega) (dt (k : Int) (car a) (u : Int) f2 t)
      have B9 := Lib.hid (bset B8.out (g := w.heap.size) (Nat.le_refl _) (dt (k : Int) (car a) (u : Int) f2 t))
      have d94 := D9.cell (dt_4 _ _ _ _ _)
      have D10 := D9.setRow (dt (k : Int) (car a) (u : Int) f2 (t + 1))
      have Q10 := Q9.setRow_other (k := w.heap.size) (by omega) (dt (k : Int) (car a) (u : Int) f2 (t + 1))
      have R10 := R9.setRow_other (k := w.heap.size) (by omega) (dt (k : Int) (car a) (u : Int) f2 (t + 1))
      have B10 := Lib.hid (bset B9.out (g := w.heap.size) (Nat.le_refl _) (dt (k : Int) (car a) (u : Int) f2 (t + 1)))
      clear g5
      go_wp2_with (first | ((with_reducible refine is_store 24 _ _ rfl ?_); refine wpList_store_cell rfl 24 _ _ rfl _ 3 rfl (.float .f32 f2) rfl (dt (k : Int) (car a) (u : Int) f t) _ (by with_reducible assumption) (by rw [dt_size]; omega) (by kernel_rfl) rfl (dt (k : Int) (car a) (u : Int) f2 t) (dt_s3 _ _ _ _ _ _) ?_) | ((with_reducible refine is_store 2 _ _ rfl ?_); refine wpList_store_cell rfl 2 _ _ rfl _ 4 rfl (.int .i64 (t + 1)) rfl (dt (k : Int) (car a) (u : Int) f2 t) _ (by with_reducible assumption) (by rw [dt_size]; omega) (by kernel_rfl) rfl (dt (k : Int) (car a) (u : Int) f2 (t + 1)) (dt_s4 _ _ _ _ _ _) ?_))
      generalize World.setRow _ _ _ = w10 at D10 Q10 R10 B10 ⊢
      refine (KO2 _ D10).mono ?_
      rintro e w11 ⟨rfl, hb11⟩
      have D11 := D10.step hb11
      have Q11 := Q10.step hb11
      have R11 := R10.step hb11
      have B11 := Lib.hid (bthen B10.out hb11)
      clear D10 Q10 R10 B10 hb11
      clear d94 D8 Q8 R8 B8 D9 Q9 R9 B9 KO2
      by_cases ht : t = 1000000
      · have hv := Lib.hid (HQ.out.1 ht)
        rw [decide_eq_false (show ¬ (t ≠ 1000000) from fun h => h ht)]
        have htt := Lib.hid ht
        clear ht
        have R8 := R11.setRow (dt 0 0 0 0 0)
        have R9 := R8
        have B9 := Lib.hid (bset B11.out (g := w.heap.size + 1 + 1) (by omega) (dt 0 0 0 0 0))
        clear R8 D11 Q11 HF
        go_wp2_with (((with_reducible refine is_store 33 _ _ rfl ?_); refine wpList_store_at rfl 33 _ _ rfl _ rfl ((dt 0 0 0 0 0)) rfl (#[.int .i64 0, .float .f32 0, .int .i16 0, .float .f32 0, .int .i64 0]) _ (by with_reducible assumption) 5 (dt_size _ _ _ _ _) (rfl) (by kernel_rfl) (dt_one _ _ _ _ _) ?_))
        exact bodyPost_ret (v := .tuple #[.agg (dt 0 0 0 0 0), .int .i64 4]) (results_at_tmp (p := 4) (ty := 33) rfl _ _ _ (dt 0 0 0 0 0) _ (.int .i64 4) rfl rfl R9 _ Try.underlying33 rfl 5 (dt_size _ _ _ _ _) (by kernel_rfl)) rfl ⟨by rw [hv.out], B9.out⟩
      · have hv := Lib.hid (HQ.out.2 ht)
        rw [decide_eq_true ht]
        have htt := Lib.hid ht
        clear ht
        have R12 := R11.setRow (dt (k : Int) (car a) (u : Int) f2 (t + 1))
        have B12 := Lib.hid (bset B11.out (g := w.heap.size + 1 + 1) (by omega) (dt (k : Int) (car a) (u : Int) f2 (t + 1)))
        go_wp2_with (first | ((with_reducible refine is_load 33 _ rfl ?_); refine wpList_load_at rfl 33 _ rfl _ rfl ((dt (k : Int) (car a) (u : Int) f2 (t + 1))) _ (by with_reducible assumption) 5 (dt_size _ _ _ _ _) _ Try.underlying33 rfl (by kernel_rfl) ?_) | ((with_reducible refine is_store 33 _ _ rfl ?_); refine wpList_store_at rfl 33 _ _ rfl _ rfl ((dt (k : Int) (car a) (u : Int) f2 (t + 1))) rfl (#[.int .i64 0, .float .f32 0, .int .i16 0, .float .f32 0, .int .i64 0]) _ (by with_reducible assumption) 5 (dt_size _ _ _ _ _) (rfl) (by kernel_rfl) (dt_one _ _ _ _ _) ?_))
        exact bodyPost_ret (v := .tuple #[.agg (dt (k : Int) (car a) (u : Int) f2 (t + 1)), .int .i64 0]) (results_at_tmp (p := 4) (ty := 33) rfl _ _ _ (dt (k : Int) (car a) (u : Int) f2 (t + 1)) _ (.int .i64 0) rfl rfl R12 _ Try.underlying33 rfl 5 (dt_size _ _ _ _ _) (by kernel_rfl)) rfl ⟨by rw [hv.out], B12.out⟩

end Go.Proofs.Ytcfoghckdloknaa
