/-
  CONTRACTS: the program's WatchRoad.
-/
import Derived.Test.YtcfoghckdloknaaWatchV
import Derived.Test.YtcfoghckdloknaaRoadS
import Derived.Test.YtcfoghckdloknaaG6
import Derived.Test.YtcfoghckdloknaaCnt
import Derived.Test.YtcfoghckdloknaaOneCell
import Derived.Test.YtcfoghckdloknaaMix
namespace Go.Proofs.Ytcfoghckdloknaa
open Go Go.ChangeShapes Go.WideShapes Go.ChangeAt Go.RowKit
set_option maxRecDepth 100000

theorem q_oneD {P : Program} {W : World} {o : Oper} {a : Act} {K : Act → Prop} {g : Nat} {c : Array Value} {T : TypeId} (ty : TypeId) (x : Operand) (ho : o.op = .load ty x) (d : TypeDesc) (hu : P.underlying ty = some d) (hd : (match d with | .struct _ | .array _ _ => true | _ => false) = false) (k : Nat) (hx : a.eval x = .pointer (some ⟨g, k, none⟩)) (hA : At W g c T) (v : Value) (hk : c[k]? = some v) (hK : K (a.put o.dst v)) : o.quiet P a (Cb W) K :=
  q_load ty x ho _ hx v (fun w hw => run_load_one w ty d hu hd _ v (At.cell (At.step hA hw) hk)) hK

set_option maxHeartbeats 2000000 in
theorem WatchRoad_any (c : Int) (y : Nat) (n : Int) (f : Nat) (t : Int) (hy : y < 4294967296) (hn : -32768 ≤ n ∧ n ≤ 32767) (hf : f < 4294967296) (cs : List Nat) (p b l : Nat) (hl : cs.length = 16) (hc : ∀ x ∈ cs, x < 4294967296) (hp : p < 4294967296) (hb : b < 4294967296) (hla : l < 4294967296) (w : World) :
    Calls Try.prog 10 #[.agg (dt c y n f t), .agg (rd cs p b l)] w fun e w' => e = .returned (.tuple #[.agg (dt (vWR c y n f t cs p b l).1 (vWR c y n f t cs p b l).2.1 (vWR c y n f t cs p b l).2.2.1 (vWR c y n f t cs p b l).2.2.2.1 (vWR c y n f t cs p b l).2.2.2.2.1), .int .i64 ((vWR c y n f t cs p b l).2.2.2.2.2)]) ∧ Below w.heap.size w w' := by
  have D0 : At (((w.alloc (.cells (dt c y n f t) 33)).alloc (.cells (rd cs p b l) 28)).alloc (.cells (#[.int .i64 0, .float .f32 0, .int .i16 0, .float .f32 0, .int .i64 0]) 33)) w.heap.size (dt c y n f t) 33 := ((At.new w _ _).alloc _).alloc _
  have Q0 : At (((w.alloc (.cells (dt c y n f t) 33)).alloc (.cells (rd cs p b l) 28)).alloc (.cells (#[.int .i64 0, .float .f32 0, .int .i16 0, .float .f32 0, .int .i64 0]) 33)) (w.heap.size + 1) (rd cs p b l) 28 := (At.last1 w _ _ _).alloc _
  have R0 : At (((w.alloc (.cells (dt c y n f t) 33)).alloc (.cells (rd cs p b l) 28)).alloc (.cells (#[.int .i64 0, .float .f32 0, .int .i16 0, .float .f32 0, .int .i64 0]) 33)) (w.heap.size + 1 + 1) (#[.int .i64 0, .float .f32 0, .int .i16 0, .float .f32 0, .int .i64 0]) 33 := by
    have := At.new ((w.alloc (.cells (dt c y n f t) 33)).alloc (.cells (rd cs p b l) 28)) (#[.int .i64 0, .float .f32 0, .int .i16 0, .float .f32 0, .int .i64 0]) 33
    rwa [World.size_alloc, World.size_alloc] at this
  have B0 := Lib.hid (bnew (bnew (b0 w (.cells (dt c y n f t) 33)) (.cells (rd cs p b l) 28)) (.cells (#[.int .i64 0, .float .f32 0, .int .i16 0, .float .f32 0, .int .i64 0]) 33))
  have KD := ValidDetector_any c y n f t hy hf
  have KR := ValidRoad_any cs p b l hl hc hp hb hla
  cases hD : okD c y n f t
  · have hv := Lib.hid (vWR_1 (show (okD c y n f t && okB cs p b l) = false from by rw [hD]; rfl))
    rw [hD] at KD
    have HF := Lib.hid hD
    clear hD
    go_enter Try.func10, Try.ntmps10
    go_wp2_with (((with_reducible refine is_load 33 _ rfl ?_); refine wpList_load_at rfl 33 _ rfl _ rfl ((dt c y n f t)) _ (by with_reducible assumption) 5 (dt_size _ _ _ _ _) _ Try.underlying33 rfl (by kernel_rfl) ?_))
    refine (KD _).mono ?_
    rintro e w1 ⟨rfl, hb1⟩
    have D1 := D0.step hb1
    have Q1 := Q0.step hb1
    have R1 := R0.step hb1
    have B1 := Lib.hid (bthen B0.out hb1)
    clear D0 Q0 R0 B0 hb1
    clear KR KD
    have R8 := R1.setRow (dt 0 0 0 0 0)
    have R9 := R8
    have B9 := Lib.hid (bset B1.out (g := w.heap.size + 1 + 1) (by omega) (dt 0 0 0 0 0))
    clear R8 D1 Q1 HF
    go_wp2_with (((with_reducible refine is_store 33 _ _ rfl ?_); refine wpList_store_at rfl 33 _ _ rfl _ rfl ((dt 0 0 0 0 0)) rfl (#[.int .i64 0, .float .f32 0, .int .i16 0, .float .f32 0, .int .i64 0]) _ (by with_reducible assumption) 5 (dt_size _ _ _ _ _) (rfl) (by kernel_rfl) (dt_one _ _ _ _ _) ?_))
    exact bodyPost_ret (v := .tuple #[.agg (dt 0 0 0 0 0), .int .i64 1]) (results_at_tmp (p := 4) (ty := 33) rfl _ _ _ (dt 0 0 0 0 0) _ (.int .i64 1) rfl rfl R9 _ Try.underlying33 rfl 5 (dt_size _ _ _ _ _) (by kernel_rfl)) rfl ⟨by rw [hv.out], B9.out⟩
  · rw [hD] at KD
    cases hB : okB cs p b l
    · have hv := Lib.hid (vWR_1 (show (okD c y n f t && okB cs p b l) = false from by rw [hB, Bool.and_false]))
      rw [hB] at KR
      have HF := Lib.hid hD
      clear hD hB
      go_enter Try.func10, Try.ntmps10
      go_wp2_with (((with_reducible refine is_load 33 _ rfl ?_); refine wpList_load_at rfl 33 _ rfl _ rfl ((dt c y n f t)) _ (by with_reducible assumption) 5 (dt_size _ _ _ _ _) _ Try.underlying33 rfl (by kernel_rfl) ?_))
      refine (KD _).mono ?_
      rintro e w1 ⟨rfl, hb1⟩
      have D1 := D0.step hb1
      have Q1 := Q0.step hb1
      have R1 := R0.step hb1
      have B1 := Lib.hid (bthen B0.out hb1)
      clear D0 Q0 R0 B0 hb1
      go_wp2_with (((with_reducible refine is_load 28 _ rfl ?_); refine wpList_load_g rfl 28 _ rfl _ rfl (rd cs p b l) _ (by with_reducible assumption) 19 (rd_size hl p b l) _ Try.underlying28 rfl (by kernel_rfl) ?_))
      refine (KR _).mono ?_
      rintro e w2 ⟨rfl, hb2⟩
      have D2 := D1.step hb2
      have Q2 := Q1.step hb2
      have R2 := R1.step hb2
      have B2 := Lib.hid (bthen B1.out hb2)
      clear D1 Q1 R1 B1 hb2
      clear KR KD
      have R8 := R2.setRow (dt 0 0 0 0 0)
      have R9 := R8
      have B9 := Lib.hid (bset B2.out (g := w.heap.size + 1 + 1) (by omega) (dt 0 0 0 0 0))
      clear R8 D2 Q2 HF
      go_wp2_with (((with_reducible refine is_store 33 _ _ rfl ?_); refine wpList_store_at rfl 33 _ _ rfl _ rfl ((dt 0 0 0 0 0)) rfl (#[.int .i64 0, .float .f32 0, .int .i16 0, .float .f32 0, .int .i64 0]) _ (by with_reducible assumption) 5 (dt_size _ _ _ _ _) (rfl) (by kernel_rfl) (dt_one _ _ _ _ _) ?_))
      exact bodyPost_ret (v := .tuple #[.agg (dt 0 0 0 0 0), .int .i64 1]) (results_at_tmp (p := 4) (ty := 33) rfl _ _ _ (dt 0 0 0 0 0) _ (.int .i64 1) rfl rfl R9 _ Try.underlying33 rfl 5 (dt_size _ _ _ _ _) (by kernel_rfl)) rfl ⟨by rw [hv.out], B9.out⟩
    · have hq : (okD c y n f t && okB cs p b l) = true := by rw [hD, hB]; rfl
      rw [hB] at KR
      have HF := Lib.hid hq
      clear hD hB
      by_cases ht : t = 1000000
      · have hv := Lib.hid (vWR_4 hq ht)
        subst ht
        go_enter Try.func10, Try.ntmps10
        go_wp2_with (((with_reducible refine is_load 33 _ rfl ?_); refine wpList_load_at rfl 33 _ rfl _ rfl ((dt c y n f 1000000)) _ (by with_reducible assumption) 5 (dt_size _ _ _ _ _) _ Try.underlying33 rfl (by kernel_rfl) ?_))
        refine (KD _).mono ?_
        rintro e w1 ⟨rfl, hb1⟩
        have D1 := D0.step hb1
        have Q1 := Q0.step hb1
        have R1 := R0.step hb1
        have B1 := Lib.hid (bthen B0.out hb1)
        clear D0 Q0 R0 B0 hb1
        go_wp2_with (((with_reducible refine is_load 28 _ rfl ?_); refine wpList_load_g rfl 28 _ rfl _ rfl (rd cs p b l) _ (by with_reducible assumption) 19 (rd_size hl p b l) _ Try.underlying28 rfl (by kernel_rfl) ?_))
        refine (KR _).mono ?_
        rintro e w2 ⟨rfl, hb2⟩
        have D2 := D1.step hb2
        have Q2 := Q1.step hb2
        have R2 := R1.step hb2
        have B2 := Lib.hid (bthen B1.out hb2)
        clear D1 Q1 R1 B1 hb2
        clear KR KD hq
        have d24 := D2.cell (dt_4 _ _ _ _ _)
        have R8 := R2.setRow (dt 0 0 0 0 0)
        have R9 := R8
        have B9 := Lib.hid (bset B2.out (g := w.heap.size + 1 + 1) (by omega) (dt 0 0 0 0 0))
        clear R8 D2 Q2 HF
        go_wp2_with (((with_reducible refine is_store 33 _ _ rfl ?_); refine wpList_store_at rfl 33 _ _ rfl _ rfl ((dt 0 0 0 0 0)) rfl (#[.int .i64 0, .float .f32 0, .int .i16 0, .float .f32 0, .int .i64 0]) _ (by with_reducible assumption) 5 (dt_size _ _ _ _ _) (rfl) (by kernel_rfl) (dt_one _ _ _ _ _) ?_))
        exact bodyPost_ret (v := .tuple #[.agg (dt 0 0 0 0 0), .int .i64 4]) (results_at_tmp (p := 4) (ty := 33) rfl _ _ _ (dt 0 0 0 0 0) _ (.int .i64 4) rfl rfl R9 _ Try.underlying33 rfl 5 (dt_size _ _ _ _ _) (by kernel_rfl)) rfl ⟨by rw [hv.out], B9.out⟩
      · obtain ⟨ok, h0, hn0, ht0, hf0, hy0, hfl, ha, f1, f2', hs⟩ := wr_facts hl hq
        obtain ⟨k, rfl⟩ := Int.eq_ofNat_of_zero_le h0.1
        obtain ⟨m, rfl⟩ := Int.eq_ofNat_of_zero_le hn0
        rw [Int.toNat_natCast] at hfl ha f1 f2' hs
        have hv := vWR_0 hq ht
        rw [Int.toNat_natCast, Int.toNat_natCast] at hv
        have hk16 : k < 16 := by omega
        have hk14 : k + 1 < 16 := by omega
        have hm7 : m ≤ 32767 := by have := hn.2; omega
        obtain ⟨fl_, hfl_⟩ : ∃ x, x = flowW p b cs k := ⟨_, rfl⟩
        have HFL := Lib.hid hfl_
        rw [← hfl_] at hfl ha f1 f2' hv
        obtain ⟨a, haa⟩ : ∃ x, x = addB y (mulB fl_ l) := ⟨_, rfl⟩
        rw [← haa] at ha f2' hv
        clear haa hfl_ h0 hn0
        obtain ⟨c1, c2⟩ := car_ok ha
        obtain ⟨u1, u2⟩ := full_ok hf0 hs
        obtain ⟨o1, o2, o3⟩ := whole_ops ⟨flo a, by have := flo_le ha; omega⟩
        have h16 := flo_le ha
        have s1 := add_whole hm7 h16
        simp only at o1 o2 o3
        have hw := wide_at (x := a) (by omega) (by unfold nanB; exact decide_eq_false (by rw [Nat.mod_eq_of_lt (by omega)]; omega))
        rw [show wideB a = S64.word false (wideR a) from wide_fin false (r := a) (by omega)] at hw
        have KFl := fun w => floor_any ha w
        have hv := Lib.hid hv
        have c4 : (flo a : Int) ≤ 16 := by omega
        obtain ⟨u, hu⟩ : ∃ u, u = min (m + flo a) 32767 := ⟨_, rfl⟩
        have hcw := Lib.hid (cnt_whole (m := m + flo a) (by omega))
        rw [← hu] at hcw hv
        have KT := fun w => ToCount_any (fN (m + flo a)) (by have := fN_fin (n := m + flo a) (by omega); omega) w
        rw [hcw.out] at KT
        obtain ⟨f2, hf2⟩ : ∃ x, x = addB f (nth cs k) := ⟨_, rfl⟩
        rw [← hf2] at u1 hv
        have KF := fun w => flowBetween_any k hk14 cs p b l ok w
        rw [← HFL.out] at KF
        have g1 : ∀ ty w, (binOp .mul ty (.float .f32 fl_) (.float .f32 l)).run Try.prog w = .ok (.float .f32 (mulB fl_ l)) w := fun ty w => run_float_arith w .mul ty .f32 _ _ _ f1
        have g2 : ∀ ty w, (binOp .add ty (.float .f32 y) (.float .f32 (mulB fl_ l))).run Try.prog w = .ok (.float .f32 a) w := fun ty w => run_float_arith w .add ty .f32 _ _ _ f2'
        have g3 : ∀ ty w, (binOp .sub ty (.float .f32 a) (.float .f32 (fN (flo a)))).run Try.prog w = .ok (.float .f32 (car a)) w := fun ty w => run_float_arith w .sub ty .f32 _ _ _ c1
        have g4 : ∀ ty w, (binOp .add ty (.float .f32 (floatOfInt .f32 (m : Int))) (.float .f32 (fN (flo a)))).run Try.prog w = .ok (.float .f32 (fN (m + flo a))) w := fun ty w => by rw [floatOfInt_nat]; exact run_float_arith w .add ty .f32 _ _ _ s1
        have g5 : ∀ ty w, (binOp .add ty (.float .f32 f) (.float .f32 (nth cs k))).run Try.prog w = .ok (.float .f32 f2) w := fun ty w => run_float_arith w .add ty .f32 _ _ _ u1
        have g6 : ∀ w, (convert 59 24 (.float .f64 (wIk 1074 (flo a)))).run Try.prog w = .ok (.float .f32 (fN (flo a))) w := fun w => run_convert_float_float w 59 24 .f64 .f32 _ _ (by rw [Try.underlying59]; rfl) Try.underlying24 o1
        have s9 : IntKind.i64.wrap (t + 1) = t + 1 := IntWalk.i64_in _ (by omega)
        have htn := Lib.hid ht
        have ht1 : decide (t = 1000000) = false := decide_eq_false ht
        have ht2 : (t == 1000000) = false := by simp [ht]
        clear ok f1 f2' c1 c2 s1 u1 u2 o1 o2 o3 h16 c4 hs hfl ha hu hf2 hf0 hy0 hcw ht hq
        generalize S64.word false (wideR a) = WV at hw KFl
        generalize wIk 1074 (flo a) = FV at KFl g6
        generalize fN (flo a) = fv at g3 g4 g6
        generalize fN (m + flo a) = sv at g4 KT
        go_enter Try.func10, Try.ntmps10
        go_wp2_with (((with_reducible refine is_load 33 _ rfl ?_); refine wpList_load_at rfl 33 _ rfl _ rfl ((dt (k : Int) y (m : Int) f t)) _ (by with_reducible assumption) 5 (dt_size _ _ _ _ _) _ Try.underlying33 rfl (by kernel_rfl) ?_))
        refine (KD _).mono ?_
        rintro e w1 ⟨rfl, hb1⟩
        have D1 := D0.step hb1
        have Q1 := Q0.step hb1
        have R1 := R0.step hb1
        have B1 := Lib.hid (bthen B0.out hb1)
        clear D0 Q0 R0 B0 hb1
        go_wp2_with (((with_reducible refine is_load 28 _ rfl ?_); refine wpList_load_g rfl 28 _ rfl _ rfl (rd cs p b l) _ (by with_reducible assumption) 19 (rd_size hl p b l) _ Try.underlying28 rfl (by kernel_rfl) ?_))
        refine (KR _).mono ?_
        rintro e w2 ⟨rfl, hb2⟩
        have D2 := D1.step hb2
        have Q2 := Q1.step hb2
        have R2 := R1.step hb2
        have B2 := Lib.hid (bthen B1.out hb2)
        clear D1 Q1 R1 B1 hb2
        clear KR KD
        have d24 := D2.cell (dt_4 _ _ _ _ _)
        go_wp2_with fail
        clear d24
        have hC := Cb.const w2
        refine wp_region_cb (by kernel_rfl) (by kernel_rfl) ?_
        repeat (first
          | go_big_quiet_skip
          | (go_big_quiet_want; first
            | (refine q_cell 24 _ rfl _ Try.underlying24 _ rfl D2 _ (dt_1 _ _ _ _ _) ?_; go_simp; go_big_quiet_on)
            | (refine q_cell 24 _ rfl _ Try.underlying24 _ rfl Q2 _ (rd_lanes hl p b l) ?_; go_simp; go_big_quiet_on)
            | (refine q_row 28 _ rfl rfl Q2 19 (rd_size hl p b l) _ Try.underlying28 rfl (by kernel_rfl) ?_; go_simp; go_big_quiet_on)
            | (refine q_oneD 2 _ rfl _ Try.underlying2 rfl 0 rfl D2 _ (dt_0 _ _ _ _ _) ?_; go_simp; go_big_quiet_on)
            | (go_big_quiet_op; go_big_quiet_on)
            | (go_big_quiet_op; apply Exists.intro; refine ⟨fun w' hw' => ?_, ?_⟩; (go_at_call 26; exact (KF _).mono fun _ _ h => ⟨h.1, hw'.step h.2⟩); go_big_quiet_on)))
        refine wpQuiet_nil ?_
        intro w3 hw3
        have D3 := D2.step hw3
        have Q3 := Q2.step hw3
        have R3 := R2.step hw3
        have B3 := Lib.hid (bthen B2.out hw3)
        clear D2 Q2 R2 B2 hw3
        clear hC KF
        go_wp2_with (simp only [hw])
        refine (KFl _).mono ?_
        rintro e w4 ⟨rfl, n4, rfl⟩
        have hb4 : Below w3.heap.size w3 (w3.drewN n4) := bdrew (Below.refl _ _) n4
        have D4 := D3.step hb4
        have Q4 := Q3.step hb4
        have R4 := R3.step hb4
        have B4 := Lib.hid (bthen B3.out hb4)
        clear D3 Q3 R3 B3 hb4
        clear KFl hw
        generalize w3.drewN n4 = w4 at D4 Q4 R4 B4 ⊢
        have D5 := D4.setRow (dt (k : Int) (car a) (m : Int) f t)
        have Q5 := Q4.setRow_other (k := w.heap.size) (by omega) (dt (k : Int) (car a) (m : Int) f t)
        have R5 := R4.setRow_other (k := w.heap.size) (by omega) (dt (k : Int) (car a) (m : Int) f t)
        have B5 := Lib.hid (bset B4.out (g := w.heap.size) (Nat.le_refl _) (dt (k : Int) (car a) (m : Int) f t))
        have d52 := D5.cell (dt_2 _ _ _ _ _)
        go_wp2_with (first | simp only [g6] | ((with_reducible refine is_store 24 _ _ rfl ?_); refine wpList_store_cell rfl 24 _ _ rfl _ 1 rfl (.float .f32 (car a)) rfl (dt (k : Int) y (m : Int) f t) _ (by with_reducible assumption) (by rw [dt_size]; omega) (by kernel_rfl) rfl (dt (k : Int) (car a) (m : Int) f t) (dt_s1 _ _ _ _ _ _) ?_))
        refine (KT _).mono ?_
        rintro e w6 ⟨rfl, hb6⟩
        clear d52 D4 Q4 R4 B4
        have D6 := D5.step hb6
        have Q6 := Q5.step hb6
        have R6 := R5.step hb6
        have B6 := Lib.hid (bthen B5.out hb6)
        clear D5 Q5 R5 B5 hb6
        clear KT g3 g4 g6
        have D7 := D6.setRow (dt (k : Int) (car a) (u : Int) f t)
        have Q7 := Q6.setRow_other (k := w.heap.size) (by omega) (dt (k : Int) (car a) (u : Int) f t)
        have R7 := R6.setRow_other (k := w.heap.size) (by omega) (dt (k : Int) (car a) (u : Int) f t)
        have B7 := Lib.hid (bset B6.out (g := w.heap.size) (Nat.le_refl _) (dt (k : Int) (car a) (u : Int) f t))
        go_wp2_with (((with_reducible refine is_store 31 _ _ rfl ?_); refine wpList_store_cell rfl 31 _ _ rfl _ 2 rfl (.int .i16 (u : Int)) rfl (dt (k : Int) (car a) (m : Int) f t) _ (by with_reducible assumption) (by rw [dt_size]; omega) (by kernel_rfl) rfl (dt (k : Int) (car a) (u : Int) f t) (dt_s2 _ _ _ _ _ _) ?_))
        generalize World.setRow _ _ _ = w7 at D7 Q7 R7 B7 ⊢
        clear D6 Q6 R6 B6
        go_simp
        have hcell : (rd cs p b l)[k]? = some (.float .f32 (nth cs k)) := rd_cell hl p b l hk16
        have hC := Cb.const w7
        refine wp_region_cb_tail 9 (by kernel_rfl) (by kernel_rfl) ?_
        simp only [List.take]
        repeat (first
          | go_big_quiet_skip
          | (go_big_quiet_want; first
            | (refine q_cell 24 _ rfl _ Try.underlying24 _ rfl D7 _ (dt_3 _ _ _ _ _) ?_; go_simp; go_big_quiet_on)
            | (refine q_cell 24 _ rfl _ Try.underlying24 _ rfl Q7 _ (rd_cell hl p b l hk16) ?_; go_simp; go_big_quiet_on)
            | (refine q_oneD 2 _ rfl _ Try.underlying2 rfl 0 rfl D7 _ (dt_0 _ _ _ _ _) ?_; go_simp; go_big_quiet_on)
            | (go_big_quiet_op; go_big_quiet_on)))
        refine wpQuiet_nil ?_
        intro w8 hw8
        have D8 := D7.step hw8
        have Q8 := Q7.step hw8
        have R8 := R7.step hw8
        have B8 := Lib.hid (bthen B7.out hw8)
        clear D7 Q7 R7 B7 hw8
        clear hC
        simp only [List.drop]
        have D9 := D8.setRow (dt (k : Int) (car a) (u : Int) f2 t)
        have Q9 := Q8.setRow_other (k := w.heap.size) (by omega) (dt (k : Int) (car a) (u : Int) f2 t)
        have R9 := R8.setRow_other (k := w.heap.size) (by omega) (dt (k : Int) (car a) (u : Int) f2 t)
        have B9 := Lib.hid (bset B8.out (g := w.heap.size) (Nat.le_refl _) (dt (k : Int) (car a) (u : Int) f2 t))
        have d94 := D9.cell (dt_4 _ _ _ _ _)
        have D10 := D9.setRow (dt (k : Int) (car a) (u : Int) f2 (t + 1))
        have Q10 := Q9.setRow_other (k := w.heap.size) (by omega) (dt (k : Int) (car a) (u : Int) f2 (t + 1))
        have R10 := R9.setRow_other (k := w.heap.size) (by omega) (dt (k : Int) (car a) (u : Int) f2 (t + 1))
        have B10 := Lib.hid (bset B9.out (g := w.heap.size) (Nat.le_refl _) (dt (k : Int) (car a) (u : Int) f2 (t + 1)))
        have R11 := R10.setRow (dt (k : Int) (car a) (u : Int) f2 (t + 1))
        have R9' := R11
        have B11 := Lib.hid (bset B10.out (g := w.heap.size + 1 + 1) (by omega) (dt (k : Int) (car a) (u : Int) f2 (t + 1)))
        clear g5
        go_wp2_with (first | ((with_reducible refine is_store 24 _ _ rfl ?_); refine wpList_store_cell rfl 24 _ _ rfl _ 3 rfl (.float .f32 f2) rfl (dt (k : Int) (car a) (u : Int) f t) _ (by with_reducible assumption) (by rw [dt_size]; omega) (by kernel_rfl) rfl (dt (k : Int) (car a) (u : Int) f2 t) (dt_s3 _ _ _ _ _ _) ?_) | ((with_reducible refine is_store 2 _ _ rfl ?_); refine wpList_store_cell rfl 2 _ _ rfl _ 4 rfl (.int .i64 (t + 1)) rfl (dt (k : Int) (car a) (u : Int) f2 t) _ (by with_reducible assumption) (by rw [dt_size]; omega) (by kernel_rfl) rfl (dt (k : Int) (car a) (u : Int) f2 (t + 1)) (dt_s4 _ _ _ _ _ _) ?_) | ((with_reducible refine is_load 33 _ rfl ?_); refine wpList_load_at rfl 33 _ rfl _ rfl ((dt (k : Int) (car a) (u : Int) f2 (t + 1))) _ (by with_reducible assumption) 5 (dt_size _ _ _ _ _) _ Try.underlying33 rfl (by kernel_rfl) ?_) | ((with_reducible refine is_store 33 _ _ rfl ?_); refine wpList_store_at rfl 33 _ _ rfl _ rfl ((dt (k : Int) (car a) (u : Int) f2 (t + 1))) rfl (#[.int .i64 0, .float .f32 0, .int .i16 0, .float .f32 0, .int .i64 0]) _ (by with_reducible assumption) 5 (dt_size _ _ _ _ _) (rfl) (by kernel_rfl) (dt_one _ _ _ _ _) ?_))
        exact bodyPost_ret (v := .tuple #[.agg (dt (k : Int) (car a) (u : Int) f2 (t + 1)), .int .i64 0]) (results_at_tmp (p := 4) (ty := 33) rfl _ _ _ (dt (k : Int) (car a) (u : Int) f2 (t + 1)) _ (.int .i64 0) rfl rfl R11 _ Try.underlying33 rfl 5 (dt_size _ _ _ _ _) (by kernel_rfl)) rfl ⟨by rw [hv.out], B11.out⟩

end Go.Proofs.Ytcfoghckdloknaa
