/-
  CONTRACTS: what is read off, as the model has it.
-/
import Derived.Test.YtcfoghckdloknaaReadL
namespace Go.Proofs.Ytcfoghckdloknaa
open Go Go.ChangeShapes Go.WideShapes Go.ChangeAt Go.RowKit
set_option maxRecDepth 100000

set_option maxHeartbeats 2000000 in
theorem sReadOff_any (c : Int) (y : Nat) (n : Int) (f : Nat) (t : Int) (hy : y < 4294967296) (hf : f < 4294967296) (u : Int) (w : World) :
    Calls Try.prog 15 #[.agg (dt c y n f t), .int .i64 u] w fun e w' => e = .returned (.tuple #[.agg (t1 (vRead c y n f t u).1 (vRead c y n f t u).2.1 (vRead c y n f t u).2.2.1), .agg (dt (vRead c y n f t u).2.2.2.1 (vRead c y n f t u).2.2.2.2.1 0 0 0), .int .i64 (vRead c y n f t u).2.2.2.2.2]) ∧ Below w.heap.size w w' := by
  have P0 : At (((w.alloc (.cells (dt c y n f t) 33)).alloc (.cells #[.int .i64 0, .int .i16 0, .int .i16 0] 42)).alloc (.cells #[.int .i64 0, .float .f32 0, .int .i16 0, .float .f32 0, .int .i64 0] 33)) w.heap.size (dt c y n f t) 33 := ((At.new w _ _).alloc _).alloc _
  have R0 : At (((w.alloc (.cells (dt c y n f t) 33)).alloc (.cells #[.int .i64 0, .int .i16 0, .int .i16 0] 42)).alloc (.cells #[.int .i64 0, .float .f32 0, .int .i16 0, .float .f32 0, .int .i64 0] 33)) (w.heap.size + 1) #[.int .i64 0, .int .i16 0, .int .i16 0] 42 := (At.last1 w _ _ _).alloc _
  have Q0 : At (((w.alloc (.cells (dt c y n f t) 33)).alloc (.cells #[.int .i64 0, .int .i16 0, .int .i16 0] 42)).alloc (.cells #[.int .i64 0, .float .f32 0, .int .i16 0, .float .f32 0, .int .i64 0] 33)) (w.heap.size + 1 + 1) #[.int .i64 0, .float .f32 0, .int .i16 0, .float .f32 0, .int .i64 0] 33 := by
    have := At.new ((w.alloc (.cells (dt c y n f t) 33)).alloc (.cells #[.int .i64 0, .int .i16 0, .int .i16 0] 42)) #[.int .i64 0, .float .f32 0, .int .i16 0, .float .f32 0, .int .i64 0] 33
    rwa [World.size_alloc, World.size_alloc] at this
  have B0 := Lib.hid (bnew (bnew (b0 w (.cells (dt c y n f t) 33)) (.cells #[.int .i64 0, .int .i16 0, .int .i16 0] 42)) (.cells #[.int .i64 0, .float .f32 0, .int .i16 0, .float .f32 0, .int .i64 0] 33))
  have KV := l05Ok_any c y n f t hy hf w.heap.size 33
  have KT := l05Turn_b u
  cases h : okD c y n f t
  · rw [vRead_1 h]
    rw [h] at KV
    go_enter Try.func15, Try.ntmps15
    go_wp2_with (fail)
    refine ((KV _ P0)).mono ?_
    rintro e w1 ⟨rfl, hb1⟩
    have P1 := P0.step hb1
    have R1 := R0.step hb1
    have Q1 := Q0.step hb1
    have B1 := Lib.hid (bthen B0.out hb1)
    clear P0 R0 Q0 B0 hb1
    have R9 := (R1.setRow (t1 0 0 0)).setRow_other (k := w.heap.size + 1 + 1) (by omega) (dt 0 0 0 0 0)
    have Q9 := (Q1.setRow_other (k := w.heap.size + 1) (by omega) (t1 0 0 0)).setRow (dt 0 0 0 0 0)
    have Q8 := Q1.setRow_other (k := w.heap.size + 1) (by omega) (t1 0 0 0)
    have B9 := Lib.hid (bset (bset B1.out (g := w.heap.size + 1) (by omega) (t1 0 0 0)) (g := w.heap.size + 1 + 1) (by omega) (dt 0 0 0 0 0))
    go_wp2_with (first | ((with_reducible refine is_store 42 _ _ rfl ?_); refine wpList_store_at rfl 42 _ _ rfl _ rfl ((t1 0 0 0)) rfl (#[.int .i64 0, .int .i16 0, .int .i16 0]) _ (by with_reducible assumption) 3 (t1_size _ _ _) (rfl) (by kernel_rfl) (t1_one _ _ _) ?_) | ((with_reducible refine is_store 33 _ _ rfl ?_); refine wpList_store_at rfl 33 _ _ rfl _ rfl ((dt 0 0 0 0 0)) rfl (#[.int .i64 0, .float .f32 0, .int .i16 0, .float .f32 0, .int .i64 0]) _ (by with_reducible assumption) 5 (dt_size _ _ _ _ _) (rfl) (by kernel_rfl) (dt_one _ _ _ _ _) ?_))
    exact bodyPost_ret (v := .tuple #[.agg (t1 0 0 0), .agg (dt 0 0 0 0 0), .int .i64 1]) (results_two (p := 4) (q := 5) (u := 6) (ty1 := 42) (ty2 := 33) rfl _ _ _ (t1 0 0 0) _ _ (dt 0 0 0 0 0) _ (.int .i64 1) rfl rfl rfl R9 Q9 _ Try.underlying42 rfl 3 (t1_size _ _ _) (by kernel_rfl) _ Try.underlying33 rfl 5 (dt_size _ _ _ _ _) (by kernel_rfl)) rfl ⟨rfl, B9.out⟩
  · rw [h] at KV
    cases h2 : inB 0 65535 u
    · rw [vRead_2 h h2]
      rw [h2] at KT
      go_enter Try.func15, Try.ntmps15
      go_wp2_with (fail)
      refine ((KV _ P0)).mono ?_
      rintro e w1 ⟨rfl, hb1⟩
      have P1 := P0.step hb1
      have R1 := R0.step hb1
      have Q1 := Q0.step hb1
      have B1 := Lib.hid (bthen B0.out hb1)
      clear P0 R0 Q0 B0 hb1
      go_wp2_with fail
      refine (KT _).mono ?_
      rintro e w2 ⟨rfl, n2, rfl⟩
      have hb2 := bdrew (Below.refl w1.heap.size w1) n2
      generalize World.drewN _ n2 = w2 at hb2 ⊢
      have P2 := P1.step hb2
      have R2 := R1.step hb2
      have Q2 := Q1.step hb2
      have B2 := Lib.hid (bthen B1.out hb2)
      clear P1 R1 Q1 B1 hb2
      have R9 := (R2.setRow (t1 0 0 0)).setRow_other (k := w.heap.size + 1 + 1) (by omega) (dt 0 0 0 0 0)
      have Q9 := (Q2.setRow_other (k := w.heap.size + 1) (by omega) (t1 0 0 0)).setRow (dt 0 0 0 0 0)
      have Q8 := Q2.setRow_other (k := w.heap.size + 1) (by omega) (t1 0 0 0)
      have B9 := Lib.hid (bset (bset B2.out (g := w.heap.size + 1) (by omega) (t1 0 0 0)) (g := w.heap.size + 1 + 1) (by omega) (dt 0 0 0 0 0))
      go_wp2_with (first | ((with_reducible refine is_store 42 _ _ rfl ?_); refine wpList_store_at rfl 42 _ _ rfl _ rfl ((t1 0 0 0)) rfl (#[.int .i64 0, .int .i16 0, .int .i16 0]) _ (by with_reducible assumption) 3 (t1_size _ _ _) (rfl) (by kernel_rfl) (t1_one _ _ _) ?_) | ((with_reducible refine is_store 33 _ _ rfl ?_); refine wpList_store_at rfl 33 _ _ rfl _ rfl ((dt 0 0 0 0 0)) rfl (#[.int .i64 0, .float .f32 0, .int .i16 0, .float .f32 0, .int .i64 0]) _ (by with_reducible assumption) 5 (dt_size _ _ _ _ _) (rfl) (by kernel_rfl) (dt_one _ _ _ _ _) ?_))
      exact bodyPost_ret (v := .tuple #[.agg (t1 0 0 0), .agg (dt 0 0 0 0 0), .int .i64 2]) (results_two (p := 4) (q := 5) (u := 6) (ty1 := 42) (ty2 := 33) rfl _ _ _ (t1 0 0 0) _ _ (dt 0 0 0 0 0) _ (.int .i64 2) rfl rfl rfl R9 Q9 _ Try.underlying42 rfl 3 (t1_size _ _ _) (by kernel_rfl) _ Try.underlying33 rfl 5 (dt_size _ _ _ _ _) (by kernel_rfl)) rfl ⟨rfl, B9.out⟩
    · rw [vRead_0 h h2]
      rw [h2] at KT
      obtain ⟨-, -, -, hfa, hta⟩ := okD_of h
      clear h h2
      by_cases z : t = 0
      · rw [show fullD f t = 0 from by rw [z]; rfl]
        have z1 : ¬ 0 < t := by omega
        clear hfa hta z
        go_enter Try.func15, Try.ntmps15
        go_wp2_with (fail)
        refine ((KV _ P0)).mono ?_
        rintro e w1 ⟨rfl, hb1⟩
        have P1 := P0.step hb1
        have R1 := R0.step hb1
        have Q1 := Q0.step hb1
        have B1 := Lib.hid (bthen B0.out hb1)
        clear P0 R0 Q0 B0 hb1
        go_wp2_with fail
        refine (KT _).mono ?_
        rintro e w2 ⟨rfl, n2, rfl⟩
        have hb2 := bdrew (Below.refl w1.heap.size w1) n2
        generalize World.drewN _ n2 = w2 at hb2 ⊢
        have P2 := P1.step hb2
        have R2 := R1.step hb2
        have Q2 := Q1.step hb2
        have B2 := Lib.hid (bthen B1.out hb2)
        clear P1 R1 Q1 B1 hb2
        have c2 := P2.cell (dt_2 _ _ _ _ _)
        have c4 := P2.cell (dt_4 _ _ _ _ _)
        have X0 := At.new w2 #[.int .i64 0, .int .i16 0, .int .i16 0] 42
        have X3 := X0.setRow (t1 u n 0)
        have hb3 : Below w2.heap.size w2 ((w2.alloc (.cells #[.int .i64 0, .int .i16 0, .int .i16 0] 42)).setRow w2.heap.size (t1 u n 0)) := bset (b0 w2 (.cells #[.int .i64 0, .int .i16 0, .int .i16 0] 42)) (g := w2.heap.size) (Nat.le_refl _) (t1 u n 0)
        have hlt2 := Q2.lt
        have P3' := (P2.alloc (.cells #[.int .i64 0, .int .i16 0, .int .i16 0] 42)).setRow_other (k := w2.heap.size) (Nat.ne_of_lt P2.lt) (t1 u n 0)
        have c4' := P3'.cell (dt_4 _ _ _ _ _)
        go_wp2_with (((with_reducible refine is_store 42 _ _ rfl ?_); refine wpList_store_at rfl 42 _ _ rfl _ rfl ((t1 u n 0)) rfl (#[.int .i64 0, .int .i16 0, .int .i16 0]) _ (by with_reducible assumption) 3 (t1_size _ _ _) (rfl) (by kernel_rfl) (t1_one _ _ _) ?_))
        clear X0 c2 c4 c4' P3'
        generalize hw3 : (w2.alloc (.cells #[.int .i64 0, .int .i16 0, .int .i16 0] 42)).setRow w2.heap.size (t1 u n 0) = w3 at X3 hb3 ⊢
        clear hw3
        obtain ⟨g7, hg7⟩ : ∃ g7, g7 = w2.heap.size := ⟨_, rfl⟩
        rw [← hg7] at X3 hlt2 ⊢
        have P3 := P2.step hb3
        have R3 := R2.step hb3
        have Q3 := Q2.step hb3
        have B3 := Lib.hid (bthen B2.out hb3)
        clear P2 R2 Q2 B2 hb3
        have hg : g7 ≠ w.heap.size + 1 := by omega
        clear hg7
        refine wp_region_late (n := 7) (ist := 6) (d := 4) (s := 33) (T := 42) (gR := w.heap.size + 1) (OV := #[.int .i64 0, .int .i16 0, .int .i16 0]) (RV := (t1 u n 0)) (by kernel_rfl) (by kernel_rfl) (by kernel_rfl) ⟨rfl, rfl, by decide, by kernel_rfl, by kernel_rfl, by kernel_rfl, by kernel_rfl⟩ rfl R3 (fun ev w' h1 h2 h3 => store_fresh rfl 3 (t1_size _ _ _) rfl (by kernel_rfl) (t1_one _ _ _) ev w' _ h1 h2 h3) ?_
        intro C hC0
        have P9 : ∀ w', C w' → At w' w.heap.size (dt c y n f t) 33 := fun w' h => (hC0.sub w' h).at P3 (by omega)
        have X9 : ∀ w', C w' → At w' g7 (t1 u n 0) 42 := fun w' h => (hC0.sub w' h).at X3 hg
        have hC := hC0.const
        simp (config := { decide := true }) only [cutOut, nop, List.mapIdx_cons, List.mapIdx_nil, if_true, if_false, List.take, List.drop]
        repeat (first
          | go_big_quiet_skip
          | (go_big_quiet_want; first
            | (refine q_load 2 _ rfl ⟨w.heap.size, 0, none⟩ rfl (.int .i64 c) (fun w' h' => run_load_i w' 2 .i64 Try.underlying2 _ _ ((P9 w' h').cell (dt_0 _ _ _ _ _))) ?_; go_simp; go_big_quiet_on)
            | (refine q_load 24 _ rfl ⟨w.heap.size, 1, none⟩ rfl (.float .f32 y) (fun w' h' => run_load_cell w' 24 .f32 Try.underlying24 _ _ ((P9 w' h').cell (dt_1 _ _ _ _ _))) ?_; go_simp; go_big_quiet_on)
            | (refine q_rowC 42 _ rfl rfl X9 3 (t1_size _ _ _) _ Try.underlying42 rfl (by kernel_rfl) ?_; go_simp; go_big_quiet_on)
            | (go_big_quiet_op; go_big_quiet_on)))
        refine wpQuiet_nil ?_
        refine ⟨rfl, fun w9 hw9 R9 => ?_⟩
        have Q9 := hw9.at Q3 (by omega)
        have B9 := Lib.hid (B3.out.trans (hw9.below (B := w.heap.size) (by omega) R3.lt))
        have R10 := R9.setRow_other (k := w.heap.size + 1 + 1) (by omega) (dt c y 0 0 0)
        have Q10 := Q9.setRow (dt c y 0 0 0)
        have B10 := Lib.hid (bset B9.out (g := w.heap.size + 1 + 1) (by omega) (dt c y 0 0 0))
        clear hC P9 hC0 hw9 P3 R3 Q3 B3 X9 X3
        go_wp2_with (((with_reducible refine is_store 33 _ _ rfl ?_); refine wpList_store_at rfl 33 _ _ rfl _ rfl ((dt c y 0 0 0)) rfl (#[.int .i64 0, .float .f32 0, .int .i16 0, .float .f32 0, .int .i64 0]) _ (by with_reducible assumption) 5 (dt_size _ _ _ _ _) (rfl) (by kernel_rfl) (dt_one _ _ _ _ _) ?_))
        exact bodyPost_ret (v := .tuple #[.agg (t1 u n 0), .agg (dt c y 0 0 0), .int .i64 0]) (results_two (p := 4) (q := 5) (u := 6) (ty1 := 42) (ty2 := 33) rfl _ _ _ (t1 u n 0) _ _ (dt c y 0 0 0) _ (.int .i64 0) rfl rfl rfl R10 Q10 _ Try.underlying42 rfl 3 (t1_size _ _ _) (by kernel_rfl) _ Try.underlying33 rfl 5 (dt_size _ _ _ _ _) (by kernel_rfl)) rfl ⟨rfl, B10.out⟩
      · obtain ⟨s, hs⟩ : ∃ s : Nat, t = (s : Int) := ⟨t.toNat, by omega⟩
        obtain ⟨h1, h2, h3, h4⟩ := full_num (f := f) (t := s) hfa (by omega) (by omega)
        rw [show fullD f t = cntB (mulB 1148846080 (divB f (fN s))) from by rw [hs]; exact h4]
        have z1 : 0 < t := by omega
        have f1 : floatOfInt .f32 t = fN s := by rw [hs]; exact floatOfInt_nat s
        clear z hs
        have hq := fun t w => run_float_arith (P := Try.prog) w .quo t .f32 _ _ _ h1
        have hm := fun t w => run_float_arith (P := Try.prog) w .mul t .f32 _ _ _ h2
        have KC := l05Count_any _ h3
        clear h1 h2 h3 h4 hfa hta
        generalize fN s = SS at *
        generalize divB f SS = QQ at *
        generalize mulB 1148846080 QQ = V at *
        generalize cntB V = qv at *
        go_enter Try.func15, Try.ntmps15
        go_wp2_with (fail)
        refine ((KV _ P0)).mono ?_
        rintro e w1 ⟨rfl, hb1⟩
        have P1 := P0.step hb1
        have R1 := R0.step hb1
        have Q1 := Q0.step hb1
        have B1 := Lib.hid (bthen B0.out hb1)
        clear P0 R0 Q0 B0 hb1
        go_wp2_with fail
        refine (KT _).mono ?_
        rintro e w2 ⟨rfl, n2, rfl⟩
        have hb2 := bdrew (Below.refl w1.heap.size w1) n2
        generalize World.drewN _ n2 = w2 at hb2 ⊢
        have P2 := P1.step hb2
        have R2 := R1.step hb2
        have Q2 := Q1.step hb2
        have B2 := Lib.hid (bthen B1.out hb2)
        clear P1 R1 Q1 B1 hb2
        have c2 := P2.cell (dt_2 _ _ _ _ _)
        have c4 := P2.cell (dt_4 _ _ _ _ _)
        have X0 := At.new w2 #[.int .i64 0, .int .i16 0, .int .i16 0] 42
        have X3 := X0.setRow (t1 u n 0)
        have hb3 : Below w2.heap.size w2 ((w2.alloc (.cells #[.int .i64 0, .int .i16 0, .int .i16 0] 42)).setRow w2.heap.size (t1 u n 0)) := bset (b0 w2 (.cells #[.int .i64 0, .int .i16 0, .int .i16 0] 42)) (g := w2.heap.size) (Nat.le_refl _) (t1 u n 0)
        have hlt2 := Q2.lt
        have P3' := (P2.alloc (.cells #[.int .i64 0, .int .i16 0, .int .i16 0] 42)).setRow_other (k := w2.heap.size) (Nat.ne_of_lt P2.lt) (t1 u n 0)
        have c3' := P3'.cell (dt_3 _ _ _ _ _)
        have c4' := P3'.cell (dt_4 _ _ _ _ _)
        go_wp2_with (first | ((with_reducible refine is_store 42 _ _ rfl ?_); refine wpList_store_at rfl 42 _ _ rfl _ rfl ((t1 u n 0)) rfl (#[.int .i64 0, .int .i16 0, .int .i16 0]) _ (by with_reducible assumption) 3 (t1_size _ _ _) (rfl) (by kernel_rfl) (t1_one _ _ _) ?_) | (simp only [hq, hm]))
        clear X0 c2 c4 c3' c4' P3'
        generalize hw3 : (w2.alloc (.cells #[.int .i64 0, .int .i16 0, .int .i16 0] 42)).setRow w2.heap.size (t1 u n 0) = w3 at X3 hb3 ⊢
        clear hw3
        obtain ⟨g7, hg7⟩ : ∃ g7, g7 = w2.heap.size := ⟨_, rfl⟩
        rw [← hg7] at X3 hlt2 ⊢
        have P3 := P2.step hb3
        have R3 := R2.step hb3
        have Q3 := Q2.step hb3
        have B3 := Lib.hid (bthen B2.out hb3)
        clear P2 R2 Q2 B2 hb3
        have hg : g7 ≠ w.heap.size + 1 := by omega
        have hg8 : g7 ≠ w.heap.size + 1 + 1 := by omega
        have hg9 : g7 ≠ w.heap.size := by omega
        have hg0 : w.heap.size ≤ g7 := by omega
        clear hg7
        refine (KC _).mono ?_
        rintro e w4 ⟨rfl, n4, rfl⟩
        have hb4 := bdrew (Below.refl w3.heap.size w3) n4
        generalize World.drewN _ n4 = w4 at hb4 ⊢
        have X4 := X3.step hb4
        have P4 := P3.step hb4
        have R4 := R3.step hb4
        have Q4 := Q3.step hb4
        have B4 := Lib.hid (bthen B3.out hb4)
        clear P3 R3 Q3 B3 hb4
        have X5 := X4.setRow (t1 u n qv)
        have P5 := P4.setRow_other (k := g7) (fun e => hg9 e.symm) (t1 u n qv)
        have R5 := R4.setRow_other (k := g7) (fun e => hg e.symm) (t1 u n qv)
        have Q5 := Q4.setRow_other (k := g7) (fun e => hg8 e.symm) (t1 u n qv)
        have B5 := Lib.hid (bset B4.out (g := g7) hg0 (t1 u n qv))
        go_wp2_with (((with_reducible refine is_store 31 _ _ rfl ?_); refine wpList_store_cell rfl 31 _ _ rfl _ 2 rfl (.int .i16 qv) rfl ((t1 u n 0)) _ (by with_reducible assumption) (by rw [t1_size]; omega) (by kernel_rfl) rfl ((t1 u n qv)) (t1_s2 _ _ _ _) ?_))
        generalize w4.setRow g7 (t1 u n qv) = w5 at X5 P5 R5 Q5 B5 ⊢
        clear X3 X4 P4 R4 Q4 B4
        go_simp
        refine wp_region_late (n := 7) (ist := 6) (d := 4) (s := 33) (T := 42) (gR := w.heap.size + 1) (OV := #[.int .i64 0, .int .i16 0, .int .i16 0]) (RV := (t1 u n qv)) (by kernel_rfl) (by kernel_rfl) (by kernel_rfl) ⟨rfl, rfl, by decide, by kernel_rfl, by kernel_rfl, by kernel_rfl, by kernel_rfl⟩ rfl R5 (fun ev w' h1 h2 h3 => store_fresh rfl 3 (t1_size _ _ _) rfl (by kernel_rfl) (t1_one _ _ _) ev w' _ h1 h2 h3) ?_
        intro C hC0
        have P9 : ∀ w', C w' → At w' w.heap.size (dt c y n f t) 33 := fun w' h => (hC0.sub w' h).at P5 (by omega)
        have X9 : ∀ w', C w' → At w' g7 (t1 u n qv) 42 := fun w' h => (hC0.sub w' h).at X5 hg
        have hC := hC0.const
        simp (config := { decide := true }) only [cutOut, nop, List.mapIdx_cons, List.mapIdx_nil, if_true, if_false, List.take, List.drop]
        repeat (first
          | go_big_quiet_skip
          | (go_big_quiet_want; first
            | (refine q_load 2 _ rfl ⟨w.heap.size, 0, none⟩ rfl (.int .i64 c) (fun w' h' => run_load_i w' 2 .i64 Try.underlying2 _ _ ((P9 w' h').cell (dt_0 _ _ _ _ _))) ?_; go_simp; go_big_quiet_on)
            | (refine q_load 24 _ rfl ⟨w.heap.size, 1, none⟩ rfl (.float .f32 y) (fun w' h' => run_load_cell w' 24 .f32 Try.underlying24 _ _ ((P9 w' h').cell (dt_1 _ _ _ _ _))) ?_; go_simp; go_big_quiet_on)
            | (refine q_rowC 42 _ rfl rfl X9 3 (t1_size _ _ _) _ Try.underlying42 rfl (by kernel_rfl) ?_; go_simp; go_big_quiet_on)
            | (go_big_quiet_op; go_big_quiet_on)))
        refine wpQuiet_nil ?_
        refine ⟨rfl, fun w9 hw9 R9 => ?_⟩
        have Q9 := hw9.at Q5 (by omega)
        have B9 := Lib.hid (B5.out.trans (hw9.below (B := w.heap.size) (by omega) R5.lt))
        have R10 := R9.setRow_other (k := w.heap.size + 1 + 1) (by omega) (dt c y 0 0 0)
        have Q10 := Q9.setRow (dt c y 0 0 0)
        have B10 := Lib.hid (bset B9.out (g := w.heap.size + 1 + 1) (by omega) (dt c y 0 0 0))
        clear hC P9 hC0 hw9 P5 R5 Q5 B5 X9 X5
        go_wp2_with (((with_reducible refine is_store 33 _ _ rfl ?_); refine wpList_store_at rfl 33 _ _ rfl _ rfl ((dt c y 0 0 0)) rfl (#[.int .i64 0, .float .f32 0, .int .i16 0, .float .f32 0, .int .i64 0]) _ (by with_reducible assumption) 5 (dt_size _ _ _ _ _) (rfl) (by kernel_rfl) (dt_one _ _ _ _ _) ?_))
        exact bodyPost_ret (v := .tuple #[.agg (t1 u n qv), .agg (dt c y 0 0 0), .int .i64 0]) (results_two (p := 4) (q := 5) (u := 6) (ty1 := 42) (ty2 := 33) rfl _ _ _ (t1 u n qv) _ _ (dt c y 0 0 0) _ (.int .i64 0) rfl rfl rfl R10 Q10 _ Try.underlying42 rfl 3 (t1_size _ _ _) (by kernel_rfl) _ Try.underlying33 rfl 5 (dt_size _ _ _ _ _) (by kernel_rfl)) rfl ⟨rfl, B10.out⟩

end Go.Proofs.Ytcfoghckdloknaa
