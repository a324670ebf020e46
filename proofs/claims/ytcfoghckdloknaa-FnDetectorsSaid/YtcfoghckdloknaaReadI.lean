/-
  CONTRACTS: what is read off, as the program has it.
-/
import Derived.Test.YtcfoghckdloknaaReadL
namespace Go.Proofs.Ytcfoghckdloknaa
open Go Go.ChangeShapes Go.WideShapes Go.ChangeAt Go.RowKit
set_option maxRecDepth 100000

set_option maxHeartbeats 2000000 in
theorem ReadOff_any (c : Int) (y : Nat) (n : Int) (f : Nat) (t : Int) (hy : y < 4294967296) (hf : f < 4294967296) (u : Int) (w : World) :
    Calls Try.prog 14 #[.agg (dt c y n f t), .int .i64 u] w fun e w' => e = .returned (.tuple #[.agg (t1 (vRead c y n f t u).1 (vRead c y n f t u).2.1 (vRead c y n f t u).2.2.1), .agg (dt (vRead c y n f t u).2.2.2.1 (vRead c y n f t u).2.2.2.2.1 0 0 0), .int .i64 (vRead c y n f t u).2.2.2.2.2]) ∧ Below w.heap.size w w' := by
  have P0 : At (((w.alloc (.cells (dt c y n f t) 33)).alloc (.cells #[.int .i64 0, .int .i16 0, .int .i16 0] 42)).alloc (.cells #[.int .i64 0, .float .f32 0, .int .i16 0, .float .f32 0, .int .i64 0] 33)) w.heap.size (dt c y n f t) 33 := ((At.new w _ _).alloc _).alloc _
  have R0 : At (((w.alloc (.cells (dt c y n f t) 33)).alloc (.cells #[.int .i64 0, .int .i16 0, .int .i16 0] 42)).alloc (.cells #[.int .i64 0, .float .f32 0, .int .i16 0, .float .f32 0, .int .i64 0] 33)) (w.heap.size + 1) #[.int .i64 0, .int .i16 0, .int .i16 0] 42 := (At.last1 w _ _ _).alloc _
  have Q0 : At (((w.alloc (.cells (dt c y n f t) 33)).alloc (.cells #[.int .i64 0, .int .i16 0, .int .i16 0] 42)).alloc (.cells #[.int .i64 0, .float .f32 0, .int .i16 0, .float .f32 0, .int .i64 0] 33)) (w.heap.size + 1 + 1) #[.int .i64 0, .float .f32 0, .int .i16 0, .float .f32 0, .int .i64 0] 33 := by
    have := At.new ((w.alloc (.cells (dt c y n f t) 33)).alloc (.cells #[.int .i64 0, .int .i16 0, .int .i16 0] 42)) #[.int .i64 0, .float .f32 0, .int .i16 0, .float .f32 0, .int .i64 0] 33
    rwa [World.size_alloc, World.size_alloc] at this
  have B0 := Lib.hid (bnew (bnew (b0 w (.cells (dt c y n f t) 33)) (.cells #[.int .i64 0, .int .i16 0, .int .i16 0] 42)) (.cells #[.int .i64 0, .float .f32 0, .int .i16 0, .float .f32 0, .int .i64 0] 33))
  have KV := ValidDetector_any c y n f t hy hf
  have KT := isTurn_b u
  cases h : okD c y n f t
  · rw [vRead_1 h]
    rw [h] at KV
    go_enter Try.func14, Try.ntmps14
    go_wp2_with (((with_reducible refine is_load 33 _ rfl ?_); refine wpList_load_at rfl 33 _ rfl _ rfl ((dt c y n f t)) _ (by with_reducible assumption) 5 (dt_size _ _ _ _ _) _ Try.underlying33 rfl (by kernel_rfl) ?_))
    refine ((KV _)).mono ?_
    rintro e w1 ⟨rfl, hb1⟩
    have P1 := P0.step hb1
    have R1 := R0.step hb1
    have Q1 := Q0.step hb1
    have B1 := Lib.hid (bthen B0.out hb1)
    clear P0 R0 Q0 B0 hb1
    have R9 := (R1.setRow (t1 0 0 0)).setRow_other (k := w.heap.size + 1 + 1) (by omega) (dt 0 0 0 0 0)
    have Q9 := (Q1.setRow_other (k := w.heap.size + 1) (by omega) (t1 0 0 0)).setRow (dt 0 0 0 0 0)
    have Q8 := Q1.setRow_other (k := w.heap.size + 1) (by omega) (t1 0 0 0)
    have B9 := Lib.hid (bset (bset B1.out (g := w.heap.size + 1) (by omega) (t1 0 0 0)) (g := w.heap.size + 1 + 1) (by omega) (dt 0 0 0 0 0))
    go_wp2_with (first | ((with_reducible refine is_store 42 _ _ rfl ?_); refine wpList_store_at rfl 42 _ _ rfl _ rfl ((t1 0 0 0)) rfl (#[.int .i64 0, .int .i16 0, .int .i16 0]) _ (by with_reducible assumption) 3 (t1_size _ _ _) (rfl) (by kernel_rfl) (t1_one _ _ _) ?_) | ((with_reducible refine is_store 33 _ _ rfl ?_); refine wpList_store_at rfl 33 _ _ rfl _ rfl ((dt 0 0 0 0 0)) rfl (#[.int .i64 0, .float .f32 0, .int .i16 0, .float .f32 0, .int .i64 0]) _ (by with_reducible assumption) 5 (dt_size _ _ _ _ _) (rfl) (by kernel_rfl) (dt_one _ _ _ _ _) ?_))
    exact bodyPost_ret (v := .tuple #[.agg (t1 0 0 0), .agg (dt 0 0 0 0 0), .int .i64 1]) (results_two (p := 4) (q := 5) (u := 6) (ty1 := 42) (ty2 := 33) rfl _ _ _ (t1 0 0 0) _ _ (dt 0 0 0 0 0) _ (.int .i64 1) rfl rfl rfl R9 Q9 _ Try.underlying42 rfl 3 (t1_size _ _ _) (by kernel_rfl) _ Try.underlying33 rfl 5 (dt_size _ _ _ _ _) (by kernel_rfl)) rfl ⟨rfl, B9.out⟩
  · rw [h] at KV
    cases h2 : inB 0 65535 u
    · rw [vRead_2 h h2]
      rw [h2] at KT
      go_enter Try.func14, Try.ntmps14
      go_wp2_with (((with_reducible refine is_load 33 _ rfl ?_); refine wpList_load_at rfl 33 _ rfl _ rfl ((dt c y n f t)) _ (by with_reducible assumption) 5 (dt_size _ _ _ _ _) _ Try.underlying33 rfl (by kernel_rfl) ?_))
      refine ((KV _)).mono ?_
      rintro e w1 ⟨rfl, hb1⟩
      have P1 := P0.step hb1
      have R1 := R0.step hb1
      have Q1 := Q0.step hb1
      have B1 := Lib.hid (bthen B0.out hb1)
      clear P0 R0 Q0 B0 hb1
      go_wp2_with fail
      refine (KT _).mono ?_
      rintro e w2 ⟨rfl, n2, rfl⟩
      have hb2 := bdrew (Below.refl w1.heap.size w1) n2
      generalize World.drewN _ n2 = w2 at hb2 ⊢
      have P2 := P1.step hb2
      have R2 := R1.step hb2
      have Q2 := Q1.step hb2
      have B2 := Lib.hid (bthen B1.out hb2)
      clear P1 R1 Q1 B1 hb2
      have R9 := (R2.setRow (t1 0 0 0)).setRow_other (k := w.heap.size + 1 + 1) (by omega) (dt 0 0 0 0 0)
      have Q9 := (Q2.setRow_other (k := w.heap.size + 1) (by omega) (t1 0 0 0)).setRow (dt 0 0 0 0 0)
      have Q8 := Q2.setRow_other (k := w.heap.size + 1) (by omega) (t1 0 0 0)
      have B9 := Lib.hid (bset (bset B2.out (g := w.heap.size + 1) (by omega) (t1 0 0 0)) (g := w.heap.size + 1 + 1) (by omega) (dt 0 0 0 0 0))
      go_wp2_with (first | ((with_reducible refine is_store 42 _ _ rfl ?_); refine wpList_store_at rfl 42 _ _ rfl _ rfl ((t1 0 0 0)) rfl (#[.int .i64 0, .int .i16 0, .int .i16 0]) _ (by with_reducible assumption) 3 (t1_size _ _ _) (rfl) (by kernel_rfl) (t1_one _ _ _) ?_) | ((with_reducible refine is_store 33 _ _ rfl ?_); refine wpList_store_at rfl 33 _ _ rfl _ rfl ((dt 0 0 0 0 0)) rfl (#[.int .i64 0, .float .f32 0, .int .i16 0, .float .f32 0, .int .i64 0]) _ (by with_reducible assumption) 5 (dt_size _ _ _ _ _) (rfl) (by kernel_rfl) (dt_one _ _ _ _ _) ?_))
      exact bodyPost_ret (v := .tuple #[.agg (t1 0 0 0), .agg (dt 0 0 0 0 0), .int .i64 2]) (results_two (p := 4) (q := 5) (u := 6) (ty1 := 42) (ty2 := 33) rfl _ _ _ (t1 0 0 0) _ _ (dt 0 0 0 0 0) _ (.int .i64 2) rfl rfl rfl R9 Q9 _ Try.underlying42 rfl 3 (t1_size _ _ _) (by kernel_rfl) _ Try.underlying33 rfl 5 (dt_size _ _ _ _ _) (by kernel_rfl)) rfl ⟨rfl, B9.out⟩
    · rw [vRead_0 h h2]
      rw [h2] at KT
      obtain ⟨-, -, -, hfa, hta⟩ := okD_of h
      clear h h2
      have KF := fullOf_any c y n f t hfa hta
      generalize fullD f t = z at KF
      clear hfa hta
      go_enter Try.func14, Try.ntmps14
      go_wp2_with (((with_reducible refine is_load 33 _ rfl ?_); refine wpList_load_at rfl 33 _ rfl _ rfl ((dt c y n f t)) _ (by with_reducible assumption) 5 (dt_size _ _ _ _ _) _ Try.underlying33 rfl (by kernel_rfl) ?_))
      refine ((KV _)).mono ?_
      rintro e w1 ⟨rfl, hb1⟩
      have P1 := P0.step hb1
      have R1 := R0.step hb1
      have Q1 := Q0.step hb1
      have B1 := Lib.hid (bthen B0.out hb1)
      clear P0 R0 Q0 B0 hb1
      go_wp2_with fail
      refine (KT _).mono ?_
      rintro e w2 ⟨rfl, n2, rfl⟩
      have hb2 := bdrew (Below.refl w1.heap.size w1) n2
      generalize World.drewN _ n2 = w2 at hb2 ⊢
      have P2 := P1.step hb2
      have R2 := R1.step hb2
      have Q2 := Q1.step hb2
      have B2 := Lib.hid (bthen B1.out hb2)
      clear P1 R1 Q1 B1 hb2
      go_wp2_with fail
      refine wp_region_late (n := 12) (ist := 11) (d := 4) (s := 22) (T := 42) (gR := w.heap.size + 1) (OV := #[.int .i64 0, .int .i16 0, .int .i16 0]) (RV := (t1 u n z)) (by kernel_rfl) (by kernel_rfl) (by kernel_rfl) ⟨rfl, rfl, by decide, by kernel_rfl, by kernel_rfl, by kernel_rfl, by kernel_rfl⟩ rfl R2 (fun ev w' h1 h2 h3 => store_fresh rfl 3 (t1_size _ _ _) rfl (by kernel_rfl) (t1_one _ _ _) ev w' _ h1 h2 h3) ?_
      intro C hC0
      have P9 : ∀ w', C w' → At w' w.heap.size (dt c y n f t) 33 := fun w' h => (hC0.sub w' h).at P2 (by omega)
      have hC := hC0.const
      simp (config := { decide := true }) only [cutOut, nop, List.mapIdx_cons, List.mapIdx_nil, if_true, if_false, List.take, List.drop]
      repeat (first
        | go_big_quiet_skip
        | (go_big_quiet_want; first
          | (refine q_load 2 _ rfl ⟨w.heap.size, 0, none⟩ rfl (.int .i64 c) (fun w' h' => run_load_i w' 2 .i64 Try.underlying2 _ _ ((P9 w' h').cell (dt_0 _ _ _ _ _))) ?_; go_simp; go_big_quiet_on)
          | (refine q_load 24 _ rfl ⟨w.heap.size, 1, none⟩ rfl (.float .f32 y) (fun w' h' => run_load_cell w' 24 .f32 Try.underlying24 _ _ ((P9 w' h').cell (dt_1 _ _ _ _ _))) ?_; go_simp; go_big_quiet_on)
          | (refine q_load 31 _ rfl ⟨w.heap.size, 2, none⟩ rfl (.int .i16 n) (fun w' h' => run_load_i w' 31 .i16 Try.underlying31 _ _ ((P9 w' h').cell (dt_2 _ _ _ _ _))) ?_; go_simp; go_big_quiet_on)
          | (refine q_rowC 33 _ rfl rfl P9 5 (dt_size _ _ _ _ _) _ Try.underlying33 rfl (by kernel_rfl) ?_; go_simp; go_big_quiet_on)
          | (go_big_quiet_op; apply Exists.intro; refine ⟨fun w' hw' => ?_, ?_⟩; (go_at_call 34; exact (KF _).mono fun _ _ h => ⟨h.1, hC0.step _ _ hw' h.2⟩); go_big_quiet_on)
          | (go_big_quiet_op; go_big_quiet_on)))
      refine wpQuiet_nil ?_
      refine ⟨rfl, fun w9 hw9 R9 => ?_⟩
      have Q9 := hw9.at Q2 (by omega)
      have B9 := Lib.hid (B2.out.trans (hw9.below (B := w.heap.size) (by omega) R2.lt))
      have R10 := R9.setRow_other (k := w.heap.size + 1 + 1) (by omega) (dt c y 0 0 0)
      have Q10 := Q9.setRow (dt c y 0 0 0)
      have B10 := Lib.hid (bset B9.out (g := w.heap.size + 1 + 1) (by omega) (dt c y 0 0 0))
      clear hC P9 hC0 hw9 P2 R2 Q2 B2
      go_wp2_with (((with_reducible refine is_store 33 _ _ rfl ?_); refine wpList_store_at rfl 33 _ _ rfl _ rfl ((dt c y 0 0 0)) rfl (#[.int .i64 0, .float .f32 0, .int .i16 0, .float .f32 0, .int .i64 0]) _ (by with_reducible assumption) 5 (dt_size _ _ _ _ _) (rfl) (by kernel_rfl) (dt_one _ _ _ _ _) ?_))
      exact bodyPost_ret (v := .tuple #[.agg (t1 u n z), .agg (dt c y 0 0 0), .int .i64 0]) (results_two (p := 4) (q := 5) (u := 6) (ty1 := 42) (ty2 := 33) rfl _ _ _ (t1 u n z) _ _ (dt c y 0 0 0) _ (.int .i64 0) rfl rfl rfl R10 Q10 _ Try.underlying42 rfl 3 (t1_size _ _ _) (by kernel_rfl) _ Try.underlying33 rfl 5 (dt_size _ _ _ _ _) (by kernel_rfl)) rfl ⟨rfl, B10.out⟩

end Go.Proofs.Ytcfoghckdloknaa
