/-
  CONTRACTS: MergeTwo, the program's.
-/
import Derived.Test.YthljppdkplkohaaMergeS
import Derived.Test.YthljppdkplkohaaG2
namespace Go.Proofs.Ythljppdkplkohaa
open Go Go.RowKit
set_option maxRecDepth 100000

set_option maxHeartbeats 2000000 in
theorem MergeTwo_b (a : Nat) (ha : a < 4294967296) (b : Nat) (hb : b < 4294967296) (t : Nat) (ht : t < 4294967296) (s : Nat) (hs : s < 4294967296) (w : World) :
    Calls Try.prog 6 #[.float .f32 a, .float .f32 b, .float .f32 t, .float .f32 s] w fun e w' => e = .returned (.tuple #[.float .f32 (vMerge a b t s).1, .float .f32 (vMerge a b t s).2.1, .int .i64 (vMerge a b t s).2.2]) ∧ Below w.heap.size w w' := by
  cases h_a : amtB a
  · have ev : (vMerge a b t s) = (0, 0, 2) := by unfold vMerge okMerge; rw [h_a]; simp
    rw [ev]
    clear ev
    go_enter Try.func6, Try.ntmps6
    go_wp2_with (first | (go_at_call 15; (with_reducible show Calls _ _ #[.float .f32 a] _ _); refine (IsAmount_any a ha _).mono ?_; rw [h_a]; rintro e w' ⟨rfl, n_a, rfl⟩) | (go_at_call 15; (with_reducible show Calls _ _ #[.float .f32 b] _ _); refine (IsAmount_any b hb _).mono ?_; rw [h_b]; rintro e w' ⟨rfl, n_b, rfl⟩) | (go_at_call 15; (with_reducible show Calls _ _ #[.float .f32 t] _ _); refine (IsAmount_any t ht _).mono ?_; rw [h_t]; rintro e w' ⟨rfl, n_t, rfl⟩) | (go_at_call 16; (with_reducible show Calls _ _ #[.float .f32 s] _ _); refine (IsShare_any s hs _).mono ?_; rw [h_s]; rintro e w' ⟨rfl, n_s, rfl⟩))
    go_ret3
    exact ⟨rfl, bdrew (Below.refl _ _) _⟩
  cases h_b : amtB b
  · have ev : (vMerge a b t s) = (0, 0, 2) := by unfold vMerge okMerge; rw [h_b]; simp
    rw [ev]
    clear ev
    go_enter Try.func6, Try.ntmps6
    go_wp2_with (first | (go_at_call 15; (with_reducible show Calls _ _ #[.float .f32 a] _ _); refine (IsAmount_any a ha _).mono ?_; rw [h_a]; rintro e w' ⟨rfl, n_a, rfl⟩) | (go_at_call 15; (with_reducible show Calls _ _ #[.float .f32 b] _ _); refine (IsAmount_any b hb _).mono ?_; rw [h_b]; rintro e w' ⟨rfl, n_b, rfl⟩) | (go_at_call 15; (with_reducible show Calls _ _ #[.float .f32 t] _ _); refine (IsAmount_any t ht _).mono ?_; rw [h_t]; rintro e w' ⟨rfl, n_t, rfl⟩) | (go_at_call 16; (with_reducible show Calls _ _ #[.float .f32 s] _ _); refine (IsShare_any s hs _).mono ?_; rw [h_s]; rintro e w' ⟨rfl, n_s, rfl⟩))
    go_ret3
    exact ⟨rfl, bdrew (Below.refl _ _) _⟩
  cases h_t : amtB t
  · have ev : (vMerge a b t s) = (0, 0, 2) := by unfold vMerge okMerge; rw [h_t]; simp
    rw [ev]
    clear ev
    go_enter Try.func6, Try.ntmps6
    go_wp2_with (first | (go_at_call 15; (with_reducible show Calls _ _ #[.float .f32 a] _ _); refine (IsAmount_any a ha _).mono ?_; rw [h_a]; rintro e w' ⟨rfl, n_a, rfl⟩) | (go_at_call 15; (with_reducible show Calls _ _ #[.float .f32 b] _ _); refine (IsAmount_any b hb _).mono ?_; rw [h_b]; rintro e w' ⟨rfl, n_b, rfl⟩) | (go_at_call 15; (with_reducible show Calls _ _ #[.float .f32 t] _ _); refine (IsAmount_any t ht _).mono ?_; rw [h_t]; rintro e w' ⟨rfl, n_t, rfl⟩) | (go_at_call 16; (with_reducible show Calls _ _ #[.float .f32 s] _ _); refine (IsShare_any s hs _).mono ?_; rw [h_s]; rintro e w' ⟨rfl, n_s, rfl⟩))
    go_ret3
    exact ⟨rfl, bdrew (Below.refl _ _) _⟩
  cases h_s : shrB s
  · have ev : (vMerge a b t s) = (0, 0, 2) := by unfold vMerge okMerge; rw [h_s]; simp
    rw [ev]
    clear ev
    go_enter Try.func6, Try.ntmps6
    go_wp2_with (first | (go_at_call 15; (with_reducible show Calls _ _ #[.float .f32 a] _ _); refine (IsAmount_any a ha _).mono ?_; rw [h_a]; rintro e w' ⟨rfl, n_a, rfl⟩) | (go_at_call 15; (with_reducible show Calls _ _ #[.float .f32 b] _ _); refine (IsAmount_any b hb _).mono ?_; rw [h_b]; rintro e w' ⟨rfl, n_b, rfl⟩) | (go_at_call 15; (with_reducible show Calls _ _ #[.float .f32 t] _ _); refine (IsAmount_any t ht _).mono ?_; rw [h_t]; rintro e w' ⟨rfl, n_t, rfl⟩) | (go_at_call 16; (with_reducible show Calls _ _ #[.float .f32 s] _ _); refine (IsShare_any s hs _).mono ?_; rw [h_s]; rintro e w' ⟨rfl, n_s, rfl⟩))
    go_ret3
    exact ⟨rfl, bdrew (Below.refl _ _) _⟩
  have hok : okMerge a b t s = true := by unfold okMerge; rw [h_a, h_b, h_t, h_s]; rfl
  obtain ⟨qa, qb, qt, qs⟩ := okMerge_amt hok
  have M := mid_facts qa qb qt qs
  have fad := add_any (Nat.le_of_lt qa) (Nat.le_of_lt qb)
  have fsum : ∀ T W, (binOp .add T (.float .f32 a) (.float .f32 b)).run Try.prog W = .ok (.float .f32 (addB a b)) W := fun T W => run_float_arith W .add T .f32 _ _ _ fad.1
  have fle := le_amt (x := addB a b) (y := t) fad.2 (by omega)
  have fsub : ∀ T W, (binOp .sub T (.float .f32 t) (.float .f32 b)).run Try.prog W = .ok (.float .f32 (dW t b)) W := fun T W => run_float_arith W .sub T .f32 _ _ _ (sub_any qt qb)
  have fmul : ∀ T W, (binOp .mul T (.float .f32 s) (.float .f32 t)).run Try.prog W = .ok (.float .f32 (mulB s t)) W := fun T W => run_float_arith W .mul T .f32 _ _ _ (mul_eq (by omega) qt).1
  have flast : ∀ T W, (binOp .sub T (.float .f32 t) (.float .f32 (midW a (dW t b) (mulB s t)))).run Try.prog W = .ok (.float .f32 (subB t (midW a (dW t b) (mulB s t)))) W := fun T W => run_float_arith W .sub T .f32 _ _ _ (sub_eq qt M.mid).1
  clear fad
  by_cases cs : addB a b ≤ t
  · have ev : (vMerge a b t s) = (a, b, 0) := by unfold vMerge; rw [if_pos hok, if_pos cs]
    rw [ev]
    rw [decide_eq_true cs] at fle
    clear ev cs M flast fsub fmul hok
    go_enter Try.func6, Try.ntmps6
    go_wp2_with (first | (go_at_call 15; (with_reducible show Calls _ _ #[.float .f32 a] _ _); refine (IsAmount_any a ha _).mono ?_; rw [h_a]; rintro e w' ⟨rfl, n_a, rfl⟩) | (go_at_call 15; (with_reducible show Calls _ _ #[.float .f32 b] _ _); refine (IsAmount_any b hb _).mono ?_; rw [h_b]; rintro e w' ⟨rfl, n_b, rfl⟩) | (go_at_call 15; (with_reducible show Calls _ _ #[.float .f32 t] _ _); refine (IsAmount_any t ht _).mono ?_; rw [h_t]; rintro e w' ⟨rfl, n_t, rfl⟩) | (go_at_call 16; (with_reducible show Calls _ _ #[.float .f32 s] _ _); refine (IsShare_any s hs _).mono ?_; rw [h_s]; rintro e w' ⟨rfl, n_s, rfl⟩))
    go_ret3
    exact ⟨rfl, bdrew (Below.refl _ _) _⟩
  have ev : (vMerge a b t s) = (midW a (dW t b) (mulB s t), subB t (midW a (dW t b) (mulB s t)), 0) := by unfold vMerge; rw [if_pos hok, if_neg cs]
  rw [ev]
  rw [decide_eq_false cs] at fle
  clear ev cs hok
  go_enter Try.func6, Try.ntmps6
  go_wp2_with fail
  refine (IsAmount_any a ha _).mono ?_
  rw [h_a]
  rintro e w1 ⟨rfl, n1, rfl⟩
  go_wp2_with fail
  refine (IsAmount_any b hb _).mono ?_
  rw [h_b]
  rintro e w2 ⟨rfl, n2, rfl⟩
  go_wp2_with fail
  refine (IsAmount_any t ht _).mono ?_
  rw [h_t]
  rintro e w3 ⟨rfl, n3, rfl⟩
  go_wp2_with fail
  refine (IsShare_any s hs _).mono ?_
  rw [h_s]
  rintro e w4 ⟨rfl, n4, rfl⟩
  have B4 : Hid (Below w.heap.size w ((w.drewN (n1 + n2 + n3)).drewN n4)) := Lib.hid (bdrew (bdrew (Below.refl _ _) _) _)
  have hsz : ((w.drewN (n1 + n2 + n3)).drewN n4).heap.size = w.heap.size := rfl
  generalize hw4 : (w.drewN (n1 + n2 + n3)).drewN n4 = w4 at B4 hsz ⊢
  clear hw4
  have M0 := At.new w4 (#[.float .f32 0, .float .f32 0, .float .f32 0, .float .f32 0]) 45
  have M1 := M0.setRow (fl [a, b, t, s])
  have B5 := Lib.hid (bset (bnew B4.out (.cells (#[.float .f32 0, .float .f32 0, .float .f32 0, .float .f32 0]) 45)) (g := w4.heap.size) B4.out.size (fl [a, b, t, s]))
  have T0 := At.new ((w4.alloc (.cells (#[.float .f32 0, .float .f32 0, .float .f32 0, .float .f32 0]) 45)).setRow w4.heap.size (fl [a, b, t, s])) (#[.nilFunc, .nilFunc, .nilFunc]) 48
  have hs5 : ((w4.alloc (.cells (#[.float .f32 0, .float .f32 0, .float .f32 0, .float .f32 0]) 45)).setRow w4.heap.size (fl [a, b, t, s])).heap.size = w.heap.size + 1 := by simp [hsz]
  rw [hs5] at T0
  rw [hsz] at M0 M1 B5
  rw [hsz] at T0
  have T1 := T0.setRow (#[.func (.func 17) #[] #[], .func (.func 18) #[] #[], .func (.func 19) #[] #[]])
  have M2 := (M1.alloc (.cells (#[.nilFunc, .nilFunc, .nilFunc]) 48)).setRow_other (k := w.heap.size + 1) (by omega) (#[.func (.func 17) #[] #[], .func (.func 18) #[] #[], .func (.func 19) #[] #[]])
  have B6 := Lib.hid (bset (bnew B5.out (.cells (#[.nilFunc, .nilFunc, .nilFunc]) 48)) (g := w.heap.size + 1) (by omega) (#[.func (.func 17) #[] #[], .func (.func 18) #[] #[], .func (.func 19) #[] #[]]))
  have P0 := At.new ((((w4.alloc (.cells (#[.float .f32 0, .float .f32 0, .float .f32 0, .float .f32 0]) 45)).setRow w.heap.size (fl [a, b, t, s])).alloc (.cells (#[.nilFunc, .nilFunc, .nilFunc]) 48)).setRow (w.heap.size + 1) (#[.func (.func 17) #[] #[], .func (.func 18) #[] #[], .func (.func 19) #[] #[]])) (#[.float .f32 0, .float .f32 0, .float .f32 0]) 49
  have hs6 : ((((w4.alloc (.cells (#[.float .f32 0, .float .f32 0, .float .f32 0, .float .f32 0]) 45)).setRow w.heap.size (fl [a, b, t, s])).alloc (.cells (#[.nilFunc, .nilFunc, .nilFunc]) 48)).setRow (w.heap.size + 1) (#[.func (.func 17) #[] #[], .func (.func 18) #[] #[], .func (.func 19) #[] #[]])).heap.size = w.heap.size + 1 + 1 := by simp [hsz]
  rw [hs6] at P0
  have M3 := M2.alloc (.cells (#[.float .f32 0, .float .f32 0, .float .f32 0]) 49)
  have T3 := T1.alloc (.cells (#[.float .f32 0, .float .f32 0, .float .f32 0]) 49)
  have B7 := Lib.hid (bnew B6.out (.cells (#[.float .f32 0, .float .f32 0, .float .f32 0]) 49))
  go_wp2_with (first | ((with_reducible refine is_store 45 (.tmp 11) (.tmp 45) rfl ?_); refine wpList_store_at rfl 45 (.tmp 11) (.tmp 45) rfl _ rfl (fl [a, b, t, s]) rfl (#[.float .f32 0, .float .f32 0, .float .f32 0, .float .f32 0]) _ M0 4 (rfl) (rfl) (by kernel_rfl) (fl_one _) ?_) | ((with_reducible refine is_store 48 (.tmp 12) (.tmp 46) rfl ?_); refine wpList_store_at rfl 48 (.tmp 12) (.tmp 46) rfl (w.heap.size + 1) rfl (#[.func (.func 17) #[] #[], .func (.func 18) #[] #[], .func (.func 19) #[] #[]]) rfl (#[.nilFunc, .nilFunc, .nilFunc]) 48 T0 3 rfl rfl (by kernel_rfl) (by kernel_rfl) ?_) | ((with_reducible refine is_load 48 _ rfl ?_); refine wpList_load_at rfl 48 _ rfl _ rfl (#[.func (.func 17) #[] #[], .func (.func 18) #[] #[], .func (.func 19) #[] #[]]) _ T3 3 (rfl) _ Try.underlying48 rfl (by kernel_rfl) ?_))
  have hL3 : ([a, dW t b, mulB s t] : List Nat).length = 3 := rfl
  have P00 : Hid ((#[.float .f32 0, .float .f32 0, .float .f32 0] : Array Value) = fl (cpN 3 [a, dW t b, mulB s t] 0)) := Lib.hid rfl
  go_loopw [48] (fun i1 wr => ∃ k : Nat, k ≤ 3 ∧ i1 = .int .i64 k ∧ At wr w.heap.size (fl [a, b, t, s]) 45 ∧ At wr (w.heap.size + 1 + 1) (fl (cpN 3 [a, dW t b, mulB s t] k)) 49 ∧ Hid (Below w.heap.size w wr)) (fun i1 _ => 4 - (intOf i1).toNat)
  case atStart => exact ⟨0, by omega, rfl, M3, by rw [← P00.out]; exact P0, B7⟩
  case round =>
    clear M0 M1 M2 M3 T0 T1 T3 P0 B4 B5 B6 B7 hs5 hs6 P00 hsz
    obtain ⟨k, hk, rfl, M4, P4, B4⟩ := hrel
    have x0 : ∀ W, (Instr.index 48 (.agg (#[.func (.func 17) #[] #[], .func (.func 18) #[] #[], .func (.func 19) #[] #[]])) (.int .i64 0)).run Try.prog W = .ok (.func (.func 17) #[] #[]) W := fun W => by kernel_rfl
    have x1 : ∀ W, (Instr.index 48 (.agg (#[.func (.func 17) #[] #[], .func (.func 18) #[] #[], .func (.func 19) #[] #[]])) (.int .i64 1)).run Try.prog W = .ok (.func (.func 18) #[] #[]) W := fun W => by kernel_rfl
    have x2 : ∀ W, (Instr.index 48 (.agg (#[.func (.func 17) #[] #[], .func (.func 18) #[] #[], .func (.func 19) #[] #[]])) (.int .i64 2)).run Try.prog W = .ok (.func (.func 19) #[] #[]) W := fun W => by kernel_rfl
    rcases (by omega : k = 0 ∨ k = 1 ∨ k = 2 ∨ k = 3) with rfl | rfl | rfl | rfl
    · go_wp2_with (((with_reducible refine is_load 45 _ rfl ?_); refine wpList_load_at rfl 45 _ rfl _ rfl (fl [a, b, t, s]) _ M4 4 (rfl) _ Try.underlying45 rfl (by kernel_rfl) ?_))
      refine (all_any a b t s  _).mono ?_
      rintro e w5 ⟨rfl, hb5⟩
      have M6 := M4.step hb5
      have P6 := P4.step hb5
      have B6 := Lib.hid (bthen B4.out hb5)
      clear M4 P4 B4 hb5
      have P7 := P6.setRow (fl (cpN 3 [a, dW t b, mulB s t] (0 + 1)))
      have M7 := M6.setRow_other (k := w.heap.size + 1 + 1) (by omega) (fl (cpN 3 [a, dW t b, mulB s t] (0 + 1)))
      have B7 := Lib.hid (bset B6.out (g := w.heap.size + 1 + 1) (by omega) (fl (cpN 3 [a, dW t b, mulB s t] (0 + 1))))
      go_wp2_with ((with_reducible refine is_store 24 (.tmp 56) (.tmp 55) rfl ?_); refine wpList_store_cell rfl 24 (.tmp 56) (.tmp 55) rfl (w.heap.size + 1 + 1) 0 rfl (.float .f32 (a)) rfl (fl (cpN 3 [a, dW t b, mulB s t] 0)) _ P6 (by rw [fl_size, cpN_len hL3 _ (by omega)]; omega) (by kernel_rfl) rfl (fl (cpN 3 [a, dW t b, mulB s t] (0 + 1))) (by rw [fl_set]; rfl) ?_)
      exact ⟨⟨0 + 1, by omega, by go_num, M7, P7, B7⟩, by simp [intOf]⟩
    · go_wp2_with (((with_reducible refine is_load 45 _ rfl ?_); refine wpList_load_at rfl 45 _ rfl _ rfl (fl [a, b, t, s]) _ M4 4 (rfl) _ Try.underlying45 rfl (by kernel_rfl) ?_))
      refine (left_any a b t s qt qb _).mono ?_
      rintro e w5 ⟨rfl, hb5⟩
      have M6 := M4.step hb5
      have P6 := P4.step hb5
      have B6 := Lib.hid (bthen B4.out hb5)
      clear M4 P4 B4 hb5
      have P7 := P6.setRow (fl (cpN 3 [a, dW t b, mulB s t] (1 + 1)))
      have M7 := M6.setRow_other (k := w.heap.size + 1 + 1) (by omega) (fl (cpN 3 [a, dW t b, mulB s t] (1 + 1)))
      have B7 := Lib.hid (bset B6.out (g := w.heap.size + 1 + 1) (by omega) (fl (cpN 3 [a, dW t b, mulB s t] (1 + 1))))
      go_wp2_with ((with_reducible refine is_store 24 (.tmp 56) (.tmp 55) rfl ?_); refine wpList_store_cell rfl 24 (.tmp 56) (.tmp 55) rfl (w.heap.size + 1 + 1) 1 rfl (.float .f32 (dW t b)) rfl (fl (cpN 3 [a, dW t b, mulB s t] 1)) _ P6 (by rw [fl_size, cpN_len hL3 _ (by omega)]; omega) (by kernel_rfl) rfl (fl (cpN 3 [a, dW t b, mulB s t] (1 + 1))) (by rw [fl_set]; rfl) ?_)
      exact ⟨⟨1 + 1, by omega, by go_num, M7, P7, B7⟩, by simp [intOf]⟩
    · go_wp2_with (((with_reducible refine is_load 45 _ rfl ?_); refine wpList_load_at rfl 45 _ rfl _ rfl (fl [a, b, t, s]) _ M4 4 (rfl) _ Try.underlying45 rfl (by kernel_rfl) ?_))
      refine (due_any a b t s qt qs _).mono ?_
      rintro e w5 ⟨rfl, hb5⟩
      have M6 := M4.step hb5
      have P6 := P4.step hb5
      have B6 := Lib.hid (bthen B4.out hb5)
      clear M4 P4 B4 hb5
      have P7 := P6.setRow (fl (cpN 3 [a, dW t b, mulB s t] (2 + 1)))
      have M7 := M6.setRow_other (k := w.heap.size + 1 + 1) (by omega) (fl (cpN 3 [a, dW t b, mulB s t] (2 + 1)))
      have B7 := Lib.hid (bset B6.out (g := w.heap.size + 1 + 1) (by omega) (fl (cpN 3 [a, dW t b, mulB s t] (2 + 1))))
      go_wp2_with ((with_reducible refine is_store 24 (.tmp 56) (.tmp 55) rfl ?_); refine wpList_store_cell rfl 24 (.tmp 56) (.tmp 55) rfl (w.heap.size + 1 + 1) 2 rfl (.float .f32 (mulB s t)) rfl (fl (cpN 3 [a, dW t b, mulB s t] 2)) _ P6 (by rw [fl_size, cpN_len hL3 _ (by omega)]; omega) (by kernel_rfl) rfl (fl (cpN 3 [a, dW t b, mulB s t] (2 + 1))) (by rw [fl_set]; rfl) ?_)
      exact ⟨⟨2 + 1, by omega, by go_num, M7, P7, B7⟩, by simp [intOf]⟩
    · have M5 := M4
      rw [cpN_all hL3] at P4
      have hN : Nums [a, dW t b, mulB s t] := by
        intro q hq
        have hq' : q < 3 := hq
        rcases (by omega : q = 0 ∨ q = 1 ∨ q = 2) with rfl | rfl | rfl
        · exact M.num.1
        · exact M.num.2.1
        · exact M.num.2.2
      go_wp2_with fail
      refine (Sort_any (w.heap.size + 1 + 1) [a, dW t b, mulB s t] rfl hN 49 _ P4).mono ?_
      rintro e w8 ⟨rfl, P8, hb8⟩
      have B8 := Lib.hid (B4.out.trans (hb8.mono (by omega)))
      have dS : (fl (srt [a, dW t b, mulB s t]))[1]? = some (.float .f32 (midW a (dW t b) (mulB s t))) := by rw [← M.sorted]; exact fl_get (by rw [srt, insF_len, insF_len, hL3]; omega)
      clear hb8 P4 B4 M4 M5 hN
      have hC := Cb.const w8
      go_wp2
      refine wp_region_cb (by kernel_rfl) (by kernel_rfl) ?_
      repeat (first
        | go_big_quiet_skip
        | (go_big_quiet_want; first
          | (refine q_cell 24 _ rfl _ Try.underlying24 _ rfl P8 _ dS ?_; go_simp; go_big_quiet_on)
          | (go_big_quiet_op; go_big_quiet_on)))
      refine wpQuiet_nil ?_
      intro w9 hw9
      go_wp2
      go_ret3
      exact ⟨rfl, bthen' B8.out hw9 (B8.out.size)⟩

end Go.Proofs.Ythljppdkplkohaa
