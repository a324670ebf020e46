/-
  FnMerged: what two streams that merge send is shared out, none sends more than it has, and all goes or the way is full; one stream splits so that no way gets more than it takes, nearly; the program's answers are the model's. No condition.
-/
import Derived.Test.YthljppdkplkohaaMrgF
import Derived.Test.YthljppdkplkohaaMrgD
import Derived.Test.YthljppdkplkohaaMergeI
import Derived.Test.YthljppdkplkohaaSplit
import Derived.Test.YthljppdkplkohaaBapp
import Derived.Test.YthljppdkplkohaaLawBN
import Derived.Test.YthljppdkplkohaaG3
import Derived.Test.YthljppdkplkohaaIfc
namespace Go.Proofs.Ythljppdkplkohaa.lawFnMerged
open Go Go.ChangeShapes Go.WideShapes Go.ChangeAt Go.RowKit


theorem all4 {xs : List Nat} {n : Nat} (hl : xs.length = 4) (h : ∀ k, k < 4 → nth xs k < n) : ∀ x ∈ xs, x < n := by
  intro x hx
  obtain ⟨k, hk, rfl⟩ := List.getElem_of_mem hx
  have := h k (by omega)
  unfold nth at this
  rwa [List.getD_eq_getElem?_getD, List.getElem?_eq_getElem hk] at this


theorem f6big_any (a : Option Addr) (n c : Nat) (hn : n ≤ maxLen) (w : World) : Calls Try.prog 4 #[.slice a n c] w fun e w' => e = .returned (.bool (decide (4096 < n))) ∧ w' = w := by
  have hm : n ≤ 9223372036854775807 := Nat.le_trans hn (by decide)
  by_cases h : 4096 < n
  · have h1 : (n : Int) > 4096 := by omega
    rw [decide_eq_true h]
    go_enter Try.func4, Try.ntmps4
    go_wp2
    go_ret
    exact ⟨rfl, rfl⟩
  · have h1 : ¬ (n : Int) > 4096 := by omega
    rw [decide_eq_false h]
    go_enter Try.func4, Try.ntmps4
    go_wp2
    go_ret
    exact ⟨rfl, rfl⟩
set_option maxRecDepth 100000
set_option maxHeartbeats 8000000 in
theorem walk (w : World) (a0 : Option Addr) (c0 : Nat) (x0 : List Nat) (h0 : BSl w a0 x0) (hz0 : a0 = none → c0 = 0) (a1 : Option Addr) (c1 : Nat) (x1 : List Nat) (h1 : BSl w a1 x1) (hz1 : a1 = none → c1 = 0) :
    Calls Try.prog 3 #[.slice a0 x0.length c0, .slice a1 x1.length c1] w (True? w) := by
  by_cases hb0 : 4096 < x0.length
  · go_enter Try.func3, Try.ntmps3
    go_wp2_with fail
    refine (f6big_any a0 x0.length c0 h0.len _).mono ?_
    rintro e w1 ⟨rfl, rfl⟩
    rw [decide_eq_true hb0]
    go_wp2_with fail
    go_ret
    exact ⟨rfl, Below.refl _ _⟩
  · by_cases hb1 : 4096 < x1.length
    · go_enter Try.func3, Try.ntmps3
      go_wp2_with fail
      refine (f6big_any a0 x0.length c0 h0.len _).mono ?_
      rintro e w1 ⟨rfl, rfl⟩
      rw [decide_eq_false hb0]
      go_wp2_with fail
      refine (f6big_any a1 x1.length c1 h1.len _).mono ?_
      rintro e w2 ⟨rfl, rfl⟩
      rw [decide_eq_true hb1]
      go_wp2_with fail
      go_ret
      exact ⟨rfl, Below.refl _ _⟩
    · skip
      go_enter Try.func3, Try.ntmps3
      go_wp2_with fail
      refine (f6big_any a0 x0.length c0 h0.len _).mono ?_
      rintro e w1 ⟨rfl, rfl⟩
      rw [decide_eq_false hb0]
      go_wp2_with fail
      refine (f6big_any a1 x1.length c1 h1.len _).mono ?_
      rintro e w2 ⟨rfl, rfl⟩
      rw [decide_eq_false hb1]
      have hl0 : x0.length ≤ 4096 := by omega
      have hl1 : x1.length ≤ 4096 := by omega
      clear hb0 hb1
      go_wp2_with fail
      refine (pick33_e a0 c0 x0 33 (by omega) (by omega) _ h0).mono ?_
      rintro e w3 ⟨i, rfl, hi, hb3⟩
      have B3 := Lib.hid hb3
      clear hb3
      have f_i := floatOfInt_nat i
      have q_i := fun t w => run_float_arith (P := Try.prog) w .quo t .f32 _ _ _ (qs_op (a := i) (by omega))
      have hx1 := h1.step B3.out (Nat.le_refl _)
      go_wp2_with fail
      refine (pick33_e a1 c1 x1 33 (by omega) (by omega) _ hx1).mono ?_
      rintro e w4 ⟨j, rfl, hj, hb4⟩
      have B4 := Lib.hid (bthen B3.out hb4)
      clear hb4 hx1 f_i q_i B3
      have f_j := floatOfInt_nat j
      have q_j := fun t w => run_float_arith (P := Try.prog) w .quo t .f32 _ _ _ (qs_op (a := j) (by omega))
      have hx0 := h0.step B4.out (Nat.le_refl _)
      go_wp2_with (first | ((with_reducible refine is_bslice 22 1 _ rfl ?_); refine wpList_bslice rfl 22 1 _ rfl #[(0, .int .u8 1)] (by kernel_rfl) _ (run_oneY _ _) ?_) | (at_builtin; go_loud (refine wpList_app_bytes rfl _ _ rfl a0 c0 x0 (hx0.step (b0 _ (.cells #[.int .u8 1] 5)) (Nat.le_refl _)) hz0 hl0 1 (by omega) w4.heap.size (At.new w4 #[.int .u8 1] 5) rfl rfl ?_)))
      intro ad' cp' w5 hB5 _ hb5
      have B5 := Lib.hid ((bnew B4.out (.cells #[.int .u8 1] 5)).trans (hb5.mono B4.out.size))
      clear hx0 hb5 f_j q_j B4
      go_wp2_with fail
      refine (pick33_e ad' cp' (1 :: x0) 33 (by omega) (by omega) _ hB5).mono ?_
      rintro e w6 ⟨k, rfl, hk, hb6⟩
      have B6 := Lib.hid (bthen B5.out hb6)
      clear hb6 hB5 B5
      have f_k := floatOfInt_nat k
      have q_k := fun t w => run_float_arith (P := Try.prog) w .quo t .f32 _ _ _ (qs_op (a := k) (by omega))
      have hx1 := h1.step B6.out (Nat.le_refl _)
      go_wp2_with (first | ((with_reducible refine is_bslice 22 1 _ rfl ?_); refine wpList_bslice rfl 22 1 _ rfl #[(0, .int .u8 2)] (by kernel_rfl) _ (run_oneY _ _) ?_) | (at_builtin; go_loud (refine wpList_app_bytes rfl _ _ rfl a1 c1 x1 (hx1.step (b0 _ (.cells #[.int .u8 2] 5)) (Nat.le_refl _)) hz1 hl1 2 (by omega) w6.heap.size (At.new w6 #[.int .u8 2] 5) rfl rfl ?_)))
      intro ad2 cp2 w7 hB7 _ hb7
      have B7 := Lib.hid ((bnew B6.out (.cells #[.int .u8 2] 5)).trans (hb7.mono B6.out.size))
      clear hx1 hb7 f_k q_k B6
      go_wp2_with fail
      refine (pick33_e ad2 cp2 (2 :: x1) 17 (by omega) (by omega) _ hB7).mono ?_
      rintro e w8 ⟨l, rfl, hl, hb8⟩
      have B8 := Lib.hid (bthen B7.out hb8)
      clear hb8 hB7 B7
      have f_l := floatOfInt_nat l
      have q_l := fun t w => run_float_arith (P := Try.prog) w .quo t .f32 _ _ _ (qs_op (a := l) (by omega))
      obtain ⟨x, y, hv, hxa, hyb, hxi, hyi, hadd, hai⟩ := merge_good hi hj hk hl
      have A1 := qs_lt i hi
      have A2 := qs_lt j hj
      have A3 := qs_lt k hk
      have A4 := qs_lt l (by omega)
      have K1 := fun w => MergeTwo_b (qs i) (by omega) (qs j) (by omega) (qs k) (by omega) (qs l) (by omega) w
      have K2 := fun w => sMergeTwo_b (qs i) (by omega) (qs j) (by omega) (qs k) (by omega) (qs l) (by omega) w
      rw [hv] at K1 K2
      dsimp only at K1 K2
      go_wp2_with fail
      refine (K1 _).mono ?_
      rintro e w9 ⟨rfl, hb9⟩
      have B9 := Lib.hid (bthen B8.out hb9)
      clear hb9 B8 K1 f_l q_l
      go_wp2_with fail
      refine (K2 _).mono ?_
      rintro e w10 ⟨rfl, hb10⟩
      have B10 := Lib.hid (bthen B9.out hb10)
      clear hb10 B9 K2 hv
      have n_x : (FloatKind.f32.format.order x x != some .eq) = false := by rw [ne_amt (by omega) (by omega)]; simp
      have n_y : (FloatKind.f32.format.order y y != some .eq) = false := by rw [ne_amt (by omega) (by omega)]; simp
      have s_a := fun t w => run_float_arith (P := Try.prog) w .add t .f32 _ _ _ (add_any (Nat.le_of_lt A1) (show 981668463 ≤ 2139095040 by omega)).1
      have s_b := fun t w => run_float_arith (P := Try.prog) w .add t .f32 _ _ _ (add_any (Nat.le_of_lt A2) (show 981668463 ≤ 2139095040 by omega)).1
      have s_ab := fun t w => run_float_arith (P := Try.prog) w .add t .f32 _ _ _ (add_any (Nat.le_of_lt A1) (Nat.le_of_lt A2)).1
      have s_xy := fun t w => run_float_arith (P := Try.prog) w .add t .f32 _ _ _ (add_any (Nat.le_of_lt hxi) (Nat.le_of_lt hyi)).1
      have g_x : (FloatKind.f32.format.order x (addB (qs i) 981668463) == some .gt) = false := by
        have := qs_slack i hi
        rw [gt_amt (by omega) (by omega)]; exact decide_eq_false (by omega)
      have g_y : (FloatKind.f32.format.order y (addB (qs j) 981668463) == some .gt) = false := by
        have := qs_slack j hj
        rw [gt_amt (by omega) (by omega)]; exact decide_eq_false (by omega)
      have l_x : (FloatKind.f32.format.order x 3129152111 == some .lt) = false := by
        have h9 : FloatKind.f32.format.order x 3129152111 = some .gt := order_over (r := 981668463) (by omega) (by omega) (Nat.le_of_lt hxi)
        rw [h9]; rfl
      have l_y : (FloatKind.f32.format.order y 3129152111 == some .lt) = false := by
        have h9 : FloatKind.f32.format.order y 3129152111 = some .gt := order_over (r := 981668463) (by omega) (by omega) (Nat.le_of_lt hyi)
        rw [h9]; rfl
      have m_z := fun ts t w => run_min_amt (P := Try.prog) w ts t (Nat.le_of_lt hai) (Nat.le_of_lt A3)
      have hzl : min (addB (qs i) (qs j)) (qs k) < 2139095040 := Nat.lt_of_le_of_lt (Nat.min_le_right _ _) A3
      rw [hadd] at s_xy
      generalize min (addB (qs i) (qs j)) (qs k) = z at s_xy m_z hzl
      have K3 := fun w => f6near_any z z hzl hzl w
      rw [near_self hzl] at K3
      clear hzl hadd hai
      go_wp2_with fail
      refine (K3 _).mono ?_
      rintro e w11 ⟨rfl, rfl⟩
      clear K3 n_x n_y s_a s_b s_ab s_xy g_x g_y l_x l_y m_z A2 A3 A4 hxa hyb hxi hyi
      have hx0 := h0.step B10.out (Nat.le_refl _)
      go_wp2_with fail
      refine (P6Junction_e a0 c0 x0 _ hx0).mono ?_
      rintro e w12 ⟨M, C, tt, ps, rfl, htl, hpl, hT, hb12⟩
      have B12 := Lib.hid (bthen B10.out hb12)
      have HT := Lib.hid hT
      clear hx0 hb12 B10 hT
      have hjs : (jn (M : Int) (C : Int) tt ps).size = 22 := jn_size htl hpl _ _
      have J0 := At.new w12 (#[.int .i64 0, .int .i64 0, .float .f32 0, .float .f32 0, .float .f32 0, .float .f32 0, .float .f32 0, .float .f32 0, .float .f32 0, .float .f32 0, .float .f32 0, .float .f32 0, .float .f32 0, .float .f32 0, .float .f32 0, .float .f32 0, .float .f32 0, .float .f32 0, .float .f32 0, .float .f32 0, .float .f32 0, .float .f32 0]) 34
      have J1 := J0.setRow (jn (M : Int) (C : Int) tt ps)
      have BN : Below w12.heap.size w12 ((w12.alloc (.cells (#[.int .i64 0, .int .i64 0, .float .f32 0, .float .f32 0, .float .f32 0, .float .f32 0, .float .f32 0, .float .f32 0, .float .f32 0, .float .f32 0, .float .f32 0, .float .f32 0, .float .f32 0, .float .f32 0, .float .f32 0, .float .f32 0, .float .f32 0, .float .f32 0, .float .f32 0, .float .f32 0, .float .f32 0, .float .f32 0]) 34)).setRow w12.heap.size (jn (M : Int) (C : Int) tt ps)) := bset (b0 _ _) (Nat.le_refl _) _
      have B13 := Lib.hid (bthen B12.out BN)
      clear BN B12
      obtain ⟨us, hus⟩ : ∃ us, us = row4 tt 0 := ⟨_, rfl⟩
      have hul : us.length = 4 := by rw [hus]; exact row4_len htl (by omega)
      have HU := Lib.hid (fun k (hk : k < 4) => show Q16 16 (nth us k) from by rw [hus, row4_nth htl 0 hk]; exact (by simpa using HT.out k hk))
      have hjr : (jn (M : Int) (C : Int) tt ps).extract 2 (2 + 4) = fl us := by rw [hus]; exact jn_row htl hpl _ _ (k := 0) (by omega) rfl
      have HJR := Lib.hid hjr
      clear hus HT hjr
      have hus4 : (fl us).size = 4 := by rw [fl_size, hul]
      have hw13 : ((w12.alloc (.cells (#[.int .i64 0, .int .i64 0, .float .f32 0, .float .f32 0, .float .f32 0, .float .f32 0, .float .f32 0, .float .f32 0, .float .f32 0, .float .f32 0, .float .f32 0, .float .f32 0, .float .f32 0, .float .f32 0, .float .f32 0, .float .f32 0, .float .f32 0, .float .f32 0, .float .f32 0, .float .f32 0, .float .f32 0, .float .f32 0]) 34)).setRow w12.heap.size (jn (M : Int) (C : Int) tt ps)).heap.size = w12.heap.size + 1 := by simp
      have U0 := At.new ((w12.alloc (.cells (#[.int .i64 0, .int .i64 0, .float .f32 0, .float .f32 0, .float .f32 0, .float .f32 0, .float .f32 0, .float .f32 0, .float .f32 0, .float .f32 0, .float .f32 0, .float .f32 0, .float .f32 0, .float .f32 0, .float .f32 0, .float .f32 0, .float .f32 0, .float .f32 0, .float .f32 0, .float .f32 0, .float .f32 0, .float .f32 0]) 34)).setRow w12.heap.size (jn (M : Int) (C : Int) tt ps)) (#[.float .f32 0, .float .f32 0, .float .f32 0, .float .f32 0]) 32
      have U1 := U0.setRow (fl us)
      have BN : Below ((w12.alloc (.cells (#[.int .i64 0, .int .i64 0, .float .f32 0, .float .f32 0, .float .f32 0, .float .f32 0, .float .f32 0, .float .f32 0, .float .f32 0, .float .f32 0, .float .f32 0, .float .f32 0, .float .f32 0, .float .f32 0, .float .f32 0, .float .f32 0, .float .f32 0, .float .f32 0, .float .f32 0, .float .f32 0, .float .f32 0, .float .f32 0]) 34)).setRow w12.heap.size (jn (M : Int) (C : Int) tt ps)).heap.size ((w12.alloc (.cells (#[.int .i64 0, .int .i64 0, .float .f32 0, .float .f32 0, .float .f32 0, .float .f32 0, .float .f32 0, .float .f32 0, .float .f32 0, .float .f32 0, .float .f32 0, .float .f32 0, .float .f32 0, .float .f32 0, .float .f32 0, .float .f32 0, .float .f32 0, .float .f32 0, .float .f32 0, .float .f32 0, .float .f32 0, .float .f32 0]) 34)).setRow w12.heap.size (jn (M : Int) (C : Int) tt ps)) ((((w12.alloc (.cells (#[.int .i64 0, .int .i64 0, .float .f32 0, .float .f32 0, .float .f32 0, .float .f32 0, .float .f32 0, .float .f32 0, .float .f32 0, .float .f32 0, .float .f32 0, .float .f32 0, .float .f32 0, .float .f32 0, .float .f32 0, .float .f32 0, .float .f32 0, .float .f32 0, .float .f32 0, .float .f32 0, .float .f32 0, .float .f32 0]) 34)).setRow w12.heap.size (jn (M : Int) (C : Int) tt ps)).alloc (.cells (#[.float .f32 0, .float .f32 0, .float .f32 0, .float .f32 0]) 32)).setRow ((w12.alloc (.cells (#[.int .i64 0, .int .i64 0, .float .f32 0, .float .f32 0, .float .f32 0, .float .f32 0, .float .f32 0, .float .f32 0, .float .f32 0, .float .f32 0, .float .f32 0, .float .f32 0, .float .f32 0, .float .f32 0, .float .f32 0, .float .f32 0, .float .f32 0, .float .f32 0, .float .f32 0, .float .f32 0, .float .f32 0, .float .f32 0]) 34)).setRow w12.heap.size (jn (M : Int) (C : Int) tt ps)).heap.size (fl us)) := bset (b0 _ _) (Nat.le_refl _) _
      have B14 := Lib.hid (bthen B13.out BN)
      clear BN B13
      rw [hw13] at U0 U1 B14
      clear hw13
      go_wp2_with (first
        | ((with_reducible refine is_load 29 _ rfl ?_); refine wpList_load_part rfl 29 _ rfl _ 2 rfl (jn (M : Int) (C : Int) tt ps) _ J1 4 (by rw [hjs]; omega) _ Try.underlying29 rfl (by kernel_rfl) (fl us) HJR.out ?_)
        | ((with_reducible refine is_store 34 _ _ rfl ?_); refine wpList_store_at rfl 34 _ _ rfl _ rfl (jn (M : Int) (C : Int) tt ps) rfl (#[.int .i64 0, .int .i64 0, .float .f32 0, .float .f32 0, .float .f32 0, .float .f32 0, .float .f32 0, .float .f32 0, .float .f32 0, .float .f32 0, .float .f32 0, .float .f32 0, .float .f32 0, .float .f32 0, .float .f32 0, .float .f32 0, .float .f32 0, .float .f32 0, .float .f32 0, .float .f32 0, .float .f32 0, .float .f32 0]) _ J0 22 (hjs) (rfl) (by kernel_rfl) (jn_one _ _ _ _) ?_)
        | ((with_reducible refine is_store 32 _ _ rfl ?_); refine wpList_store_at rfl 32 _ _ rfl _ rfl (fl us) rfl (#[.float .f32 0, .float .f32 0, .float .f32 0, .float .f32 0]) _ U0 4 (hus4) (rfl) (by kernel_rfl) (fl_one _) ?_))
      clear U0 J0 J1 hjs
      generalize World.setRow _ (w12.heap.size + 1) _ = w14 at U1 B14 ⊢
      obtain ⟨gu, hgu⟩ : ∃ gu, gu = w12.heap.size + 1 := ⟨_, rfl⟩
      rw [← hgu] at U1 ⊢
      clear hgu
      have hx1 := h1.step B14.out (Nat.le_refl _)
      go_wp2_with fail
      refine (P6Four_e a1 c1 x1 _ hx1).mono ?_
      rintro e w15 ⟨ts, rfl, hsl, hS, hb15⟩
      have HS := Lib.hid hS
      have U15 := U1.step hb15
      have B15 := Lib.hid (bthen B14.out hb15)
      clear hx1 hb15 U1 B14 hS
      have hts4 : (fl ts).size = 4 := by rw [fl_size, hsl]
      have X0 := At.new w15 (#[.float .f32 0, .float .f32 0, .float .f32 0, .float .f32 0]) 32
      have X1 := X0.setRow (fl ts)
      have BN : Below w15.heap.size w15 ((w15.alloc (.cells (#[.float .f32 0, .float .f32 0, .float .f32 0, .float .f32 0]) 32)).setRow w15.heap.size (fl ts)) := bset (b0 _ _) (Nat.le_refl _) _
      have U16 := U15.step BN
      have B16 := Lib.hid (bthen B15.out BN)
      clear BN B15 U15
      obtain ⟨hvs, hway⟩ := split_good (us := us) (ts := ts) hi (fun k hk => HU.out k hk) (fun k _ => HS.out k)
      have hcu : ∀ x ∈ us, x < 4294967296 := all4 hul fun k hk => by
        obtain ⟨a, ha, e⟩ := HU.out k hk
        rw [e]; have := qs_lt a (by omega); omega
      have hcs : ∀ x ∈ ts, x < 4294967296 := all4 hsl fun k _ => by
        obtain ⟨a, ha, e⟩ := HS.out k
        rw [e]; have := qs_lt a (by omega); omega
      have K1 := fun w => SplitOne_b (qs i) (by omega) ts hsl hcs us hul hcu w
      have K2 := fun w => sSplitOne_b (qs i) (by omega) ts hsl hcs us hul hcu w
      rw [hvs] at K1 K2
      dsimp only at K1 K2
      have hml := hway.le
      have HW := Lib.hid hway
      clear hway hvs hcu hcs
      generalize splW ts us (qs i) 4 = m at K1 K2 hml HW
      go_wp2_with (first
        | ((with_reducible refine is_store 32 _ _ rfl ?_); refine wpList_store_at rfl 32 _ _ rfl _ rfl (fl ts) rfl (#[.float .f32 0, .float .f32 0, .float .f32 0, .float .f32 0]) _ X0 4 (hts4) (rfl) (by kernel_rfl) (fl_one _) ?_)
        | ((with_reducible refine is_load 32 _ rfl ?_); refine wpList_load_at rfl 32 _ rfl _ rfl (fl ts) _ X1 4 (hts4) _ Try.underlying32 rfl (by kernel_rfl) ?_)
        | ((with_reducible refine is_load 32 _ rfl ?_); refine wpList_load_at rfl 32 _ rfl _ rfl (fl us) _ U16 4 (hus4) _ Try.underlying32 rfl (by kernel_rfl) ?_))
      clear X0
      generalize World.setRow _ w15.heap.size _ = w16 at X1 U16 B16 ⊢
      obtain ⟨gx, hgx⟩ : ∃ gx, gx = w15.heap.size := ⟨_, rfl⟩
      rw [← hgx] at X1 ⊢
      clear hgx
      refine (K1 _).mono ?_
      rintro e w17 ⟨rfl, hb17⟩
      have X17 := X1.step hb17
      have U17 := U16.step hb17
      have B17 := Lib.hid (bthen B16.out hb17)
      clear hb17 X1 U16 B16 K1
      go_wp2_with (first
        | ((with_reducible refine is_load 32 _ rfl ?_); refine wpList_load_at rfl 32 _ rfl _ rfl (fl ts) _ X17 4 (hts4) _ Try.underlying32 rfl (by kernel_rfl) ?_)
        | ((with_reducible refine is_load 32 _ rfl ?_); refine wpList_load_at rfl 32 _ rfl _ rfl (fl us) _ U17 4 (hus4) _ Try.underlying32 rfl (by kernel_rfl) ?_))
      refine (K2 _).mono ?_
      rintro e w18 ⟨rfl, hb18⟩
      have X18 := X17.step hb18
      have U18 := U17.step hb18
      have B18 := Lib.hid (bthen B17.out hb18)
      clear hb18 X17 U17 B17 K2
      have n_m : (FloatKind.f32.format.order m m != some .eq) = false := by rw [ne_amt (by omega) (by omega)]; simp
      have g_m : (FloatKind.f32.format.order m (qs i) == some .gt) = false := by rw [gt_amt (by omega) (by omega)]; exact decide_eq_false (by omega)
      have l_m : (FloatKind.f32.format.order m 0 == some .lt) = false := by rw [lt_amt (by omega) (by omega)]; exact decide_eq_false (by omega)
      have e_m : (FloatKind.f32.format.order m (qs i) == some .eq) = tgB m (qs i) us ts 0 := eq_amt (by omega) (by omega)
      have hm5 : m < 2139095040 := by omega
      go_wp2_with fail
      clear n_m g_m l_m e_m
      go_loopw [23, 22] (fun kv tv wr => ∃ k : Nat, k ≤ 4 ∧ kv = .int .i64 (k : Int) ∧ tv = .bool (tgB m (qs i) us ts k) ∧ At wr gu (fl us) 32 ∧ At wr gx (fl ts) 32 ∧ Hid (Below w2.heap.size w2 wr)) (fun kv _ _ => 4 - (intOf kv).toNat)
      case atStart => exact ⟨0, by omega, rfl, rfl, U18, X18, B18⟩
      case round =>
        clear U18 X18 B18
        obtain ⟨k, hk4, rfl, rfl, U1, X1, B1⟩ := hrel
        by_cases hlt : k < 4
        · have s2 : IntKind.i64.wrap ((k : Int) + 1) = (k : Int) + 1 := IntWalk.i64_in _ (by omega)
          have kd : (k : Int) < 4 := by omega
          obtain ⟨a, ha, ea⟩ := HU.out k hlt
          obtain ⟨b, hb, eb⟩ := HS.out k
          have hu := qs_lt a (by omega)
          have ht := qs_lt b (by omega)
          have hsk := qs_slack b (by omega)
          rw [← ea] at hu
          rw [← eb] at ht hsk
          have dx := fl_get (xs := ts) (k := k) (by omega)
          have dy := fl_get (xs := us) (k := k) (by omega)
          have cx := X1.cell dx
          have cy := U1.cell dy
          have hg := gt_amt (x := nth us k) (y := 0) (by omega) (by omega)
          by_cases hz : 0 < nth us k
          · have hfit := HW.out.fit k hlt hz
            have s_m := fun t w => run_float_arith (P := Try.prog) w .mul t .f32 _ _ _ (mul_eq hm5 hu).1
            have s_t := fun t w => run_float_arith (P := Try.prog) w .add t .f32 _ _ _ (add_any (Nat.le_of_lt ht) (show 981668463 ≤ 2139095040 by omega)).1
            have hg2 : (FloatKind.f32.format.order (mulB m (nth us k)) (addB (nth ts k) 981668463) == some .gt) = false := by
              rw [gt_amt (by omega) (by omega)]; exact decide_eq_false (by omega)
            have K3 := fun w => f6near_any (mulB m (nth us k)) (nth ts k) (by omega) ht w
            have htg : Hid (tgB m (qs i) us ts (k + 1) = (tgB m (qs i) us ts k || nearB (mulB m (nth us k)) (nth ts k))) := Lib.hid (by
              rw [show tgB m (qs i) us ts (k + 1) = (tgB m (qs i) us ts k || (decide (0 < nth us k) && nearB (mulB m (nth us k)) (nth ts k))) from rfl, decide_eq_true hz, Bool.true_and])
            rw [decide_eq_true hz] at hg
            clear hz ea eb hu ht hsk hfit
            generalize nearB (mulB m (nth us k)) (nth ts k) = nb at K3 htg
            generalize tgB m (qs i) us ts k = tb at htg ⊢
            go_wp2_with fail
            have hC5 := Cb.const wr
            refine wp_region_cb (by kernel_rfl) (by kernel_rfl) ?_
            repeat (first
              | go_big_quiet_skip
              | (go_big_quiet_want; first
                | (refine q_cell 24 _ rfl _ Try.underlying24 _ rfl X1 _ (by assumption) ?_; go_simp; go_big_quiet_on)
                | (refine q_cell 24 _ rfl _ Try.underlying24 _ rfl U1 _ (by assumption) ?_; go_simp; go_big_quiet_on)
                | (go_big_quiet_op; go_big_quiet_on)))
            refine wpQuiet_nil ?_
            intro w5 hw5
            have X5 := X1.step hw5
            have U5 := U1.step hw5
            have B5 := Lib.hid (bthen B1.out hw5)
            clear hw5 X1 U1 B1 hC5
            have cx := X5.cell dx
            have cy := U5.cell dy
            go_wp2_with fail
            cases tb
            · have hC6 := Cb.const w5
              refine wp_region_cb (by kernel_rfl) (by kernel_rfl) ?_
              repeat (first
                | go_big_quiet_skip
                | (go_big_quiet_want; first
                  | (refine q_cell 24 _ rfl _ Try.underlying24 _ rfl X5 _ (by assumption) ?_; go_simp; go_big_quiet_on)
                  | (refine q_cell 24 _ rfl _ Try.underlying24 _ rfl U5 _ (by assumption) ?_; go_simp; go_big_quiet_on)
                  | (go_big_quiet_op; go_big_quiet_on)
                  | (go_big_quiet_op; apply Exists.intro; refine ⟨fun w' hw' => ?_, ?_⟩; (go_at_call 8; exact (K3 _).mono fun _ _ h => ⟨h.1, hw'.step (by rw [h.2]; exact Below.refl _ _)⟩); go_big_quiet_on)))
              refine wpQuiet_nil ?_
              intro w6 hw6
              have X6 := X5.step hw6
              have U6 := U5.step hw6
              have B6 := Lib.hid (bthen B5.out hw6)
              clear hw6 X5 U5 B5 hC6
              go_wp2_with fail
              exact ⟨⟨k + 1, by omega, by go_num, by rw [htg.out]; rfl, U6, X6, B6⟩, by simp [intOf]; omega⟩
            · have hC6 := Cb.const w5
              refine wp_region_cb (by kernel_rfl) (by kernel_rfl) ?_
              repeat (first
                | go_big_quiet_skip
                | (go_big_quiet_want; first
                  | (refine q_cell 24 _ rfl _ Try.underlying24 _ rfl X5 _ (by assumption) ?_; go_simp; go_big_quiet_on)
                  | (refine q_cell 24 _ rfl _ Try.underlying24 _ rfl U5 _ (by assumption) ?_; go_simp; go_big_quiet_on)
                  | (go_big_quiet_op; go_big_quiet_on)))
              refine wpQuiet_nil ?_
              intro w6 hw6
              have X6 := X5.step hw6
              have U6 := U5.step hw6
              have B6 := Lib.hid (bthen B5.out hw6)
              clear hw6 X5 U5 B5 hC6
              go_wp2_with fail
              exact ⟨⟨k + 1, by omega, by go_num, by rw [htg.out]; rfl, U6, X6, B6⟩, by simp [intOf]; omega⟩
          · have htg : Hid (tgB m (qs i) us ts (k + 1) = tgB m (qs i) us ts k) := Lib.hid (by
              rw [show tgB m (qs i) us ts (k + 1) = (tgB m (qs i) us ts k || (decide (0 < nth us k) && nearB (mulB m (nth us k)) (nth ts k))) from rfl, decide_eq_false hz, Bool.false_and, Bool.or_false])
            rw [decide_eq_false hz] at hg
            clear hz ea eb hu ht hsk
            generalize tgB m (qs i) us ts k = tb at htg ⊢
            go_wp2_with fail
            have hC5 := Cb.const wr
            refine wp_region_cb (by kernel_rfl) (by kernel_rfl) ?_
            repeat (first
              | go_big_quiet_skip
              | (go_big_quiet_want; first
                | (refine q_cell 24 _ rfl _ Try.underlying24 _ rfl X1 _ (by assumption) ?_; go_simp; go_big_quiet_on)
                | (refine q_cell 24 _ rfl _ Try.underlying24 _ rfl U1 _ (by assumption) ?_; go_simp; go_big_quiet_on)
                | (go_big_quiet_op; go_big_quiet_on)))
            refine wpQuiet_nil ?_
            intro w5 hw5
            have X5 := X1.step hw5
            have U5 := U1.step hw5
            have B5 := Lib.hid (bthen B1.out hw5)
            clear hw5 X1 U1 B1 hC5
            have cx := X5.cell dx
            have cy := U5.cell dy
            go_wp2_with fail
            cases tb
            · have hC6 := Cb.const w5
              refine wp_region_cb (by kernel_rfl) (by kernel_rfl) ?_
              repeat (first
                | go_big_quiet_skip
                | (go_big_quiet_want; first
                  | (refine q_cell 24 _ rfl _ Try.underlying24 _ rfl X5 _ (by assumption) ?_; go_simp; go_big_quiet_on)
                  | (refine q_cell 24 _ rfl _ Try.underlying24 _ rfl U5 _ (by assumption) ?_; go_simp; go_big_quiet_on)
                  | (go_big_quiet_op; go_big_quiet_on)))
              refine wpQuiet_nil ?_
              intro w6 hw6
              have X6 := X5.step hw6
              have U6 := U5.step hw6
              have B6 := Lib.hid (bthen B5.out hw6)
              clear hw6 X5 U5 B5 hC6
              go_wp2_with fail
              exact ⟨⟨k + 1, by omega, by go_num, by rw [htg.out], U6, X6, B6⟩, by simp [intOf]; omega⟩
            · have hC6 := Cb.const w5
              refine wp_region_cb (by kernel_rfl) (by kernel_rfl) ?_
              repeat (first
                | go_big_quiet_skip
                | (go_big_quiet_want; first
                  | (refine q_cell 24 _ rfl _ Try.underlying24 _ rfl X5 _ (by assumption) ?_; go_simp; go_big_quiet_on)
                  | (refine q_cell 24 _ rfl _ Try.underlying24 _ rfl U5 _ (by assumption) ?_; go_simp; go_big_quiet_on)
                  | (go_big_quiet_op; go_big_quiet_on)))
              refine wpQuiet_nil ?_
              intro w6 hw6
              have X6 := X5.step hw6
              have U6 := U5.step hw6
              have B6 := Lib.hid (bthen B5.out hw6)
              clear hw6 X5 U5 B5 hC6
              go_wp2_with fail
              exact ⟨⟨k + 1, by omega, by go_num, by rw [htg.out], U6, X6, B6⟩, by simp [intOf]; omega⟩
        · obtain rfl : k = 4 := by omega
          have htt := HW.out.tight
          rw [htt]
          go_wp2_with fail
          go_ret
          exact ⟨rfl, B1.out⟩
set_option maxRecDepth 100000 in
theorem lifted (os : Os) (started : os.Started) (H : Type) (enc : TypeId × Value → H) :
    ReturnsInHanded {} Try.checked os 3 .any (Rows.fnMergedSpec.pre6 enc Try.prog Try.f3 Rows.fnMergedRow.domain false) (Rows.fnMergedSpec.post enc Try.prog Try.f3 false true false false) := by
  refine law_liftedS enc os started (by kernel_rfl) Try.func3
    (ChangeSpec.witness6 (enc := enc) (C := Try.checked) false ⟨#[], #[.slice none 0 0, .slice none 0 0], []⟩ 24 (by kernel_rfl) (by kernel_rfl) (by kernel_rfl) (by kernel_rfl)) rfl (by kernel_rfl) ?_ ?_ ?_
  · rw [Try.params3]
    intro t ht
    have hall : (#[22, 22].toList.all fun u => Try.prog.readableRec u && decide (u < Try.prog.types.size)) = true := by kernel_rfl
    have := List.all_eq_true.1 hall t ht
    simpa using this
  · intro ds h
    rw [Try.params3] at h
    match ds, h with
    | [d0, d1], _ => rfl
  · intro W base args ds ps hl hval hA
    rw [Try.params3] at hl hval hA
    obtain ⟨v0, v1, rfl⟩ : ∃ v0 v1, args = #[v0, v1] := by
      obtain ⟨l⟩ := args
      match l, hl with
      | [v0, v1], _ => exact ⟨v0, v1, rfl⟩
    obtain ⟨vx0, vy0, dd0, de0, pp0, pq0, ee0, -, -, tr0, rr0⟩ := trodAll_cons hA
    obtain ⟨rfl, rfl⟩ := List.cons.inj ee0
    obtain ⟨vx1, vy1, dd1, de1, pp1, pq1, ee1, -, -, tr1, rr1⟩ := trodAll_cons rr0
    obtain ⟨rfl, rfl⟩ := List.cons.inj ee1
    obtain ⟨a0, c0, x0, rfl, h0, hz0⟩ := shape_bytesN Try.underlying22 Try.underlying5 (by kernel_rfl) (okWide_slice Try.underlying22 (hval 0 _ _ rfl rfl)) tr0
    obtain ⟨a1, c1, x1, rfl, h1, hz1⟩ := shape_bytesN Try.underlying22 Try.underlying5 (by kernel_rfl) (okWide_slice Try.underlying22 (hval 1 _ _ rfl rfl)) tr1
    exact walk W a0 c0 x0 h0 hz0 a1 c1 x1 h1 hz1

/-- THE STATEMENT -/
theorem proved : Rows.FnMergedSaid := by
  first
    | (refine OpenClaim.holds_of_wide 3 Try.f3 rfl rfl rfl rfl rfl rfl rfl ⟨rfl, rfl, rfl, rfl, rfl⟩ rfl rfl rfl rfl rfl (by kernel_rfl) Try.func3 (by kernel_rfl) (of_decide_eq_true (by kernel_rfl)) ?_ (fun os started H enc _ => lifted os started H enc))
    | (refine OpenClaim.holds_of_wide_leaving 3 Try.f3 rfl rfl rfl rfl rfl rfl rfl ⟨rfl, rfl, rfl, rfl, rfl⟩ rfl rfl rfl rfl rfl (by kernel_rfl) Try.func3 (by kernel_rfl) (of_decide_eq_true (by kernel_rfl)) ?_ (fun os started H enc _ => leaving_of_handed (lifted os started H enc)))
  unfold Func.isWrapper
  first | (rw [if_pos (by decide +kernel)]; kernel_rfl) | (rw [if_neg (by decide +kernel)]; exact ⟨rfl, rfl⟩)
#print axioms proved
end Go.Proofs.Ythljppdkplkohaa.lawFnMerged
