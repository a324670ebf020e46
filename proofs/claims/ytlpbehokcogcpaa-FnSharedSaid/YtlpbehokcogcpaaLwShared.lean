/-
  FnShared: shared green fills the cycle, gives each phase a tick at least, and no phase more ticks than one with a greater weight; the program's answer is the model's. No condition.
-/
import Derived.Test.YtlpbehokcogcpaaG9
import Derived.Test.YtlpbehokcogcpaaG6
import Derived.Test.YtlpbehokcogcpaaG7
import Derived.Test.YtlpbehokcogcpaaIfc
namespace Go.Proofs.Ytlpbehokcogcpaa.lawFnShared
open Go Go.ChangeShapes Go.WideShapes Go.ChangeAt Go.RowKit


theorem f6big_any (a : Option Addr) (n c : Nat) (hn : n ≤ maxLen) (w : World) : Calls Try.prog 15 #[.slice a n c] w fun e w' => e = .returned (.bool (decide (4096 < n))) ∧ w' = w := by
  have hm : n ≤ 9223372036854775807 := Nat.le_trans hn (by decide)
  by_cases h : 4096 < n
  · have h1 : (n : Int) > 4096 := by omega
    rw [decide_eq_true h]
    go_enter Try.func15, Try.ntmps15
    go_wp2
    go_ret
    exact ⟨rfl, rfl⟩
  · have h1 : ¬ (n : Int) > 4096 := by omega
    rw [decide_eq_false h]
    go_enter Try.func15, Try.ntmps15
    go_wp2
    go_ret
    exact ⟨rfl, rfl⟩
set_option maxRecDepth 100000
set_option maxHeartbeats 8000000 in
theorem walk (w : World) (a0 : Option Addr) (c0 : Nat) (x0 : List Nat) (h0 : BSl w a0 x0) (hz0 : a0 = none → c0 = 0) (a1 : Option Addr) (c1 : Nat) (x1 : List Nat) (h1 : BSl w a1 x1) (hz1 : a1 = none → c1 = 0) :
    Calls Try.prog 4 #[.slice a0 x0.length c0, .slice a1 x1.length c1] w (True? w) := by
  by_cases hb0 : 4096 < x0.length
  · go_enter Try.func4, Try.ntmps4
    go_wp2_with fail
    refine (f6big_any a0 x0.length c0 h0.len _).mono ?_
    rintro e w1 ⟨rfl, rfl⟩
    rw [decide_eq_true hb0]
    go_wp2_with fail
    go_ret
    exact ⟨rfl, Below.refl _ _⟩
  · by_cases hb1 : 4096 < x1.length
    · go_enter Try.func4, Try.ntmps4
      go_wp2_with fail
      refine (f6big_any a0 x0.length c0 h0.len _).mono ?_
      rintro e w1 ⟨rfl, rfl⟩
      rw [decide_eq_false hb0]
      go_wp2_with fail
      refine (f6big_any a1 x1.length c1 h1.len _).mono ?_
      rintro e w2 ⟨rfl, rfl⟩
      rw [decide_eq_true hb1]
      go_wp2_with fail
      go_ret
      exact ⟨rfl, Below.refl _ _⟩
    · skip
      go_enter Try.func4, Try.ntmps4
      go_wp2_with fail
      refine (f6big_any a0 x0.length c0 h0.len _).mono ?_
      rintro e w1 ⟨rfl, rfl⟩
      rw [decide_eq_false hb0]
      go_wp2_with fail
      refine (f6big_any a1 x1.length c1 h1.len _).mono ?_
      rintro e w2 ⟨rfl, rfl⟩
      rw [decide_eq_false hb1]
      have hl0 : x0.length ≤ 4096 := by omega
      have hl1 : x1.length ≤ 4096 := by omega
      obtain ⟨i2, hp0, hp1, hp2, hp3⟩ := info_phase
      obtain ⟨i0, hi, hq0, hq1, hq2⟩ := info_float
      clear hb0 hb1
      have P0 := OwnPh.empty (w := w2) (s := w2.heap.size) (lo := w2.heap.size) rfl (Nat.le_refl _)
      have D0 : At ((w2.alloc (.cells #[] 43)).alloc (.cells (#[.float .f32 0, .float .f32 0, .float .f32 0, .float .f32 0, .float .f32 0, .float .f32 0, .float .f32 0, .float .f32 0]) 24)) (w2.heap.size + 1) (#[.float .f32 0, .float .f32 0, .float .f32 0, .float .f32 0, .float .f32 0, .float .f32 0, .float .f32 0, .float .f32 0]) 24 := At.last1 w2 _ _ _
      have D1 := D0.setRow (fl (zeros 8))
      have P1 := (P0.step (b0 _ (.cells (#[.float .f32 0, .float .f32 0, .float .f32 0, .float .f32 0, .float .f32 0, .float .f32 0, .float .f32 0, .float .f32 0]) 24))).setRow_other (g := w2.heap.size + 1) (fun q hq => by have := (P0.block q hq).2; simp at this; omega) (fl (zeros 8))
      have B1 := Lib.hid (bset (bnew (b0 w2 (.cells #[] 43)) (.cells (#[.float .f32 0, .float .f32 0, .float .f32 0, .float .f32 0, .float .f32 0, .float .f32 0, .float .f32 0, .float .f32 0]) 24)) (g := w2.heap.size + 1) (by omega) (fl (zeros 8)))
      go_wp2_with (first
        | ((with_reducible refine is_bslice 31 0 _ rfl ?_); refine wpList_bslice rfl 31 0 _ rfl #[] (by simp) _ (run_noPh _) ?_)
        | ((with_reducible refine is_bld 24 _ rfl ?_); refine wpList_bld rfl 24 _ rfl #[] (by kernel_rfl) (fl (zeros 8)) (by kernel_rfl) ?_)
        | ((with_reducible refine is_store 24 _ _ rfl ?_); refine wpList_store_at rfl 24 _ _ rfl _ rfl (fl (zeros 8)) rfl (#[.float .f32 0, .float .f32 0, .float .f32 0, .float .f32 0, .float .f32 0, .float .f32 0, .float .f32 0, .float .f32 0]) _ (by with_reducible assumption) 8 (rfl) (rfl) (by kernel_rfl) (fl_one _) ?_))
      generalize World.setRow _ (w2.heap.size + 1) (fl (zeros 8)) = w3 at D1 P1 B1 ⊢
      clear P0 D0
      go_loopw [7] (fun i wr => ∃ (k : Nat) (ds : List Nat), k ≤ 8 ∧ i = .int .i64 (k : Int) ∧ ds.length = 8 ∧ Hid (∀ j, E8 (nth ds j)) ∧ At wr (w2.heap.size + 1) (fl ds) 24 ∧ OwnPh wr w2.heap.size (.slice (some ⟨w2.heap.size, 0, none⟩) 0 0) [] ∧ Hid (Below w2.heap.size w2 wr)) (fun i _ => 8 - (intOf i).toNat)
      case atStart => exact ⟨0, zeros 8, by omega, rfl, zeros_len 8, Lib.hid (fun j => ⟨0, by omega, by rw [e8_zero]; exact nth_zeros8 j⟩), D1, P1, B1⟩
      case round =>
        clear D1 P1 B1
        obtain ⟨k, ds, hk, rfl, hdl, hE, D1, P1, B1⟩ := hrel
        by_cases hlt : k < 8
        · have s2 : IntKind.i64.wrap ((k : Int) + 1) = (k : Int) + 1 := IntWalk.i64_in _ (by omega)
          have s3 : IntKind.u8.wrap (k : Int) = (k : Int) := IntWalk.u8_in _ (by omega)
          have kd : (k : Int) < 8 := by omega
          have hx1 := h1.step B1.out (Nat.le_refl _)
          go_wp2_with (first | ((with_reducible refine is_bslice 39 1 _ rfl ?_); refine wpList_bslice rfl 39 1 _ rfl #[(0, .int .u8 (k : Int))] (by kernel_rfl) _ (run_oneY _ _) ?_) | (at_builtin; go_loud (refine wpList_app_bytes rfl _ _ rfl a1 c1 x1 (hx1.step (b0 _ (.cells #[.int .u8 (k : Int)] 5)) (Nat.le_refl _)) hz1 hl1 k (by omega) wr.heap.size (At.new wr #[.int .u8 (k : Int)] 5) rfl rfl ?_)))
          intro ad' cp' w5 hB5 _ hb5
          have D5 := (D1.alloc (.cells #[.int .u8 (k : Int)] 5)).stepB hb5 D1.lt
          have P5 := (P1.step (b0 wr (.cells #[.int .u8 (k : Int)] 5))).keepB hb5 (fun q hq => (P1.block q hq).2)
          have B5 := Lib.hid ((bnew B1.out (.cells #[.int .u8 (k : Int)] 5)).trans (hb5.mono B1.out.size))
          clear D1 P1 B1 hx1 hb5
          go_wp2_with fail
          refine (P6Pick_e ad' cp' (k :: x1) 33 (by omega) (by omega) _ hB5).mono ?_
          rintro e w6 ⟨m, rfl, hm, hb6⟩
          have D6 := D5.step hb6
          have P6 := P5.step hb6
          have B6 := Lib.hid (bthen B5.out hb6)
          clear D5 P5 B5 hB5 hb6
          have f1 := floatOfInt_nat m
          have hq := fun t w => run_float_arith (P := Try.prog) w .quo t .f32 _ _ _ (e8_op (a := m) (by omega))
          have D7 := D6.setRow (fl (ds.set k (e8 m)))
          have P7 := P6.setRow_other (g := w2.heap.size + 1) (fun q hq => P6.ne D6 q hq) (fl (ds.set k (e8 m)))
          have B7 := Lib.hid (bset B6.out (g := w2.heap.size + 1) (by omega) (fl (ds.set k (e8 m))))
          have hE2 := Lib.hid (fun j => show E8 (nth (ds.set k (e8 m)) j) from by
            rw [nth_setN (by omega)]
            by_cases c : k = j
            · rw [if_pos c]; exact ⟨m, by omega, rfl⟩
            · rw [if_neg c]; exact hE.out j)
          have hfs : (fl ds).size = 8 := by rw [fl_size, hdl]
          go_wp2_with (((with_reducible refine is_store 23 _ _ rfl ?_); refine wpList_store_cell rfl 23 _ _ rfl _ k rfl (.float .f32 (e8 m)) rfl (fl ds) _ (by with_reducible assumption) (by rw [hfs]; omega) (by kernel_rfl) rfl (fl (ds.set k (e8 m))) (fl_set _ _ _) ?_))
          exact ⟨⟨k + 1, ds.set k (e8 m), by omega, by go_num, by rw [List.length_set]; exact hdl, hE2, D7, P7, B7⟩, by simp [intOf]; omega⟩
        · obtain rfl : k = 8 := by omega
          rw [show ((8 : Nat) : Int) = 8 from rfl]
          have hd8 := fun j => E8.lt (hE.out j)
          go_wp2_with fail
          go_loopw [5, 8] (fun v i wr => ∃ (k : Nat) (ps : List P8), k ≤ 4 ∧ ps.length = k ∧ i = .int .i64 (k : Int) ∧ OwnPh wr w2.heap.size v ps ∧ At wr (w2.heap.size + 1) (fl ds) 24 ∧ Hid (Below w2.heap.size w2 wr)) (fun _ i _ => 4 - (intOf i).toNat)
          case atStart => exact ⟨0, [], by omega, rfl, rfl, P1, D1, B1⟩
          case round =>
            clear P1 D1 B1
            obtain ⟨k, ps, hk, hpl, rfl, P1, D1, B1⟩ := hrel
            obtain ⟨va, vc, hvv⟩ := P1.any
            rw [hpl] at hvv
            subst hvv
            have HPL := Lib.hid hpl
            have hp4 : ps.length ≤ 4 := by omega
            clear hpl
            have hx0 := h0.step B1.out (Nat.le_refl _)
            go_wp2_with fail
            refine (P6Pick_e a0 c0 x0 4 (by omega) (by omega) _ hx0).mono ?_
            rintro e w5 ⟨m, rfl, hm, hb5⟩
            have P5 := P1.step hb5
            have D5 := D1.step hb5
            have B5 := Lib.hid (bthen B1.out hb5)
            clear P1 D1 B1 hb5
            clear hx0
            have s1 : IntKind.i64.wrap (1 + (m : Int)) = 1 + (m : Int) := IntWalk.i64_in _ (by omega)
            by_cases hlt : (k : Int) < 1 + (m : Int)
            · have s2 : IntKind.i64.wrap ((k : Int) + 1) = (k : Int) + 1 := IntWalk.i64_in _ (by omega)
              have s3 : IntKind.u8.wrap (k : Int) = (k : Int) := IntWalk.u8_in _ (by omega)
              have hx0 := h0.step B5.out (Nat.le_refl _)
              go_wp2_with (first | ((with_reducible refine is_bslice 39 1 _ rfl ?_); refine wpList_bslice rfl 39 1 _ rfl #[(0, .int .u8 (k : Int))] (by kernel_rfl) _ (run_oneY _ _) ?_) | (at_builtin; go_loud (refine wpList_app_bytes rfl _ _ rfl a0 c0 x0 (hx0.step (b0 _ (.cells #[.int .u8 (k : Int)] 5)) (Nat.le_refl _)) hz0 hl0 k (by omega) w5.heap.size (At.new w5 #[.int .u8 (k : Int)] 5) rfl rfl ?_)))
              intro ad' cp' w6 hB6 _ hb6
              have D6 := (D5.alloc (.cells #[.int .u8 (k : Int)] 5)).stepB hb6 D5.lt
              have P6 := (P5.step (b0 w5 (.cells #[.int .u8 (k : Int)] 5))).keepB hb6 (fun q hq => (P5.block q hq).2)
              have B6 := Lib.hid ((bnew B5.out (.cells #[.int .u8 (k : Int)] 5)).trans (hb6.mono B5.out.size))
              clear D5 P5 B5 hx0 hb6
              go_wp2_with fail
              refine (P6Phase_e ad' cp' (k :: x0) _ hB6).mono ?_
              rintro e w7 ⟨b, rfl, hb8, hb7⟩
              have P7 := P6.step hb7
              have D7 := D6.step hb7
              have B7 := Lib.hid (bthen B6.out hb7)
              clear P6 D6 B6 hb7
              clear hB6
              have hsz7 := B7.out.size
              go_wp2_with (first | ((with_reducible refine is_bslice 31 1 _ rfl ?_); refine wpList_bslice rfl 31 1 _ rfl #[(0, .agg (bl b))] (by kernel_rfl) _ (run_onePh _ b hb8) ?_) | (at_builtin; go_loud (refine wpList_append_own _ rfl _ _ 31 rfl w2.heap.size 43 i2 (.agg #[.bool false, .bool false, .bool false, .bool false, .bool false, .bool false, .bool false, .bool false]) 8 8 Try.underlying31 hp0 hp1 hp2 hp3 rfl (by decide) _ ps.length _ rfl (P7.step (b0 _ _)) ⟨w7.heap.size, 0, none⟩ 1 1 (f8 ⟨b, hb8⟩).toList rfl (by rw [Array.length_toList, f8_size]) (one_cellsPh w7 ⟨b, hb8⟩) (f8_ones _) (by unfold maxLen; omega) (by omega) (by rw [World.size_alloc]; omega) ?_)))
              intro v' w8 hown hgrow _
              have P8 : OwnPh w8 w2.heap.size v' (ps ++ [⟨b, hb8⟩]) := OwnPh.grown hown
              have D8 := (D7.alloc (.cells (bl b) 43)).keepF hgrow (fun q hq => P7.ne D7 q hq)
              have B8 := Lib.hid ((bnew B7.out (.cells (bl b) 43)).trans (Below.grownBy hgrow (by rw [World.size_alloc]; omega) (fun q hq => (P7.block q hq).1)))
              clear P7 D7 B7 hown hgrow
              go_wp2_with fail
              exact ⟨⟨k + 1, _, by omega, by rw [List.length_append, HPL.out]; rfl, by go_num, P8, D8, B8⟩, by simp [intOf]; omega⟩
            · have hn1 : 1 ≤ k := by omega
              clear s1
              go_wp2_with fail
              clear hlt hm hp4
              obtain ⟨G, cap, yz, hv, hG, A5⟩ := P5.atY (by rw [HPL.out]; omega)
              rw [HPL.out] at hv
              obtain ⟨rfl, rfl⟩ : va = some ⟨G, 0, none⟩ ∧ vc = cap := by simpa using hv
              have HN := Lib.hid HPL.out.symm
              have hn4 := hk
              clear hv P5 HPL hk
              generalize k = n at *
              have hx1 := h1.step B5.out (Nat.le_refl _)
              refine (P6Pick_e a1 c1 x1 3 (by omega) (by omega) _ hx1).mono ?_
              rintro e w6 ⟨m3, rfl, hm3, hb6⟩
              have A6 := A5.step hb6
              have D6 := D5.step hb6
              have B6 := Lib.hid (bthen B5.out hb6)
              clear A5 D5 B5 hb6
              clear hx1
              obtain ⟨bt, hbt⟩ : ∃ bt : Int, bt = (m3 : Int) := ⟨_, rfl⟩
              rw [← hbt]
              have hb240 : 0 ≤ bt ∧ bt ≤ 2 := by omega
              clear hbt hm3
              have hm := g_mul (n := n) (bt := bt) (by omega) hb240.1 (by omega)
              have hm2 : (n : Int) * (1 + bt) ≤ 4 * 3 := Int.mul_le_mul (by omega) (by omega) (by omega) (by omega)
              have s11 : IntKind.i64.wrap (1 + bt) = 1 + bt := IntWalk.i64_in _ (by omega)
              have s12 : IntKind.i64.wrap ((n : Int) * (1 + bt)) = (n : Int) * (1 + bt) := IntWalk.i64_in _ (by omega)
              have hx0 := h0.step B6.out (Nat.le_refl _)
              go_wp2_with fail
              refine (P6Pick_e a0 c0 x0 50 (by omega) (by omega) _ hx0).mono ?_
              rintro e w7 ⟨q, rfl, hq, hb7⟩
              have A7 := A6.step hb7
              have D7 := D6.step hb7
              have B7 := Lib.hid (bthen B6.out hb7)
              clear A6 D6 B6 hb7
              clear hx0
              obtain ⟨cy, hcy⟩ : ∃ cy : Int, cy = (n : Int) * (1 + bt) + (q : Int) := ⟨_, rfl⟩
              have s13 : IntKind.i64.wrap ((n : Int) * (1 + bt) + (q : Int)) = cy := by rw [hcy]; exact IntWalk.i64_in _ (by omega)
              have hds : ds.all amtB = true := all_amts hd8
              have hdx : ∀ x ∈ ds, x < 4294967296 := fun x hx => by
                have := List.all_eq_true.1 hds x hx
                unfold amtB at this
                have := of_decide_eq_true this
                omega
              have hgk : gOk ps.length ds cy bt := by rw [← HN.out]; exact ⟨hn1, by omega, hds, hb240.1, by omega, by omega, by omega⟩
              have hn0 : ps.length ≠ 0 := by rw [← HN.out]; omega
              have hv := vShg_yes hgk
              have hq' : (cy - (ps.length : Int) * (1 + bt)).toNat = q := by rw [← HN.out]; omega
              rw [hq'] at hv
              have hok := shr_ok ds (ps := ps) (by rw [← HN.out]; exact hn1) (by rw [← HN.out]; omega) (bt := bt) ⟨hb240.1, by omega⟩ (j := q) (by omega) (by rw [← HN.out]; omega)
              rw [← HN.out, ← hcy] at hok
              have hsf := shr_facts ds (ps := ps) hn0 q (by omega)
              have hfair := Lib.hid (shr_fair hE.out (ps := ps) hn0 q (by omega))
              have hXl : (shr ds (ones ps) q).length = n := by rw [shr_len, ones_len]; exact HN.out.symm
              have KI := fun w h => ShareGreen_anyZ vc yz G ps (by rw [← HN.out]; omega) ds hdl hdx cy bt 43 w h
              have KS := fun w h => sShareGreen_anyZ vc yz G ps (by rw [← HN.out]; omega) ds hdl hdx cy bt 43 w h
              rw [hv] at KI KS
              have hfs : (fl ds).size = 8 := by rw [fl_size, hdl]
              have hcyw : 0 ≤ cy ∧ cy ≤ 240 := by omega
              clear hv hq' hgk hdx hds hcy hm hm2
              generalize shr ds (ones ps) q = X at KI KS hok hsf hfair hXl
              simp only at KI KS
              rw [← HN.out] at KI KS
              go_wp2_with (((with_reducible refine is_load 24 _ rfl ?_); refine wpList_load_at rfl 24 _ rfl _ rfl (fl ds) _ (by with_reducible assumption) 8 (hfs) _ Try.underlying24 rfl (by kernel_rfl) ?_))
              clear s11 s12 s13
              refine (KI w7 A7).mono ?_
              rintro e w8 ⟨⟨v1, rfl, O8⟩, hb8⟩
              have A8 := A7.step hb8
              have D8 := D7.step hb8
              have B8 := Lib.hid (bthen B7.out hb8)
              clear A7 D7 B7 hb8
              obtain ⟨g1, cap1, zs1, rfl, hg1, Y8, -, -, -⟩ := O8.atY (by omega) hsf.1
              rw [hXl]
              clear O8 KI
              have N9 : At (w8.alloc (.cells (#[.slice none 0 0, .int .i64 0, .int .i64 0]) 28)) w8.heap.size (plC (.slice none 0 0) 0 0) 28 := At.new w8 (#[.slice none 0 0, .int .i64 0, .int .i64 0]) 28
              have Pp9 := N9.setRow (plC (.slice (some ⟨g1, 0, none⟩) n cap1) bt 0)
              have BN : Below w8.heap.size w8 ((w8.alloc (.cells (#[.slice none 0 0, .int .i64 0, .int .i64 0]) 28)).setRow w8.heap.size (plC (.slice (some ⟨g1, 0, none⟩) n cap1) bt 0)) := bset (b0 _ _) (Nat.le_refl _) _
              have A9 := A8.step BN
              have D9 := D8.step BN
              have Y9 := Y8.step BN
              have B9 := Lib.hid (bthen B8.out BN)
              clear A8 D8 Y8 B8 BN
              go_wp2_with (first
                | ((with_reducible refine is_store 28 _ _ rfl ?_); refine wpList_store_at rfl 28 _ _ rfl _ rfl ((plC (.slice (some ⟨g1, 0, none⟩) n cap1) bt 0)) rfl (plC (.slice none 0 0) 0 0) _ N9 3 (plC_size _ _ _) (plC_size _ _ _) (by kernel_rfl) (pl_one _ (sl_one _ _ _) _ _) ?_)
                | ((with_reducible refine is_load 24 _ rfl ?_); refine wpList_load_at rfl 24 _ rfl _ rfl (fl ds) _ (by with_reducible assumption) 8 (hfs) _ Try.underlying24 rfl (by kernel_rfl) ?_))
              clear N9
              generalize World.setRow _ w8.heap.size _ = w9 at A9 D9 Y9 Pp9 B9 ⊢
              obtain ⟨gp, hgp⟩ : ∃ gp, gp = w8.heap.size := ⟨_, rfl⟩
              rw [← hgp] at Pp9 ⊢
              clear hgp
              refine (KS w9 A9).mono ?_
              rintro e w10 ⟨⟨v2, rfl, O10⟩, hb10⟩
              have A10 := A9.step hb10
              have D10 := D9.step hb10
              have Y10 := Y9.step hb10
              have Pp10 := Pp9.step hb10
              have B10 := Lib.hid (bthen B9.out hb10)
              clear A9 D9 Y9 Pp9 B9 hb10
              obtain ⟨g2, cap2, zs2, rfl, hg2, X10, -, -, -⟩ := O10.atY (by omega) hsf.1
              rw [hXl]
              clear O10 KS
              have N11 : At (w10.alloc (.cells (#[.slice none 0 0, .int .i64 0, .int .i64 0]) 28)) w10.heap.size (plC (.slice none 0 0) 0 0) 28 := At.new w10 (#[.slice none 0 0, .int .i64 0, .int .i64 0]) 28
              have Qp11 := N11.setRow (plC (.slice (some ⟨g2, 0, none⟩) n cap2) bt 0)
              have BN : Below w10.heap.size w10 ((w10.alloc (.cells (#[.slice none 0 0, .int .i64 0, .int .i64 0]) 28)).setRow w10.heap.size (plC (.slice (some ⟨g2, 0, none⟩) n cap2) bt 0)) := bset (b0 _ _) (Nat.le_refl _) _
              have A11 := A10.step BN
              have D11 := D10.step BN
              have Y11 := Y10.step BN
              have Pp11 := Pp10.step BN
              have X11 := X10.step BN
              have B11 := Lib.hid (bthen B10.out BN)
              clear A10 D10 Y10 Pp10 X10 B10 BN
              go_wp2_with (first
                | ((with_reducible refine is_store 28 _ _ rfl ?_); refine wpList_store_at rfl 28 _ _ rfl _ rfl ((plC (.slice (some ⟨g2, 0, none⟩) n cap2) bt 0)) rfl (plC (.slice none 0 0) 0 0) _ N11 3 (plC_size _ _ _) (plC_size _ _ _) (by kernel_rfl) (pl_one _ (sl_one _ _ _) _ _) ?_)
                | ((with_reducible refine is_load 28 _ rfl ?_); refine wpList_load_at rfl 28 _ rfl _ rfl ((plC (.slice (some ⟨g2, 0, none⟩) n cap2) bt 0)) _ (by with_reducible assumption) 3 (plC_size _ _ _) _ Try.underlying28 rfl (by kernel_rfl) ?_))
              clear N11
              generalize World.setRow _ w10.heap.size _ = w11 at A11 D11 Y11 Pp11 X11 Qp11 B11 ⊢
              obtain ⟨gq, hgq⟩ : ∃ gq, gq = w10.heap.size := ⟨_, rfl⟩
              rw [← hgq] at Qp11 ⊢
              clear hgq
              have KC := CycleOfZ_any cap2 zs2 g2 X bt 0 hsf.1 49 w11 X11
              rw [vCycleOf_yes hok.2, hok.1, hXl] at KC
              refine KC.mono ?_
              rintro e w12 ⟨rfl, hb12⟩
              have A12 := A11.step hb12
              have D12 := D11.step hb12
              have Y12 := Y11.step hb12
              have Pp12 := Pp11.step hb12
              have X12 := X11.step hb12
              have Qp12 := Qp11.step hb12
              have B12 := Lib.hid (bthen B11.out hb12)
              clear A11 D11 Y11 Pp11 X11 Qp11 B11 hb12
              clear KC
              have KE := sSamePlanZ_any cap1 cap2 zs1 zs2 g1 g2 X X bt 0 bt 0 hsf.1 hsf.1 (by omega) 49 49 w12 Y12 X12
              rw [vSame_self, hXl] at KE
              have ca := Pp12.cell (k := 0) (plC_0 _ _ _)
              have cb := Pp12.cell (k := 1) (plC_1 _ _ _)
              have cc := Pp12.cell (k := 2) (plC_2 _ _ _)
              have cd' := Qp12.cell (k := 0) (plC_0 _ _ _)
              have ce := Qp12.cell (k := 1) (plC_1 _ _ _)
              have cf := Qp12.cell (k := 2) (plC_2 _ _ _)
              go_wp2_with fail
              refine KE.mono ?_
              rintro e w13 ⟨rfl, hb13⟩
              clear KE ca cb cc cd' ce cf
              have A13 := A12.step hb13
              have D13 := D12.step hb13
              have Y13 := Y12.step hb13
              have Pp13 := Pp12.step hb13
              have X13 := X12.step hb13
              have Qp13 := Qp12.step hb13
              have B13 := Lib.hid (bthen B12.out hb13)
              clear A12 D12 Y12 Pp12 X12 Qp12 B12 hb13
              clear Y13 Pp13
              have cd' := Qp13.cell (k := 0) (plC_0 _ _ _)
              have cf := Qp13.cell (k := 2) (plC_2 _ _ _)
              have A14 := A13.alloc (.cells #[] 23)
              have D14 := D13.alloc (.cells #[] 23)
              have X14 := X13.alloc (.cells #[] 23)
              have Q14 := Qp13.alloc (.cells #[] 23)
              have B14 := Lib.hid (bnew B13.out (.cells #[] 23))
              have F14 := OwnF.empty (w := w13) (s := w13.heap.size) (lo := w13.heap.size) rfl (Nat.le_refl _)
              have hA13 := A13.lt
              have hD13 := D13.lt
              have hX13 := X13.lt
              have hQ13 := Qp13.lt
              have hB13 := B13.out.size
              go_wp2_with (((with_reducible refine is_bslice 47 0 _ rfl ?_); refine wpList_bslice rfl 47 0 _ rfl #[] (by simp) _ (run_noF _) ?_))
              clear A13 D13 X13 Qp13 B13 cd' cf
              obtain ⟨LO, hLO⟩ : ∃ LO, LO = w13.heap.size := ⟨_, rfl⟩
              rw [← hLO] at F14 hA13 hD13 hX13 hQ13 hB13 ⊢
              have hL14 : LO ≤ (w13.alloc (.cells #[] 23)).heap.size := by rw [World.size_alloc]; omega
              generalize w13.alloc _ = w14 at A14 D14 X14 Q14 B14 F14 hL14 ⊢
              clear hLO
              have hn0' := Lib.hid hn0
              go_loopw [17, 18] (fun v i wr => ∃ k : Nat, k ≤ n ∧ i = .int .i64 (k : Int) ∧ OwnF wr LO v (wtL ds ps k) ∧ LO ≤ wr.heap.size ∧ At wr G (fmY ps yz) 43 ∧ At wr (w2.heap.size + 1) (fl ds) 24 ∧ At wr g2 (slY X zs2) 49 ∧ At wr gq (plC (.slice (some ⟨g2, 0, none⟩) n cap2) bt 0) 28 ∧ Hid (Below w2.heap.size w2 wr)) (fun _ i _ => n - (intOf i).toNat)
              case atStart => exact ⟨0, by omega, rfl, F14, hL14, A14, D14, X14, Q14, B14⟩
              case round =>
                clear F14 A14 D14 X14 Q14 B14 hL14
                obtain ⟨k, hk, rfl, F1, hLw, A1, D1, X1, Q1, B1⟩ := hrel
                by_cases hlt : k < n
                · have s2 : IntKind.i64.wrap ((k : Int) + 1) = (k : Int) + 1 := IntWalk.i64_in _ (by omega)
                  have kd : (k : Int) < (n : Int) := by omega
                  have hkl : k < ps.length := by rw [← HN.out]; exact hlt
                  obtain ⟨fa, fc, hvF⟩ := F1.any
                  rw [wtL_len] at hvF
                  subst hvF
                  have hWn := Lib.hid (wtL_next ds ps k)
                  have hrow := Lib.hid (fun q (hq : q < 8) => show (fmY ps yz)[k * 8 + q]? = some (.bool (bn (fe z8 ps k).1 q)) from by rw [fmY_get yz hkl hq]; exact f8_get _ hq)
                  generalize (fe z8 ps k).1 = row at hWn hrow
                  clear hkl
                  go_wp2_with fail
                  go_loopw [19, 20] (fun x i wq => ∃ (q x0 : Nat), q ≤ 8 ∧ i = .int .i64 (q : Int) ∧ x = .float .f32 x0 ∧ Hid (x0 = wtK ds row q) ∧ wq = wr) (fun _ i _ => 8 - (intOf i).toNat)
                  case atStart => exact ⟨0, 0, by omega, rfl, rfl, Lib.hid rfl, rfl⟩
                  case round =>
                    obtain ⟨q', x0, hq', rfl, rfl, hx0, rfl⟩ := hrel
                    have hx1 : x0 < 2139095040 := by rw [hx0.out]; exact wtK_lt hd8 row q'
                    by_cases hlq : q' < 8
                    · have s3 : IntKind.i64.wrap ((q' : Int) + 1) = (q' : Int) + 1 := IntWalk.i64_in _ (by omega)
                      have qd : (q' : Int) < 8 := by omega
                      have c0 := A1.cell (hrow.out q' hlq)
                      have c1 : wr.cell? ⟨w2.heap.size + 1, q', none⟩ = some (.float .f32 (nth ds q')) := D1.cell (fl_get (by omega))
                      have hm : ∀ ts t w, (Builtin.max_ ts t #[.float .f32 x0, .float .f32 (nth ds q')]).run Try.prog w = .ok (.float .f32 (max x0 (nth ds q'))) w := fun ts t w => run_max_amt w ts t (by omega) (Nat.le_of_lt (hd8 q'))
                      cases hbq : bn row q'
                      · rw [hbq] at c0
                        have hx2 := Lib.hid (show x0 = wtK ds row (q' + 1) from by rw [wtK_no hbq]; exact hx0.out)
                        clear hbq hm
                        go_wp2_with fail
                        exact ⟨⟨q' + 1, x0, by omega, by go_num, rfl, hx2, by trivial⟩, by simp [intOf]; omega⟩
                      · rw [hbq] at c0
                        have hx2 := Lib.hid (show max x0 (nth ds q') = wtK ds row (q' + 1) from by rw [wtK_yes hbq, hx0.out])
                        clear hbq
                        go_wp2_with fail
                        exact ⟨⟨q' + 1, _, by omega, by go_num, rfl, hx2, by trivial⟩, by simp [intOf]; omega⟩
                    · obtain rfl : q' = 8 := by omega
                      rw [← hx0.out] at hWn
                      clear hx0 hx1
                      go_wp2_with (first | ((with_reducible refine is_bslice 47 1 _ rfl ?_); refine wpList_bslice rfl 47 1 _ rfl #[(0, .float .f32 (x0))] (by kernel_rfl) _ (run_oneF _ (x0)) ?_) | (at_builtin; go_loud (refine wpList_append_own _ rfl _ _ 47 rfl LO 23 i0 (.float .f32 0) 1 4 Try.underlying47 hi hq0 hq1 hq2 rfl (by decide) _ (wtL ds ps k).length _ rfl (F1.step (b0 _ _)) ⟨wr.heap.size, 0, none⟩ 1 1 [.float .f32 (x0)] rfl rfl (one_cellsF wr (x0)) (fun u hu => by simp at hu; subst hu; rfl) (by rw [wtL_len]; unfold maxLen; omega) (by rw [wtL_len]; omega) (by rw [World.size_alloc]; omega) ?_)))
                      intro v' w5 hown hgrow _
                      have F5 : OwnF w5 LO v' (wtL ds ps (k + 1)) := by
                        rw [← hWn.out]
                        exact OwnF.grown hown
                      have A5 := (A1.alloc (.cells #[.float .f32 x0] 23)).keepF hgrow (fun q hq e => by have := (F1.block q hq).1; omega)
                      have D5 := (D1.alloc (.cells #[.float .f32 x0] 23)).keepF hgrow (fun q hq e => by have := (F1.block q hq).1; omega)
                      have X5 := (X1.alloc (.cells #[.float .f32 x0] 23)).keepF hgrow (fun q hq e => by have := (F1.block q hq).1; omega)
                      have Q5 := (Q1.alloc (.cells #[.float .f32 x0] 23)).keepF hgrow (fun q hq e => by have := (F1.block q hq).1; omega)
                      have B5 := Lib.hid ((bnew B1.out (.cells #[.float .f32 x0] 23)).trans (Below.grownBy hgrow (by rw [World.size_alloc]; omega) (fun q hq => by have := (F1.block q hq).1; omega)))
                      have hL5' : LO ≤ w5.heap.size := by have := hgrow.size; rw [World.size_alloc] at this; omega
                      clear hown hgrow F1 A1 D1 X1 Q1 B1
                      go_wp2_with fail
                      have hL5 : LO ≤ w5.heap.size := hL5'
                      exact ⟨⟨k + 1, by omega, by go_num, F5, hL5, A5, D5, X5, Q5, B5⟩, by simp [intOf]; omega⟩
                · obtain rfl : n = k := by omega
                  clear D1
                  obtain ⟨gw, capw, cw, hvW, hBw, W1, -, -, hcw⟩ := F1.at (by rw [wtL_len]; omega)
                  rw [wtL_len] at hvW hcw
                  subst hvW
                  have HCW := Lib.hid hcw
                  clear F1 hcw
                  have HX := Lib.hid (fun (i : Nat) (hi : i < n) => show sb X i = (fe z8 ps i).1 ∧ 1 ≤ st X i from by have := hsf.2 i (by rw [← HN.out]; exact hi); exact ⟨this.1, this.2.1⟩)
                  have hW := Lib.hid hsf.1
                  have HF := Lib.hid (fun (i k : Nat) (hi : i < n) (hk : k < n) (h : nth (wtL ds ps n) i < nth (wtL ds ps n) k) => show st X i ≤ st X k from hfair.out i k (by rw [← HN.out]; exact hi) (by rw [← HN.out]; exact hk) (by rw [← wtL_nth ds ps hi, ← wtL_nth ds ps hk]; exact h))
                  have HA := Lib.hid (fun (i : Nat) (hi : i < n) => show nth (wtL ds ps n) i ≤ 2139095040 from by rw [wtL_nth ds ps hi]; exact Nat.le_of_lt (wtK_lt hd8 _ 8))
                  clear hsf hfair
                  go_wp2_with fail
                  go_loopw [21] (fun i wr => ∃ k : Nat, k ≤ n ∧ i = .int .i64 (k : Int) ∧ At wr gw cw 23 ∧ At wr G (fmY ps yz) 43 ∧ At wr g2 (slY X zs2) 49 ∧ At wr gq (plC (.slice (some ⟨g2, 0, none⟩) n cap2) bt 0) 28 ∧ Hid (Below w2.heap.size w2 wr)) (fun i _ => n - (intOf i).toNat)
                  case atStart => exact ⟨0, by omega, rfl, W1, A1, X1, Q1, B1⟩
                  case round =>
                    clear W1 A1 X1 Q1 B1
                    obtain ⟨i, hin, rfl, W1, A1, X1, Q1, B1⟩ := hrel
                    by_cases hlt : i < n
                    · have s2 : IntKind.i64.wrap ((i : Int) + 1) = (i : Int) + 1 := IntWalk.i64_in _ (by omega)
                      have kd : (i : Int) < (n : Int) := by omega
                      have hil : i < ps.length := by rw [← HN.out]; exact hlt
                      have hiX : i < X.length := by omega
                      have hb8 := (fe z8 ps i).2
                      have hslG := fmY_at yz hil (k := i * 8) rfl
                      have hslX := slY_phase (zs := zs2) hW.out hiX
                      rw [(HX.out i hlt).1] at hslX
                      change (fmY ps yz).extract (i * 8) (i * 8 + 8) = bl (fe z8 ps i).1 at hslG
                      have yi : (slY X zs2)[i * 9 + 8]? = some (.int .i64 (st X i)) := by rw [slY_get hW.out (by omega)]; exact slC_ticks hW.out hiX rfl
                      have hst : ¬ st X i < 1 := by have := (HX.out i hlt).2; omega
                      have hleG : i * 8 + 8 ≤ (fmY ps yz).size := by have := fmY_size ps yz; omega
                      have hleX : i * 9 + 8 ≤ (slY X zs2).size := by have := slY_size (zs := zs2) hW.out; omega
                      generalize (fe z8 ps i).1 = row at hb8 hslG hslX
                      have hneq := fun w => run_neq_phase w row hb8
                      have hC := Cb.const wr
                      clear hil
                      go_wp2_with fail
                      refine wp_region_cb (by kernel_rfl) (by kernel_rfl) ?_
                      repeat (first
                        | go_big_quiet_skip
                        | (go_big_quiet_want; first
                          | (refine q_oneG 26 _ rfl _ Try.underlying26 rfl 0 rfl Q1 _ (plC_0 _ _ _) ?_; go_simp; go_big_quiet_on)
                          | (refine q_part 43 _ rfl (i * 9) rfl X1 8 hleX _ Try.underlying43 rfl (by kernel_rfl) (bl row) hslX ?_; go_simp; go_big_quiet_on)
                          | (refine q_part 43 _ rfl (i * 8) rfl A1 8 hleG _ Try.underlying43 rfl (by kernel_rfl) (bl row) hslG ?_; go_simp; go_big_quiet_on)
                          | (refine q_neq 43 _ _ rfl (bl row) (bl row) rfl rfl (by kernel_rfl) _ hneq ?_; go_simp; go_big_quiet_on)
                          | (refine q_oneG 2 _ rfl _ Try.underlying2 rfl (i * 9 + 8) rfl X1 _ yi ?_; go_simp; go_big_quiet_on)
                          | (go_big_quiet_op; go_big_quiet_on)))
                      refine wpQuiet_nil ?_
                      intro w5 hw5
                      have W5 := W1.step hw5
                      have A5 := A1.step hw5
                      have X5 := X1.step hw5
                      have Q5 := Q1.step hw5
                      have B5 := Lib.hid (bthen B1.out hw5)
                      clear W1 A1 X1 Q1 B1 hC hw5 hneq hslG hslX hleG hleX hb8
                      go_wp2_with fail
                      go_loopw [22] (fun j wr => ∃ k : Nat, k ≤ n ∧ j = .int .i64 (k : Int) ∧ At wr gw cw 23 ∧ At wr G (fmY ps yz) 43 ∧ At wr g2 (slY X zs2) 49 ∧ At wr gq (plC (.slice (some ⟨g2, 0, none⟩) n cap2) bt 0) 28 ∧ Hid (Below w2.heap.size w2 wr)) (fun j _ => n - (intOf j).toNat)
                      case atStart => exact ⟨0, by omega, rfl, W5, A5, X5, Q5, B5⟩
                      case round =>
                        clear W5 A5 X5 Q5 B5
                        obtain ⟨k, hkn, rfl, W1, A1, X1, Q1, B1⟩ := hrel
                        by_cases hlk : k < n
                        · have s3 : IntKind.i64.wrap ((k : Int) + 1) = (k : Int) + 1 := IntWalk.i64_in _ (by omega)
                          have kd' : (k : Int) < (n : Int) := by omega
                          have ci := HCW.out i hlt
                          have ck := HCW.out k hlk
                          have yk : (slY X zs2)[k * 9 + 8]? = some (.int .i64 (st X k)) := by rw [slY_get hW.out (by omega)]; exact slC_ticks hW.out (by omega) rfl
                          have hlt' := lt_amt (x := nth (wtL ds ps n) i) (y := nth (wtL ds ps n) k) (HA.out i hlt) (HA.out k hlk)
                          have hf := HF.out i k hlt hlk
                          generalize nth (wtL ds ps n) i = u1 at ci hlt' hf
                          generalize nth (wtL ds ps n) k = u2 at ck hlt' hf
                          have hC := Cb.const wr
                          by_cases hc : u1 < u2
                          · have hle := hf hc
                            have hgt : ¬ st X i > st X k := by omega
                            rw [decide_eq_true hc] at hlt'
                            clear hc hf
                            go_wp2_with fail
                            refine wp_region_cb (by kernel_rfl) (by kernel_rfl) ?_
                            repeat (first
                              | go_big_quiet_skip
                              | (go_big_quiet_want; first
                                | (refine q_oneG 23 _ rfl _ Try.underlying23 rfl i rfl W1 _ ci ?_; go_simp; go_big_quiet_on)
                                | (refine q_oneG 23 _ rfl _ Try.underlying23 rfl k rfl W1 _ ck ?_; go_simp; go_big_quiet_on)
                                | (refine q_oneG 26 _ rfl _ Try.underlying26 rfl 0 rfl Q1 _ (plC_0 _ _ _) ?_; go_simp; go_big_quiet_on)
                                | (refine q_oneG 2 _ rfl _ Try.underlying2 rfl (i * 9 + 8) rfl X1 _ yi ?_; go_simp; go_big_quiet_on)
                                | (refine q_oneG 2 _ rfl _ Try.underlying2 rfl (k * 9 + 8) rfl X1 _ yk ?_; go_simp; go_big_quiet_on)
                                | (go_big_quiet_op; go_big_quiet_on)))
                            refine wpQuiet_nil ?_
                            intro w5 hw5
                            have W5 := W1.step hw5
                            have A5 := A1.step hw5
                            have X5 := X1.step hw5
                            have Q5 := Q1.step hw5
                            have B5 := Lib.hid (bthen B1.out hw5)
                            clear W1 A1 X1 Q1 B1 hC hw5
                            go_wp2_with fail
                            exact ⟨⟨k + 1, by omega, by go_num, W5, A5, X5, Q5, B5⟩, by simp [intOf]; omega⟩
                          · rw [decide_eq_false hc] at hlt'
                            clear hc hf
                            go_wp2_with fail
                            refine wp_region_cb (by kernel_rfl) (by kernel_rfl) ?_
                            repeat (first
                              | go_big_quiet_skip
                              | (go_big_quiet_want; first
                                | (refine q_oneG 23 _ rfl _ Try.underlying23 rfl i rfl W1 _ ci ?_; go_simp; go_big_quiet_on)
                                | (refine q_oneG 23 _ rfl _ Try.underlying23 rfl k rfl W1 _ ck ?_; go_simp; go_big_quiet_on)
                                | (refine q_oneG 26 _ rfl _ Try.underlying26 rfl 0 rfl Q1 _ (plC_0 _ _ _) ?_; go_simp; go_big_quiet_on)
                                | (refine q_oneG 2 _ rfl _ Try.underlying2 rfl (i * 9 + 8) rfl X1 _ yi ?_; go_simp; go_big_quiet_on)
                                | (refine q_oneG 2 _ rfl _ Try.underlying2 rfl (k * 9 + 8) rfl X1 _ yk ?_; go_simp; go_big_quiet_on)
                                | (go_big_quiet_op; go_big_quiet_on)))
                            refine wpQuiet_nil ?_
                            intro w5 hw5
                            have W5 := W1.step hw5
                            have A5 := A1.step hw5
                            have X5 := X1.step hw5
                            have Q5 := Q1.step hw5
                            have B5 := Lib.hid (bthen B1.out hw5)
                            clear W1 A1 X1 Q1 B1 hC hw5
                            go_wp2_with fail
                            exact ⟨⟨k + 1, by omega, by go_num, W5, A5, X5, Q5, B5⟩, by simp [intOf]; omega⟩
                        · obtain rfl : n = k := by omega
                          go_wp2_with fail
                          exact ⟨⟨i + 1, by omega, by go_num, W1, A1, X1, Q1, B1⟩, by simp [intOf]; omega⟩
                    · obtain rfl : n = i := by omega
                      go_wp2_with fail
                      go_ret
                      exact ⟨rfl, B1.out⟩

set_option maxRecDepth 100000 in
theorem lifted (os : Os) (started : os.Started) (H : Type) (enc : TypeId × Value → H) :
    ReturnsInHanded {} Try.checked os 4 .any (Rows.fnSharedSpec.pre6 enc Try.prog Try.f4 Rows.fnSharedRow.domain false) (Rows.fnSharedSpec.post enc Try.prog Try.f4 false true false false) := by
  refine law_liftedS enc os started (by kernel_rfl) Try.func4
    (ChangeSpec.witness6 (enc := enc) (C := Try.checked) false ⟨#[], #[.slice none 0 0, .slice none 0 0], []⟩ 24 (by kernel_rfl) (by kernel_rfl) (by kernel_rfl) (by kernel_rfl)) rfl (by kernel_rfl) ?_ ?_ ?_
  · rw [Try.params4]
    intro t ht
    have hall : (#[39, 39].toList.all fun u => Try.prog.readableRec u && decide (u < Try.prog.types.size)) = true := by kernel_rfl
    have := List.all_eq_true.1 hall t ht
    simpa using this
  · intro ds h
    rw [Try.params4] at h
    match ds, h with
    | [d0, d1], _ => rfl
  · intro W base args ds ps hl hval hA
    rw [Try.params4] at hl hval hA
    obtain ⟨v0, v1, rfl⟩ : ∃ v0 v1, args = #[v0, v1] := by
      obtain ⟨l⟩ := args
      match l, hl with
      | [v0, v1], _ => exact ⟨v0, v1, rfl⟩
    obtain ⟨vx0, vy0, dd0, de0, pp0, pq0, ee0, -, -, tr0, rr0⟩ := trodAll_cons hA
    obtain ⟨rfl, rfl⟩ := List.cons.inj ee0
    obtain ⟨vx1, vy1, dd1, de1, pp1, pq1, ee1, -, -, tr1, rr1⟩ := trodAll_cons rr0
    obtain ⟨rfl, rfl⟩ := List.cons.inj ee1
    obtain ⟨a0, c0, x0, rfl, h0, hz0⟩ := shape_bytesN Try.underlying39 Try.underlying5 (by kernel_rfl) (okWide_slice Try.underlying39 (hval 0 _ _ rfl rfl)) tr0
    obtain ⟨a1, c1, x1, rfl, h1, hz1⟩ := shape_bytesN Try.underlying39 Try.underlying5 (by kernel_rfl) (okWide_slice Try.underlying39 (hval 1 _ _ rfl rfl)) tr1
    exact walk W a0 c0 x0 h0 hz0 a1 c1 x1 h1 hz1

/-- THE STATEMENT -/
theorem proved : Rows.FnSharedSaid := by
  first
    | (refine OpenClaim.holds_of_wide 4 Try.f4 rfl rfl rfl rfl rfl rfl rfl ⟨rfl, rfl, rfl, rfl, rfl⟩ rfl rfl rfl rfl rfl (by kernel_rfl) Try.func4 (by kernel_rfl) (of_decide_eq_true (by kernel_rfl)) ?_ (fun os started H enc _ => lifted os started H enc))
    | (refine OpenClaim.holds_of_wide_leaving 4 Try.f4 rfl rfl rfl rfl rfl rfl rfl ⟨rfl, rfl, rfl, rfl, rfl⟩ rfl rfl rfl rfl rfl (by kernel_rfl) Try.func4 (by kernel_rfl) (of_decide_eq_true (by kernel_rfl)) ?_ (fun os started H enc _ => leaving_of_handed (lifted os started H enc)))
  unfold Func.isWrapper
  first | (rw [if_pos (by decide +kernel)]; kernel_rfl) | (rw [if_neg (by decide +kernel)]; exact ⟨rfl, rfl⟩)
#print axioms proved
end Go.Proofs.Ytlpbehokcogcpaa.lawFnShared
