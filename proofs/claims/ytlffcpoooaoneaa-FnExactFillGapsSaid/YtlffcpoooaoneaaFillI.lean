/-
  CONTRACTS: gaps filled: the program.
-/
import Derived.Test.YtlffcpoooaoneaaTlBtw
import Derived.Test.YtlffcpoooaoneaaAppOwn
import Derived.Test.YtlffcpoooaoneaaTake3
import Derived.BigQuiet
namespace Go.Proofs.Ytlffcpoooaoneaa
open Go Go.ChangeShapes Go.WideShapes Go.ChangeAt Go.RowKit
set_option maxRecDepth 100000

set_option maxHeartbeats 2000000 in
theorem FillGaps_any (G : Nat) (xs : Ts) (hW : TW xs) (hn : xs.length ≤ 1048576) (T : TypeId) (w : World) (h0 : At w G (tC xs) T) :
    Calls Try.prog 23 #[.slice (some ⟨G, 0, none⟩) xs.length xs.length] w fun e w' => TR w w' (vFill xs).1 (vFill xs).2 e := by
  have KV := ValidTallies_any G xs xs.length hW hn T w h0
  cases h : okT xs
  · rw [vFill_1 h]
    rw [h] at KV
    generalize xs.length = n at KV
    go_enter Try.func23, Try.ntmps23
    go_wp2_with fail
    refine KV.mono ?_
    rintro e w1 ⟨rfl, hb1⟩
    go_wp2_with fail
    go_ret2
    exact ⟨⟨_, rfl, OwnT.nil _ _⟩, hb1⟩
  · rw [h] at KV
    have KW := fun w' hA => hasWideGap_any G xs xs.length T h w' hA
    cases hwd : wideK xs xs.length
    rotate_left
    · rw [hwd] at KW
      rw [vFill_4 h hwd]
      generalize xs.length = n at KV KW
      go_enter Try.func23, Try.ntmps23
      go_wp2_with fail
      refine KV.mono ?_
      rintro e w1 ⟨rfl, hb1⟩
      go_wp2_with fail
      refine (KW w1 (h0.step hb1)).mono ?_
      rintro e w2 ⟨rfl, hb2⟩
      go_wp2_with fail
      go_ret2
      exact ⟨⟨_, rfl, OwnT.nil _ _⟩, bthen hb1 hb2⟩
    · rw [hwd] at KW
      have h96 := okT_len h
      have HO := Lib.hid (And.intro h (And.intro hwd hW))
      have HG := Lib.hid h0.lt
      have HV := Lib.hid (And.intro (vFill_0 h hwd) (vFill_3 h hwd))
      have HF := Lib.hid (fun k (hk : k ≤ xs.length) => fillK_len (xs := xs) (i := k) (fun j h1 h2 => wideK_no hwd h1 (by omega)))
      obtain ⟨vf, hvf⟩ : ∃ vf, vf = vFill xs := ⟨_, rfl⟩
      rw [← hvf] at HV ⊢
      obtain ⟨n, hnn⟩ : ∃ n, n = xs.length := ⟨_, rfl⟩
      rw [← hnn] at h96 KV KW HV HF hn ⊢
      have HN := Lib.hid hnn
      clear hnn hvf h hwd hW
      go_enter Try.func23, Try.ntmps23
      go_wp2_with fail
      refine KV.mono ?_
      rintro e w1 ⟨rfl, hb1⟩
      go_wp2_with fail
      refine (KW w1 (h0.step hb1)).mono ?_
      rintro e w2 ⟨rfl, hb2⟩
      have A1 := (h0.step hb1).step hb2
      have B1 := Lib.hid (bthen hb1 hb2)
      clear h0 hb1 hb2 KV KW
      go_wp2_with fail
      go_loopw [4, 14] (fun v iv wr => ∃ k : Nat, k ≤ n ∧ iv = .int .i64 (k : Int) ∧ OwnT wr w.heap.size v (fillK xs k) ∧ At wr G (tC xs) T ∧ Hid (Below w.heap.size w wr)) (fun _ iv _ => n - (intOf iv).toNat)
      case atStart => exact ⟨0, by omega, rfl, OwnT.nil _ _, A1, B1⟩
      case round =>
        clear A1 B1
        obtain ⟨k, hk, rfl, O1, A1, B1⟩ := hrel
        obtain ⟨va, vc, rfl⟩ := O1.any
        have hfl := HF.out k hk
        by_cases hlt : k < n
        · have s2 : IntKind.i64.wrap ((k : Int) + 1) = (k : Int) + 1 := IntWalk.i64_in _ (by omega)
          have kd : (k : Int) < (n : Int) := by omega
          have hkl : k < xs.length := by rw [← HN.out]; exact hlt
          have hsl := tC_tally hkl (k := k * 3) rfl
          have SS := tC_size xs
          have hle : k * 3 + 3 ≤ (tC xs).size := by rw [SS]; omega
          obtain ⟨i0, hi, hz0, hz1, hz2⟩ := info_tally
          clear SS
          have R0 : At (wr.alloc (.cells #[.int .i64 0, .int .i16 0, .int .i16 0] 111)) wr.heap.size #[.int .i64 0, .int .i16 0, .int .i16 0] 111 := At.new _ _ _
          have R1 := R0.setRow (t1 (tn xs k) (tc xs k) (tf xs k))
          have BN : Below wr.heap.size wr ((wr.alloc (.cells #[.int .i64 0, .int .i16 0, .int .i16 0] 111)).setRow wr.heap.size (t1 (tn xs k) (tc xs k) (tf xs k))) := bset (b0 _ _) (Nat.le_refl _) _
          have A2 := A1.step BN
          have O2 := O1.step BN
          have B2 := Lib.hid (bthen B1.out BN)
          have hwr := B1.out.size
          have hOb := O1.block
          have HS := Lib.hid (show fillK xs (k + 1) = fillK xs k ++ stepL xs k ++ [tr3 xs k] from rfl)
          have HT := Lib.hid (show tr3 xs k = (tn xs k, tc xs k, tf xs k) from rfl)
          clear O1 B1 BN
          by_cases z : k = 0
          · have z1 : decide (0 < (k : Int)) = false := decide_eq_false (by omega)
            have z2 : ¬ (0 : Int) < (k : Int) := by omega
            have hst := Lib.hid (show stepL xs k = [] from by unfold stepL; rw [if_pos z])
            generalize tn xs k = tk at *
            generalize tc xs k = ck at *
            generalize tf xs k = fk at *
            clear z
            have hws : w.heap.size ≤ ((wr.alloc (.cells #[.int .i64 0, .int .i16 0, .int .i16 0] 111)).setRow wr.heap.size (t1 tk ck fk)).heap.size := B2.out.size
            go_wp2_with (first | ((with_reducible refine is_load 111 _ rfl ?_); refine wpList_load_part rfl 111 _ rfl _ (k * 3) rfl (tC xs) _ (by with_reducible assumption) 3 (hle) _ Try.underlying111 rfl (by kernel_rfl) ((t1 tk ck fk)) (hsl) ?_) | ((with_reducible refine is_store 111 _ _ rfl ?_); refine wpList_store_at rfl 111 _ _ rfl _ rfl ((t1 tk ck fk)) rfl (#[.int .i64 0, .int .i16 0, .int .i16 0]) _ (by with_reducible assumption) 3 (t1_size _ _ _) (rfl) (by kernel_rfl) (t1_one _ _ _) ?_) | ((with_reducible refine is_load 111 _ rfl ?_); refine wpList_load_at rfl 111 _ rfl _ rfl (t1 tk ck fk) _ (by with_reducible assumption) 3 (t1_size _ _ _) _ Try.underlying111 rfl (by kernel_rfl) ?_) | ((with_reducible refine is_bslice 24 1 _ rfl ?_); refine wpList_bslice rfl 24 1 _ rfl #[(0, .agg (t1 tk ck fk))] (by kernel_rfl) _ (run_oneT _ tk ck fk) ?_) | (at_builtin; go_loud (refine wpList_append_own _ rfl _ _ 24 rfl w.heap.size 111 i0 (.agg #[.int .i64 0, .int .i16 0, .int .i16 0]) 3 16 Try.underlying24 hi hz0 hz1 hz2 rfl (by decide) _ (fillK xs k).length _ rfl (O2.step (b0 _ _)) ⟨((wr.alloc (.cells #[.int .i64 0, .int .i16 0, .int .i16 0] 111)).setRow wr.heap.size (t1 tk ck fk)).heap.size, 0, none⟩ 1 1 (tll (tk, ck, fk)) rfl rfl (one_cellsT ((wr.alloc (.cells #[.int .i64 0, .int .i16 0, .int .i16 0] 111)).setRow wr.heap.size (t1 tk ck fk)) tk ck fk) (tll_one _) (by unfold maxLen; omega) (by omega) (by rw [World.size_alloc]; omega) ?_)))
            intro v' w8 hown hgrow _
            have O8 := OwnT.grown hown
            have hb8 : Below w.heap.size (((wr.alloc (.cells #[.int .i64 0, .int .i16 0, .int .i16 0] 111)).setRow wr.heap.size (t1 tk ck fk)).alloc (.cells (t1 tk ck fk) 111)) w8 := Below.grownBy hgrow (by rw [World.size_alloc]; omega) (fun q hq => (O2.block q hq).1)
            have B8 := Lib.hid ((bnew B2.out (.cells (t1 tk ck fk) 111)).trans hb8)
            have A8 : At w8 G (tC xs) T := (hb8.block _ HG.out).trans (A2.alloc (.cells (t1 tk ck fk) 111))
            have O9 : OwnT w8 w.heap.size v' (fillK xs (k + 1)) := by rw [HS.out, hst.out, List.append_nil, HT.out]; exact O8
            clear hown hgrow hb8 A2 O2 B2 O8
            go_wp2_with fail
            exact ⟨⟨k + 1, by omega, by go_num, O9, A8, B8⟩, by simp [intOf]; omega⟩
          · have z1 : decide (0 < (k : Int)) = true := decide_eq_true (by omega)
            have z2 : (0 : Int) < (k : Int) := by omega
            have s3 : IntKind.i64.wrap ((k : Int) - 1) = ((k - 1 : Nat) : Int) := by rw [IntWalk.i64_in _ (by omega)]; omega
            have hkp : k - 1 < xs.length := by omega
            have hslp := tC_tally hkp (k := (k - 1) * 3) rfl
            have SS2 := tC_size xs
            have hlep : (k - 1) * 3 + 3 ≤ (tC xs).size := by rw [SS2]; omega
            have hkn : k - 1 < n := by omega
            clear SS2
            have hst := Lib.hid (show stepL xs k = gapL (tn xs (k - 1), tc xs (k - 1), tf xs (k - 1)) (tn xs k, tc xs k, tf xs k) from by unfold stepL; rw [if_neg z]; rfl)
            have hgap := wideK_no HO.out.2.1 (k := k) (by omega) hkl
            obtain ⟨c1, c2, c3, c4⟩ := okT_at HO.out.1 hkl
            obtain ⟨e1, e2, e3, -⟩ := okT_at HO.out.1 hkp
            have g1 := (HO.out.2.2.at hkl).2
            have g2 := (HO.out.2.2.at hkp).2
            unfold I16 at g1 g2
            have hlt2 : tn xs (k - 1) < tn xs k := by rcases c4 with c4 | c4; exact absurd c4 z; exact c4
            have KB := fun w' => talliesBetween_any (tn xs (k - 1)) (tc xs (k - 1)) (tf xs (k - 1)) (tn xs k) (tc xs k) (tf xs k) ⟨e1.1, hlt2⟩ c1.2 hgap ⟨e2, g2.1.2⟩ ⟨e3.1, g2.2.2⟩ ⟨c2, g1.1.2⟩ ⟨c3.1, g1.2.2⟩ w'
            have hgl := stepL_len (xs := xs) (i := k) (.inr hgap)
            rw [hst.out] at hgl
            clear hgap c1 c2 c3 c4 e1 e2 e3 g1 g2 hlt2 hkp hkl
            generalize tn xs k = tk at *
            generalize tc xs k = ck at *
            generalize tf xs k = fk at *
            generalize tn xs (k - 1) = tp at *
            generalize tc xs (k - 1) = cp at *
            generalize tf xs (k - 1) = fp at *
            generalize gapL (tp, cp, fp) (tk, ck, fk) = gs at *
            clear z
            go_wp2_with (first | ((with_reducible refine is_load 111 _ rfl ?_); refine wpList_load_part rfl 111 _ rfl _ (k * 3) rfl (tC xs) _ (by with_reducible assumption) 3 (hle) _ Try.underlying111 rfl (by kernel_rfl) ((t1 tk ck fk)) (hsl) ?_) | ((with_reducible refine is_store 111 _ _ rfl ?_); refine wpList_store_at rfl 111 _ _ rfl _ rfl ((t1 tk ck fk)) rfl (#[.int .i64 0, .int .i16 0, .int .i16 0]) _ (by with_reducible assumption) 3 (t1_size _ _ _) (rfl) (by kernel_rfl) (t1_one _ _ _) ?_))
            obtain ⟨gv, hgv⟩ : ∃ gv, gv = wr.heap.size := ⟨_, rfl⟩
            rw [← hgv] at R1 A2 O2 B2 hOb hwr ⊢
            clear hgv
            generalize World.setRow _ _ _ = w3 at R1 A2 O2 B2 ⊢
            refine wp_region_held (S := fun w' => At w' G (tC xs) T ∧ At w' gv (t1 tk ck fk) 111) (by kernel_rfl) ?_
            show wpAnyH _ _ _ _ _ 10 (Array.replicate 10 false) _ _
            have SS : At { w3 with drawn := w3.drawn + 1 } G (tC xs) T ∧ At { w3 with drawn := w3.drawn + 1 } gv (t1 tk ck fk) 111 := ⟨A2, R1⟩
            have O4 : OwnT { w3 with drawn := w3.drawn + 1 } w.heap.size (.slice va (fillK xs k).length vc) (fillK xs k) := O2
            have B4 : Hid (Below w.heap.size w { w3 with drawn := w3.drawn + 1 }) := Lib.hid ⟨B2.out.1, B2.out.2, B2.out.3, B2.out.4, B2.out.5⟩
            generalize ({ w3 with drawn := w3.drawn + 1 } : World) = w4 at SS O4 B4 ⊢
            clear A2 R1 O2 B2 R0
            refine wpAnyH_take (i := 0) (v := .slice va (fillK xs k).length vc) rfl (by kernel_rfl) (by kernel_rfl) (by kernel_rfl) (fun _ _ _ h => h) (yif rfl fun w' hw' => x_moved (.tmp 4) rfl (by kernel_rfl)) SS ?_
            refine wpAnyH_take (i := 1) (v := .slice (some ⟨G, 0, none⟩) n n) rfl (by kernel_rfl) (by kernel_rfl) (by kernel_rfl) (fun _ _ _ h => h) (yif rfl fun w' hw' => x_moved (.tmp 0) rfl (by kernel_rfl)) SS ?_
            refine wpAnyH_take (i := 2) (v := .int .i64 (k : Int)) rfl (by kernel_rfl) (by kernel_rfl) (by kernel_rfl) (fun _ _ _ h => h) (yif rfl fun w' hw' => x_moved (.tmp 5) rfl (by kernel_rfl)) SS ?_
            refine wpAnyH_take (i := 3) (v := .int .i64 ((k - 1 : Nat) : Int)) rfl (by kernel_rfl) (by kernel_rfl) (by kernel_rfl) (fun _ _ _ h => h) (yif rfl fun w' hw' => by rw [← s3]; kernel_rfl) SS ?_
            refine wpAnyH_take (i := 4) (v := .pointer (some ⟨G, (k - 1) * 3, none⟩)) rfl (by kernel_rfl) (by kernel_rfl) (by kernel_rfl) (fun _ _ _ h => h) (yif rfl fun w' hw' => x_index 24 (.tmp 22) _ rfl _ _ (by kernel_rfl) (by kernel_rfl) (by have := run_indexS (P := Try.prog) w' 24 111 G 0 n n (k - 1) 3 Try.underlying24 (by kernel_rfl) hkn; rwa [Nat.zero_add] at this)) SS ?_
            refine wpAnyH_take (i := 5) (v := .agg (t1 tp cp fp)) rfl (by kernel_rfl) (by kernel_rfl) (by kernel_rfl) (fun _ _ _ h => h) (yif rfl fun w' hw' => x_load 111 _ rfl ⟨G, (k - 1) * 3, none⟩ (by kernel_rfl) (by rw [← hslp]; exact run_loadAt_part w' _ _ 3 111 _ _ (0, 0) _ hw'.1 Try.underlying111 rfl (by kernel_rfl) hlep)) SS ?_
            refine wpAnyH_take (i := 6) (v := .agg (t1 tk ck fk)) rfl (by kernel_rfl) (by kernel_rfl) (by kernel_rfl) (fun _ _ _ h => h) (yif rfl fun w' hw' => x_load 111 _ rfl ⟨gv, 0, none⟩ (by kernel_rfl) (by have := run_loadAt_part (P := Try.prog) w' gv 0 3 111 (t1 tk ck fk) 111 (0, 0) _ hw'.2 Try.underlying111 rfl (by kernel_rfl) (by rw [t1_size]; omega); exact this)) SS ?_
            refine wpAnyH_all (rs := [7]) (by kernel_rfl) (by simp) fun _ hi8 => ?_
            obtain rfl := one_of hi8
            refine op_call (f := 80) (args := #[.agg (t1 tp cp fp), .agg (t1 tk ck fk)]) rfl rfl (by kernel_rfl) ((KB w4).mono ?_)
            rintro e w5 ⟨⟨v2, rfl, O5⟩, hb5⟩
            have SS5 : At w5 G (tC xs) T ∧ At w5 gv (t1 tk ck fk) 111 := ⟨SS.1.step hb5, SS.2.step hb5⟩
            have O6 := O4.step hb5
            have B6 := Lib.hid (bthen B4.out hb5)
            refine ⟨_, rfl, SS5, ?_⟩
            clear SS O4 B4 hb5 KB
            refine wpAnyH_all (rs := [8]) (by kernel_rfl) (by simp) fun _ hi8 => ?_
            obtain rfl := one_of hi8
            refine op_wp rfl rfl fun Q' => app_own (.tmp 21) (.tmp 28) rfl (by kernel_rfl) (by kernel_rfl) O6 O5 B6.out.size (by omega) ?_
            intro v' w7 O7 hb7 hk7
            have A7 : At w7 G (tC xs) T := (hb7.block _ HG.out).trans SS5.1
            have R7 : At w7 gv (t1 tk ck fk) 111 := (hk7 gv SS5.2.lt (fun hq => by have := (hOb gv hq).2; omega)).trans SS5.2
            have B7 := Lib.hid (B6.out.trans hb7)
            refine ⟨⟨A7, R7⟩, ?_⟩
            clear SS5 O5 O6 B6 hb7 hk7
            refine wpAnyH_all (rs := [9]) (by kernel_rfl) (by simp) fun _ hi8 => ?_
            obtain rfl := one_of hi8
            refine op_value (v := v') rfl rfl (x_assigned (.tmp 29) rfl (by kernel_rfl)) ⟨⟨A7, R7⟩, ?_⟩
            refine wpAnyH_done (by kernel_rfl) ?_ _
            have hws := B7.out.size
            have hlL : (fillK xs k ++ gs).length ≤ 2000 := by rw [List.length_append]; omega
            rw [hst.out] at HS
            generalize fillK xs k ++ gs = L7 at *
            obtain ⟨va7, vc7, rfl⟩ := O7.any
            go_simp
            go_wp2_with (first | ((with_reducible refine is_load 111 _ rfl ?_); refine wpList_load_at rfl 111 _ rfl _ rfl (t1 tk ck fk) _ (by with_reducible assumption) 3 (t1_size _ _ _) _ Try.underlying111 rfl (by kernel_rfl) ?_) | ((with_reducible refine is_bslice 24 1 _ rfl ?_); refine wpList_bslice rfl 24 1 _ rfl #[(0, .agg (t1 tk ck fk))] (by kernel_rfl) _ (run_oneT _ tk ck fk) ?_) | (at_builtin; go_loud (refine wpList_append_own _ rfl _ _ 24 rfl w.heap.size 111 i0 (.agg #[.int .i64 0, .int .i16 0, .int .i16 0]) 3 16 Try.underlying24 hi hz0 hz1 hz2 rfl (by decide) _ (L7).length _ rfl (O7.step (b0 _ _)) ⟨w7.heap.size, 0, none⟩ 1 1 (tll (tk, ck, fk)) rfl rfl (one_cellsT w7 tk ck fk) (tll_one _) (by unfold maxLen; omega) (by omega) (by rw [World.size_alloc]; omega) ?_)))
            intro v'' w8 hown hgrow _
            have O8 := OwnT.grown hown
            have hb8 : Below w.heap.size (w7.alloc (.cells (t1 tk ck fk) 111)) w8 := Below.grownBy hgrow (by rw [World.size_alloc]; omega) (fun q hq => (O7.block q hq).1)
            have B8 := Lib.hid ((bnew B7.out (.cells (t1 tk ck fk) 111)).trans hb8)
            have A8 : At w8 G (tC xs) T := (hb8.block _ HG.out).trans (A7.alloc (.cells (t1 tk ck fk) 111))
            have O9 : OwnT w8 w.heap.size v'' (fillK xs (k + 1)) := by rw [HS.out, HT.out]; exact O8
            clear hown hgrow hb8 A7 R7 O7 B7 O8
            go_wp2_with fail
            exact ⟨⟨k + 1, by omega, by go_num, O9, A8, B8⟩, by simp [intOf]; omega⟩
        · obtain rfl : k = n := by omega
          by_cases q : (fillK xs k).length ≤ 96
          · have q' : ¬ (96 : Int) < ((fillK xs k).length : Int) := by omega
            have hv := Lib.hid (HV.out.1 q)
            go_wp2_with fail
            go_ret2
            exact ⟨⟨_, by rw [hv.out]; rfl, by rw [hv.out]; exact O1⟩, B1.out⟩
          · have q' : (96 : Int) < ((fillK xs k).length : Int) := by omega
            have hv := Lib.hid (HV.out.2 q)
            go_wp2_with fail
            go_ret2
            exact ⟨⟨_, by rw [hv.out]; rfl, by rw [hv.out]; exact OwnT.nil _ _⟩, B1.out⟩

end Go.Proofs.Ytlffcpoooaoneaa
