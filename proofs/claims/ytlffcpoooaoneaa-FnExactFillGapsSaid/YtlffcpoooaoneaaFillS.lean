/-
  CONTRACTS: gaps filled: the model.
-/
import Derived.Test.YtlffcpoooaoneaaBtw
import Derived.Test.YtlffcpoooaoneaaVTlS
import Derived.Test.YtlffcpoooaoneaaAppOwn
import Derived.Test.YtlffcpoooaoneaaTake3
import Derived.BigQuiet
namespace Go.Proofs.Ytlffcpoooaoneaa
open Go Go.ChangeShapes Go.WideShapes Go.ChangeAt Go.RowKit
set_option maxRecDepth 100000

set_option maxHeartbeats 4000000 in
theorem sFillGaps_any (G : Nat) (xs : Ts) (hW : TW xs) (hn : xs.length ≤ 1048576) (T : TypeId) (w : World) (h0 : At w G (tC xs) T) :
    Calls Try.prog 22 #[.slice (some ⟨G, 0, none⟩) xs.length xs.length] w fun e w' => TR w w' (vFill xs).1 (vFill xs).2 e := by
  have KV := l05List_any G xs xs.length hW hn T w h0
  cases h : okT xs
  · rw [vFill_1 h]
    rw [h] at KV
    generalize xs.length = n at KV
    go_enter Try.func22, Try.ntmps22
    go_wp2_with fail
    refine KV.mono ?_
    rintro e w1 ⟨rfl, hb1⟩
    go_wp2_with (((with_reducible refine is_bslice 24 0 _ rfl ?_); refine wpList_bslice rfl 24 0 _ rfl #[] (by simp) _ (run_noT _) ?_))
    go_ret2
    exact ⟨⟨_, rfl, OwnT.empty rfl hb1.size⟩, bnew hb1 _⟩
  · rw [h] at KV
    have h96 := okT_len h
    have HO := Lib.hid (And.intro h hW)
    have HG := Lib.hid h0.lt
    have HV := Lib.hid (And.intro (vFill_4 h) (And.intro (vFill_0 h) (vFill_3 h)))
    have HF := Lib.hid (fun (hwd : wideK xs xs.length = false) k (hk : k ≤ xs.length) => fillK_len (xs := xs) (i := k) (fun j h1 h2 => wideK_no hwd h1 (by omega)))
    obtain ⟨vf, hvf⟩ : ∃ vf, vf = vFill xs := ⟨_, rfl⟩
    rw [← hvf] at HV ⊢
    obtain ⟨n, hnn⟩ : ∃ n, n = xs.length := ⟨_, rfl⟩
    rw [← hnn] at h96 KV HV HF hn ⊢
    have HN := Lib.hid hnn
    clear hnn hvf h hW
    go_enter Try.func22, Try.ntmps22
    go_wp2_with fail
    refine KV.mono ?_
    rintro e w1 ⟨rfl, hb1⟩
    have HX := Lib.hid (And.intro (h0.step hb1) hb1)
    clear h0 hb1 KV
    go_wp2_with fail
    go_loopw [4] (fun i wr => ∃ k : Nat, 1 ≤ k ∧ (k ≤ n ∨ (n = 0 ∧ k = 1)) ∧ i = .int .i64 (k : Int) ∧ At wr G (tC xs) T ∧ Hid (Below w.heap.size w wr) ∧ Hid (wideK xs k = false)) (fun i _ => n - (intOf i).toNat)
    case atStart => exact ⟨1, by omega, by omega, rfl, HX.out.1, Lib.hid HX.out.2, Lib.hid (by simp [wideK])⟩
    case round =>
      clear HX
      obtain ⟨k, hk1, hk, rfl, A1, B1, hwd⟩ := hrel
      by_cases hlt : k < n
      · have s2 : IntKind.i64.wrap ((k : Int) + 1) = (k : Int) + 1 := IntWalk.i64_in _ (by omega)
        have kd : (k : Int) < (n : Int) := by omega
        have hkl : k < xs.length := by rw [← HN.out]; exact hlt
        have hkp : k - 1 < xs.length := by omega
        have g0 : wr.cell? ⟨G, (k - 1) * 3, none⟩ = some (.int .i64 (tn xs (k - 1))) := A1.cell (tC_turn hkp rfl)
        have g1 : wr.cell? ⟨G, k * 3, none⟩ = some (.int .i64 (tn xs k)) := A1.cell (tC_turn hkl rfl)
        have s3 : IntKind.i64.wrap ((k : Int) - 1) = ((k - 1 : Nat) : Int) := by rw [IntWalk.i64_in _ (by omega)]; omega
        have kn : ((k - 1 : Nat) : Int) < (n : Int) := by omega
        have kn0 : (0 : Int) ≤ ((k - 1 : Nat) : Int) := by omega
        obtain ⟨b1, -, -, b2⟩ := okT_at HO.out.1 hkl
        obtain ⟨b3, -, -, -⟩ := okT_at HO.out.1 hkp
        have s4 : IntKind.i64.wrap (tn xs k - tn xs (k - 1)) = tn xs k - tn xs (k - 1) := IntWalk.i64_in _ (by omega)
        by_cases p : 13 < tn xs k - tn xs (k - 1)
        · have hv := Lib.hid (HV.out.1 (wideK_yes (xs := xs) (n := n) (k := k) (by omega) hlt p))
          have e1 : decide (13 < tn xs k - tn xs (k - 1)) = true := decide_eq_true p
          clear hkl hkp b1 b2 b3 hk p
          generalize tn xs k = x at *
          generalize tn xs (k - 1) = y at *
          generalize k - 1 = k' at *
          go_wp2
          go_quiet (fail)
          generalize hwz : World.drewN wr _ = wz
          have bz : Below w.heap.size w wz := by rw [← hwz]; exact bdrew B1.out _
          clear hwz
          go_wp2_with (((with_reducible refine is_bslice 24 0 _ rfl ?_); refine wpList_bslice rfl 24 0 _ rfl #[] (by simp) _ (run_noT _) ?_))
          go_ret2
          exact ⟨⟨_, by rw [hv.out]; rfl, by rw [hv.out]; exact OwnT.empty rfl bz.size⟩, bnew bz _⟩
        · have hv := Lib.hid (show wideK xs (k + 1) = false from by
            show (wideK xs k || (decide (0 < k) && decide (13 < tn xs k - tn xs (k - 1)))) = false
            rw [hwd.out, decide_eq_false p, Bool.and_false]; rfl)
          have e1 : decide (13 < tn xs k - tn xs (k - 1)) = false := decide_eq_false p
          have H1 := Lib.hid A1
          clear hkl hkp b1 b2 b3 p A1 hwd
          generalize tn xs k = x at *
          generalize tn xs (k - 1) = y at *
          generalize k - 1 = k' at *
          go_wp2
          go_quiet (fail)
          go_wp2
          exact ⟨⟨k + 1, by omega, by omega, by go_num, H1.out.drewN _, Lib.hid (bdrew B1.out _), hv⟩, by simp [intOf]; omega⟩
      · have hwn := Lib.hid (show wideK xs n = false from by
          rcases hk with h | ⟨h, -⟩
          · obtain rfl : k = n := by omega
            exact hwd.out
          · rw [h]; rfl)
        have kd : ¬ (k : Int) < (n : Int) := by omega
        have HF := Lib.hid (HF.out hwn.out)
        have HV := Lib.hid (And.intro (HV.out.2.1 hwn.out) (HV.out.2.2 hwn.out))
        have A2 := A1.alloc (.cells #[] 111)
        have O2 := OwnT.empty (w := wr) (lo := w.heap.size) rfl B1.out.size
        have B2 := Lib.hid (bnew B1.out (.cells #[] 111))
        clear A1 B1 hwd hk hk1
        go_wp2_with (((with_reducible refine is_bslice 24 0 _ rfl ?_); refine wpList_bslice rfl 24 0 _ rfl #[] (by simp) _ (run_noT _) ?_))
        go_loopw [5, 6] (fun v iv wr => ∃ k : Nat, k ≤ n ∧ iv = .int .i64 (k : Int) ∧ OwnT wr w.heap.size v (fillK xs k) ∧ At wr G (tC xs) T ∧ Hid (Below w.heap.size w wr)) (fun _ iv _ => n - (intOf iv).toNat)
        case atStart => exact ⟨0, by omega, rfl, O2, A2, B2⟩
        case round =>
          clear A2 B2 O2 kd hlt
          obtain ⟨k, hk, rfl, O1, A1, B1⟩ := hrel
          obtain ⟨va, vc, rfl⟩ := O1.any
          have hfl := HF.out k hk
          obtain ⟨i0, hi, hz0, hz1, hz2⟩ := info_tally
          by_cases hlt : k < n
          · have s2 : IntKind.i64.wrap ((k : Int) + 1) = (k : Int) + 1 := IntWalk.i64_in _ (by omega)
            have kd : (k : Int) < (n : Int) := by omega
            have hkl : k < xs.length := by rw [← HN.out]; exact hlt
            have hsl := tC_tally hkl (k := k * 3) rfl
            have SS := tC_size xs
            have hle : k * 3 + 3 ≤ (tC xs).size := by rw [SS]; omega
            have HS := Lib.hid (show fillK xs (k + 1) = fillK xs k ++ stepL xs k ++ [tr3 xs k] from rfl)
            have HT := Lib.hid (show tr3 xs k = (tn xs k, tc xs k, tf xs k) from rfl)
            clear SS
            by_cases z : k = 0
            · have z1 : decide (0 < (k : Int)) = false := decide_eq_false (by omega)
              have z2 : ¬ (0 : Int) < (k : Int) := by omega
              have hst := Lib.hid (show stepL xs k = [] from by unfold stepL; rw [if_pos z])
              generalize tn xs k = tk at *
              generalize tc xs k = ck at *
              generalize tf xs k = fk at *
              clear z
              have hws : w.heap.size ≤ wr.heap.size := B1.out.size
              go_wp2_with (first | ((with_reducible refine is_load 111 _ rfl ?_); refine wpList_load_part rfl 111 _ rfl _ (k * 3) rfl (tC xs) _ (by with_reducible assumption) 3 (hle) _ Try.underlying111 rfl (by kernel_rfl) ((t1 tk ck fk)) (hsl) ?_) | ((with_reducible refine is_bslice 24 1 _ rfl ?_); refine wpList_bslice rfl 24 1 _ rfl #[(0, .agg (t1 tk ck fk))] (by kernel_rfl) _ (run_oneT _ tk ck fk) ?_) | (at_builtin; go_loud (refine wpList_append_own _ rfl _ _ 24 rfl w.heap.size 111 i0 (.agg #[.int .i64 0, .int .i16 0, .int .i16 0]) 3 16 Try.underlying24 hi hz0 hz1 hz2 rfl (by decide) _ (fillK xs k).length _ rfl (O1.step (b0 _ _)) ⟨wr.heap.size, 0, none⟩ 1 1 (tll (tk, ck, fk)) rfl rfl (one_cellsT wr tk ck fk) (tll_one _) (by unfold maxLen; omega) (by omega) (by rw [World.size_alloc]; omega) ?_)))
              intro v'' w8 hown hgrow _
              have O8 := OwnT.grown hown
              have hb8 : Below w.heap.size (wr.alloc (.cells (t1 tk ck fk) 111)) w8 := Below.grownBy hgrow (by rw [World.size_alloc]; omega) (fun q hq => (O1.block q hq).1)
              have B8 := Lib.hid ((bnew B1.out (.cells (t1 tk ck fk) 111)).trans hb8)
              have A8 : At w8 G (tC xs) T := (hb8.block _ HG.out).trans (A1.alloc (.cells (t1 tk ck fk) 111))
              have O9 : OwnT w8 w.heap.size v'' (fillK xs (k + 1)) := by rw [HS.out, hst.out, List.append_nil, HT.out]; exact O8
              clear hown hgrow hb8 O8
              go_wp2_with fail
              exact ⟨⟨k + 1, by omega, by go_num, O9, A8, B8⟩, by simp [intOf]; omega⟩
            · have z1 : decide (0 < (k : Int)) = true := decide_eq_true (by omega)
              have z2 : (0 : Int) < (k : Int) := by omega
              have z3 : 0 < k := by omega
              have z4 : decide (0 < k) = true := decide_eq_true z3
              have s3 : IntKind.i64.wrap ((k : Int) - 1) = ((k - 1 : Nat) : Int) := by rw [IntWalk.i64_in _ (by omega)]; omega
              have hkp : k - 1 < xs.length := by omega
              have kn : ((k - 1 : Nat) : Int) < (n : Int) := by omega
              have kn0 : (0 : Int) ≤ ((k - 1 : Nat) : Int) := by omega
              have hst := Lib.hid (show stepL xs k = gapL (tn xs (k - 1), tc xs (k - 1), tf xs (k - 1)) (tn xs k, tc xs k, tf xs k) from by unfold stepL; rw [if_neg z]; rfl)
              have hgap := wideK_no hwn.out (k := k) (by omega) hlt
              obtain ⟨c1, c2, c3, c4⟩ := okT_at HO.out.1 hkl
              obtain ⟨e1, e2, e3, -⟩ := okT_at HO.out.1 hkp
              have g1 := (HO.out.2.at hkl).2
              have g2 := (HO.out.2.at hkp).2
              unfold I16 at g1 g2
              have hlt2 : tn xs (k - 1) < tn xs k := by rcases c4 with c4 | c4; exact absurd c4 z; exact c4
              have H0 := Lib.hid (show ∀ w', At w' G (tC xs) T → w'.cell? ⟨G, (k - 1) * 3, none⟩ = some (.int .i64 (tn xs (k - 1))) ∧ w'.cell? ⟨G, k * 3, none⟩ = some (.int .i64 (tn xs k)) from fun w' hA => ⟨hA.cell (tC_turn hkp rfl), hA.cell (tC_turn hkl rfl)⟩)
              have hc1 := tC_count hkp (k := (k - 1) * 3 + 1) rfl
              have hc2 := tC_count hkl (k := k * 3 + 1) rfl
              have hc3 := tC_full hkp (k := (k - 1) * 3 + 2) rfl
              have hc4 := tC_full hkl (k := k * 3 + 2) rfl
              have HR := Lib.hid (show ((0 ≤ tn xs (k - 1) ∧ tn xs (k - 1) < tn xs k) ∧ tn xs k ≤ 65535 ∧ tn xs k - tn xs (k - 1) ≤ 13) ∧ (0 ≤ tc xs (k - 1) ∧ tc xs (k - 1) ≤ 32767) ∧ (0 ≤ tc xs k ∧ tc xs k ≤ 32767) ∧ (0 ≤ tf xs (k - 1) ∧ tf xs (k - 1) ≤ 32767) ∧ (0 ≤ tf xs k ∧ tf xs k ≤ 32767) from by omega)
              clear hgap c1 c2 c3 c4 e1 e2 e3 g1 g2 hlt2 hkp hkl z
              generalize tn xs k = tk at *
              generalize tc xs k = ck at *
              generalize tf xs k = fk at *
              generalize tn xs (k - 1) = tp at *
              generalize tc xs (k - 1) = cp at *
              generalize tf xs (k - 1) = fp at *
              generalize hpp : (k - 1) * 3 = pp at *
              generalize hqq : k * 3 = qq at *
              have d0 := (H0.out wr A1).1
              have s0 : IntKind.i64.wrap (tp + 1) = tp + 1 := IntWalk.i64_in _ (by have := HR.out; omega)
              obtain ⟨m, hm⟩ : ∃ m : Nat, (m : Int) = tk - tp - 1 := ⟨(tk - tp - 1).toNat, by have := HR.out; omega⟩
              have hgl := Lib.hid (show gapL (tp, cp, fp) (tk, ck, fk) = gapK (tp, cp, fp) (tk, ck, fk) m from by unfold gapL; congr 1; show (tk - tp - 1).toNat = m; omega)
              have HO0 := Lib.hid (show OwnT wr w.heap.size (.slice va (fillK xs k).length vc) (fillK xs k ++ gapK (tp, cp, fp) (tk, ck, fk) 0) from by
                show OwnT wr w.heap.size _ (fillK xs k ++ [])
                rw [List.append_nil]; exact O1)
              have HAB := Lib.hid (And.intro A1 B1.out)
              have HM := Lib.hid (And.intro hm (show k ≤ 96 from by omega))
              clear A1 B1 O1 hm
              go_wp2_with fail
              clear d0
              go_loopw [5, 9] (fun v uv wr => ∃ j : Nat, j ≤ m ∧ uv = .int .i64 (tp + 1 + (j : Int)) ∧ OwnT wr w.heap.size v (fillK xs k ++ gapK (tp, cp, fp) (tk, ck, fk) j) ∧ At wr G (tC xs) T ∧ Hid (Below w.heap.size w wr)) (fun _ u _ => (tk - intOf u).toNat)
              case atStart => exact ⟨0, by omega, by simp, HO0.out, HAB.out.1, Lib.hid HAB.out.2⟩
              case round =>
                clear HO0 HAB
                obtain ⟨j, hj, rfl, O3, A3, B3⟩ := hrel
                obtain ⟨d0, d1⟩ := H0.out _ A3
                obtain ⟨va3, vc3, rfl⟩ := O3.any
                by_cases hjm : j < m
                · have hm := HM.out.1
                  have hr := HR.out
                  have kd2 : tp + 1 + (j : Int) < tk := by omega
                  have dd : decide (tp + 1 + (j : Int) < tk) = true := decide_eq_true kd2
                  have t1' : IntKind.i64.wrap (tp + 1 + (j : Int) + 1) = tp + 1 + (j : Int) + 1 := IntWalk.i64_in _ (by omega)
                  have t2' : IntKind.i64.wrap (tp + 1 + (j : Int) - tp) = tp + 1 + (j : Int) - tp := IntWalk.i64_in _ (by omega)
                  have t3' : IntKind.i64.wrap (tk - tp) = tk - tp := IntWalk.i64_in _ (by omega)
                  have f1 : floatOfInt .f32 (tp + 1 + (j : Int) - tp) = fI (tp + 1 + (j : Int) - tp) := rfl
                  have f2 : floatOfInt .f32 (tk - tp) = fI (tk - tp) := rfl
                  obtain ⟨o1, hq⟩ := prt_ops (u := tp + 1 + (j : Int) - tp) (d := tk - tp) (by omega) hr.1.2.2
                  have q1 := fun t w => run_float_arith (P := Try.prog) w .quo t .f32 _ _ _ o1
                  have KC := fun w' => l05Between_any cp ck hr.2.1 hr.2.2.1 (prt (tp + 1 + (j : Int) - tp) (tk - tp)) hq w'
                  have KF := fun w' => l05Between_any fp fk hr.2.2.2.1 hr.2.2.2.2 (prt (tp + 1 + (j : Int) - tp) (tk - tp)) hq w'
                  have hnext := Lib.hid (show fillK xs k ++ gapK (tp, cp, fp) (tk, ck, fk) (j + 1) = (fillK xs k ++ gapK (tp, cp, fp) (tk, ck, fk) j) ++ [(tp + 1 + (j : Int), cntB (btwB cp ck (prt (tp + 1 + (j : Int) - tp) (tk - tp))), cntB (btwB fp fk (prt (tp + 1 + (j : Int) - tp) (tk - tp))))] from by
                    rw [gapK_next, ← List.append_assoc]; rfl)
                  have hlL : (fillK xs k ++ gapK (tp, cp, fp) (tk, ck, fk) j).length ≤ 2000 := by rw [List.length_append, gapK_len]; have := HM.out.2; omega
                  have hm2 : (tk - (tp + 1 + (j : Int) + 1)).toNat < (tk - (tp + 1 + (j : Int))).toNat := by omega
                  have hu : tp + 1 + (j : Int) + 1 = tp + 1 + ((j + 1 : Nat) : Int) := by omega
                  have HU := Lib.hid (And.intro hm2 hu)
                  clear o1 hq hm2 hu hm hr
                  generalize cntB (btwB cp ck (prt (tp + 1 + (j : Int) - tp) (tk - tp))) = cv at *
                  generalize cntB (btwB fp fk (prt (tp + 1 + (j : Int) - tp) (tk - tp))) = fv at *
                  generalize prt (tp + 1 + (j : Int) - tp) (tk - tp) = q at *
                  generalize fI (tp + 1 + (j : Int) - tp) = X at *
                  generalize fI (tk - tp) = Y at *
                  generalize fillK xs k ++ gapK (tp, cp, fp) (tk, ck, fk) j = L3 at *
                  generalize tp + 1 + (j : Int) = u at *
                  go_wp2_with fail
                  go_quiet (fail)
                  go_wp2_with fail
                  generalize hw3 : World.drewN wr _ = w3
                  replace A3 : At w3 G (tC xs) T := by rw [← hw3]; exact A3.drewN _
                  replace O3 : OwnT w3 w.heap.size (.slice va3 L3.length vc3) L3 := by rw [← hw3]; exact O3.step (bdrew (Below.refl _ _) _)
                  replace B3 : Hid (Below w.heap.size w w3) := Lib.hid (by rw [← hw3]; exact bdrew B3.out _)
                  clear hw3 H0 d0 d1
                  refine wp_region_held (S := fun w' => At w' G (tC xs) T) (by kernel_rfl) ?_
                  show wpAnyH _ _ _ _ _ 26 (Array.replicate 26 false) _ _
                  have SS : At { w3 with drawn := w3.drawn + 1 } G (tC xs) T := A3
                  have O4 : OwnT { w3 with drawn := w3.drawn + 1 } w.heap.size (.slice va3 L3.length vc3) L3 := O3
                  have B4 : Hid (Below w.heap.size w { w3 with drawn := w3.drawn + 1 }) := Lib.hid ⟨B3.out.1, B3.out.2, B3.out.3, B3.out.4, B3.out.5⟩
                  generalize ({ w3 with drawn := w3.drawn + 1 } : World) = w4 at SS O4 B4 ⊢
                  clear A3 O3 B3
                  refine wpAnyH_take (i := 0) (v := .slice va3 L3.length vc3) rfl (by kernel_rfl) (by kernel_rfl) (by kernel_rfl) (fun _ _ _ h => h) (yif rfl fun w' hw' => x_moved (.tmp 5) rfl (by kernel_rfl)) SS ?_
                  refine wpAnyH_take (i := 1) (v := .int .i64 u) rfl (by kernel_rfl) (by kernel_rfl) (by kernel_rfl) (fun _ _ _ h => h) (yif rfl fun w' hw' => x_moved (.tmp 9) rfl (by kernel_rfl)) SS ?_
                  refine wpAnyH_take (i := 2) (v := .pointer (some ⟨G, pp, none⟩)) rfl (by kernel_rfl) (by kernel_rfl) (by kernel_rfl) (fun _ _ _ h => h) (yif rfl fun w' hw' => x_moved (.tmp 7) rfl (by kernel_rfl)) SS ?_
                  refine wpAnyH_take (i := 3) (v := .pointer (some ⟨G, pp, none⟩)) rfl (by kernel_rfl) (by kernel_rfl) (by kernel_rfl) (fun _ _ _ h => h) (yif rfl fun w' hw' => by kernel_rfl) SS ?_
                  refine wpAnyH_take (i := 4) (v := .pointer (some ⟨G, pp + 1, none⟩)) rfl (by kernel_rfl) (by kernel_rfl) (by kernel_rfl) (fun _ _ _ h => h) (yif rfl fun w' hw' => by kernel_rfl) SS ?_
                  refine wpAnyH_take (i := 5) (v := .int .i16 cp) rfl (by kernel_rfl) (by kernel_rfl) (by kernel_rfl) (fun _ _ _ h => h) (yif rfl fun w' hw' => x_cell 34 (.tmp 86) rfl ⟨G, pp + 1, none⟩ (by kernel_rfl) _ Try.underlying34 rfl (hw'.cell (hc1))) SS ?_
                  refine wpAnyH_take (i := 6) (v := .pointer (some ⟨G, qq, none⟩)) rfl (by kernel_rfl) (by kernel_rfl) (by kernel_rfl) (fun _ _ _ h => h) (yif rfl fun w' hw' => x_moved (.tmp 8) rfl (by kernel_rfl)) SS ?_
                  refine wpAnyH_take (i := 7) (v := .pointer (some ⟨G, qq, none⟩)) rfl (by kernel_rfl) (by kernel_rfl) (by kernel_rfl) (fun _ _ _ h => h) (yif rfl fun w' hw' => by kernel_rfl) SS ?_
                  refine wpAnyH_take (i := 8) (v := .pointer (some ⟨G, qq + 1, none⟩)) rfl (by kernel_rfl) (by kernel_rfl) (by kernel_rfl) (fun _ _ _ h => h) (yif rfl fun w' hw' => by kernel_rfl) SS ?_
                  refine wpAnyH_take (i := 9) (v := .int .i16 ck) rfl (by kernel_rfl) (by kernel_rfl) (by kernel_rfl) (fun _ _ _ h => h) (yif rfl fun w' hw' => x_cell 34 (.tmp 90) rfl ⟨G, qq + 1, none⟩ (by kernel_rfl) _ Try.underlying34 rfl (hw'.cell (hc2))) SS ?_
                  refine wpAnyH_take (i := 10) (v := .float .f32 q) rfl (by kernel_rfl) (by kernel_rfl) (by kernel_rfl) (fun _ _ _ h => h) (yif rfl fun w' hw' => x_moved (.tmp 10) rfl (by kernel_rfl)) SS ?_
                  refine wpAnyH_take (i := 12) (v := .pointer (some ⟨G, pp, none⟩)) rfl (by kernel_rfl) (by kernel_rfl) (by kernel_rfl) (fun _ _ _ h => h) (yif rfl fun w' hw' => x_moved (.tmp 7) rfl (by kernel_rfl)) SS ?_
                  refine wpAnyH_take (i := 13) (v := .pointer (some ⟨G, pp, none⟩)) rfl (by kernel_rfl) (by kernel_rfl) (by kernel_rfl) (fun _ _ _ h => h) (yif rfl fun w' hw' => by kernel_rfl) SS ?_
                  refine wpAnyH_take (i := 14) (v := .pointer (some ⟨G, pp + 2, none⟩)) rfl (by kernel_rfl) (by kernel_rfl) (by kernel_rfl) (fun _ _ _ h => h) (yif rfl fun w' hw' => by kernel_rfl) SS ?_
                  refine wpAnyH_take (i := 15) (v := .int .i16 fp) rfl (by kernel_rfl) (by kernel_rfl) (by kernel_rfl) (fun _ _ _ h => h) (yif rfl fun w' hw' => x_cell 34 (.tmp 96) rfl ⟨G, pp + 2, none⟩ (by kernel_rfl) _ Try.underlying34 rfl (hw'.cell (hc3))) SS ?_
                  refine wpAnyH_take (i := 16) (v := .pointer (some ⟨G, qq, none⟩)) rfl (by kernel_rfl) (by kernel_rfl) (by kernel_rfl) (fun _ _ _ h => h) (yif rfl fun w' hw' => x_moved (.tmp 8) rfl (by kernel_rfl)) SS ?_
                  refine wpAnyH_take (i := 17) (v := .pointer (some ⟨G, qq, none⟩)) rfl (by kernel_rfl) (by kernel_rfl) (by kernel_rfl) (fun _ _ _ h => h) (yif rfl fun w' hw' => by kernel_rfl) SS ?_
                  refine wpAnyH_take (i := 18) (v := .pointer (some ⟨G, qq + 2, none⟩)) rfl (by kernel_rfl) (by kernel_rfl) (by kernel_rfl) (fun _ _ _ h => h) (yif rfl fun w' hw' => by kernel_rfl) SS ?_
                  refine wpAnyH_take (i := 19) (v := .int .i16 fk) rfl (by kernel_rfl) (by kernel_rfl) (by kernel_rfl) (fun _ _ _ h => h) (yif rfl fun w' hw' => x_cell 34 (.tmp 100) rfl ⟨G, qq + 2, none⟩ (by kernel_rfl) _ Try.underlying34 rfl (hw'.cell (hc4))) SS ?_
                  refine wpAnyH_take (i := 20) (v := .float .f32 q) rfl (by kernel_rfl) (by kernel_rfl) (by kernel_rfl) (fun _ _ _ h => h) (yif rfl fun w' hw' => x_moved (.tmp 10) rfl (by kernel_rfl)) SS ?_
                  refine wpAnyH_all (rs := [11]) (by kernel_rfl) (by simp) fun _ hi8 => ?_
                  obtain rfl := one_of hi8
                  refine op_call (f := 78) (args := #[.int .i16 cp, .int .i16 ck, .float .f32 q]) rfl rfl (by kernel_rfl) ((KC w4).mono ?_)
                  rintro e w5 ⟨rfl, hb5⟩
                  refine ⟨_, rfl, SS.step hb5, ?_⟩
                  refine wpAnyH_all (rs := [21]) (by kernel_rfl) (by simp) fun _ hi8 => ?_
                  obtain rfl := one_of hi8
                  refine op_call (f := 78) (args := #[.int .i16 fp, .int .i16 fk, .float .f32 q]) rfl rfl (by kernel_rfl) ((KF w5).mono ?_)
                  rintro e w6 ⟨rfl, hb6⟩
                  have SS6 : At w6 G (tC xs) T := (SS.step hb5).step hb6
                  have O6 := (O4.step hb5).step hb6
                  have B6 := Lib.hid (bthen (bthen B4.out hb5) hb6)
                  refine ⟨_, rfl, SS6, ?_⟩
                  clear SS O4 B4 hb5 hb6 KC KF
                  refine wpAnyH_all (rs := [22]) (by kernel_rfl) (by simp) fun _ hi8 => ?_
                  obtain rfl := one_of hi8
                  refine op_value (v := .agg (t1 u cv fv)) rfl rfl (by kernel_rfl) ⟨SS6, ?_⟩
                  refine wpAnyH_all (rs := [23]) (by kernel_rfl) (by simp) fun _ hi8 => ?_
                  obtain rfl := one_of hi8
                  refine op_value rfl rfl (x_bslice 24 1 _ rfl #[(0, .agg (t1 u cv fv))] (by kernel_rfl) (run_oneT _ u cv fv)) ⟨SS6.alloc _, ?_⟩
                  refine wpAnyH_all (rs := [24]) (by kernel_rfl) (by simp) fun _ hi8 => ?_
                  obtain rfl := one_of hi8
                  have hws : w.heap.size ≤ w6.heap.size := B6.out.size
                  refine op_wp rfl rfl fun Q' => wp_append_own _ (.tmp 82) (.tmp 105) 24 rfl w.heap.size 111 i0 (.agg #[.int .i64 0, .int .i16 0, .int .i16 0]) 3 16 Try.underlying24 hi hz0 hz1 hz2 rfl (by decide) (.slice va3 L3.length vc3) L3.length _ (by kernel_rfl) (O6.step (b0 _ _)) ⟨w6.heap.size, 0, none⟩ 1 1 (tll (u, cv, fv)) (by kernel_rfl) rfl (one_cellsT w6 u cv fv) (tll_one _) (by unfold maxLen; omega) (by omega) (by rw [World.size_alloc]; omega) ?_
                  intro v' wn hown hgrow _
                  have O8 := OwnT.grown hown
                  have hb8 : Below w.heap.size (w6.alloc (.cells (t1 u cv fv) 111)) wn := Below.grownBy hgrow (by rw [World.size_alloc]; omega) (fun q hq => (O6.block q hq).1)
                  have B8 := Lib.hid ((bnew B6.out (.cells (t1 u cv fv) 111)).trans hb8)
                  have A8 : At wn G (tC xs) T := (hb8.block _ HG.out).trans (SS6.alloc (.cells (t1 u cv fv) 111))
                  clear hown hgrow hb8 SS6 O6 B6
                  refine ⟨A8, ?_⟩
                  refine wpAnyH_all (rs := [25]) (by kernel_rfl) (by simp) fun _ hi8 => ?_
                  obtain rfl := one_of hi8
                  refine op_value (v := v') rfl rfl (x_assigned (.tmp 106) rfl (by kernel_rfl)) ⟨A8, ?_⟩
                  refine wpAnyH_done (by kernel_rfl) ?_ _
                  go_simp
                  go_wp2_with fail
                  exact ⟨⟨j + 1, by omega, by rw [← HU.out.2], by rw [hnext.out]; exact O8, A8, B8⟩, by simp [intOf]; have := HU.out.1; omega⟩
                · obtain rfl : j = m := by omega
                  have kd2 : ¬ tp + 1 + (j : Int) < tk := by have := HM.out.1; omega
                  have dd : decide (tp + 1 + (j : Int) < tk) = false := decide_eq_false kd2
                  have hlL : (fillK xs k ++ gapK (tp, cp, fp) (tk, ck, fk) j).length ≤ 2000 := by rw [List.length_append, gapK_len]; have := HM.out.2; have := HM.out.1; have := HR.out; omega
                  have heq := Lib.hid (show fillK xs (k + 1) = (fillK xs k ++ gapK (tp, cp, fp) (tk, ck, fk) j) ++ [(tk, ck, fk)] from by rw [HS.out, hst.out, hgl.out, HT.out])
                  clear hgl hst HS
                  generalize fillK xs k ++ gapK (tp, cp, fp) (tk, ck, fk) j = L3 at *
                  have hws : w.heap.size ≤ wr.heap.size := B3.out.size
                  go_wp2_with (first | ((with_reducible refine is_load 111 _ rfl ?_); refine wpList_load_part rfl 111 _ rfl _ qq rfl (tC xs) _ (by with_reducible assumption) 3 (hle) _ Try.underlying111 rfl (by kernel_rfl) ((t1 tk ck fk)) (hsl) ?_) | ((with_reducible refine is_bslice 24 1 _ rfl ?_); refine wpList_bslice rfl 24 1 _ rfl #[(0, .agg (t1 tk ck fk))] (by kernel_rfl) _ (run_oneT _ tk ck fk) ?_) | (at_builtin; go_loud (refine wpList_append_own _ rfl _ _ 24 rfl w.heap.size 111 i0 (.agg #[.int .i64 0, .int .i16 0, .int .i16 0]) 3 16 Try.underlying24 hi hz0 hz1 hz2 rfl (by decide) _ (L3).length _ rfl (O3.step (b0 _ _)) ⟨wr.heap.size, 0, none⟩ 1 1 (tll (tk, ck, fk)) rfl rfl (one_cellsT wr tk ck fk) (tll_one _) (by unfold maxLen; omega) (by omega) (by rw [World.size_alloc]; omega) ?_)))
                  intro v'' w8 hown hgrow _
                  have O8 := OwnT.grown hown
                  have hb8 : Below w.heap.size (wr.alloc (.cells (t1 tk ck fk) 111)) w8 := Below.grownBy hgrow (by rw [World.size_alloc]; omega) (fun q hq => (O3.block q hq).1)
                  have B8 := Lib.hid ((bnew B3.out (.cells (t1 tk ck fk) 111)).trans hb8)
                  have A8 : At w8 G (tC xs) T := (hb8.block _ HG.out).trans (A3.alloc (.cells (t1 tk ck fk) 111))
                  have O9 : OwnT w8 w.heap.size v'' (fillK xs (k + 1)) := by rw [heq.out]; exact O8
                  clear hown hgrow hb8 O8
                  go_wp2_with fail
                  exact ⟨⟨k + 1, by omega, by go_num, O9, A8, B8⟩, by simp [intOf]; omega⟩
          · obtain rfl : k = n := by omega
            by_cases q : (fillK xs k).length ≤ 96
            · have q' : ¬ (96 : Int) < ((fillK xs k).length : Int) := by omega
              have hv := Lib.hid (HV.out.1 q)
              go_wp2_with fail
              go_ret2
              exact ⟨⟨_, by rw [hv.out]; rfl, by rw [hv.out]; exact O1⟩, B1.out⟩
            · have q' : (96 : Int) < ((fillK xs k).length : Int) := by omega
              have hv := Lib.hid (HV.out.2 q)
              go_wp2_with (((with_reducible refine is_bslice 24 0 _ rfl ?_); refine wpList_bslice rfl 24 0 _ rfl #[] (by simp) _ (run_noT _) ?_))
              go_ret2
              exact ⟨⟨_, by rw [hv.out]; rfl, by rw [hv.out]; exact OwnT.empty rfl B1.out.size⟩, bnew B1.out _⟩

end Go.Proofs.Ytlffcpoooaoneaa
