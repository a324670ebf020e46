/-
  CONTRACTS: WaveOf, the program.
-/
import Derived.Test.YtboahhipobcababG19
import Derived.Test.YtboahhipobcababG18
import Derived.Test.YtboahhipobcababG13
namespace Go.Proofs.Ytboahhipobcabab
open Go Go.ChangeShapes Go.WideShapes Go.ChangeAt Go.RowKit
set_option maxRecDepth 100000

theorem x_bsliceW {P : Program} {o : Oper} {a : Act} {w w' : World} {v : Value} (t : TypeId) (len : Nat) (parts : Array (Nat × Operand)) (ho : o.op = .buildSlice t len parts) (ps : Array (Nat × Value)) (hps : (parts.map fun (i, x) => (i, a.eval x)) = ps) (hrun : (Instr.buildSlice t len ps).run P w = .ok v w') : (execOp a.eval o).run P w = .ok (.value v) w' := by
  unfold execOp
  simp only [ho, hps, Sem.run_bind, hrun, Sem.run_pure, Result.andThen_ok]

theorem op_wpW {P : Program} {ops : Array Oper} {Q : Exit → Act → World → Prop} {o : Oper} {i : Nat} {K : Act → World → Prop} {a : Act} {w : World} (ho : ops[i]? = some o) (hg : o.guard = none) (h : ∀ Q', o.wp P a w K Q') : wpOp P ops Q i K a w := by
  unfold wpOp
  simp only [ho, wanted_none hg, if_true]
  exact .inl (h _)

set_option maxHeartbeats 4000000 in
theorem WaveOf_any (G : Nat) (gs : Nat → Nat) (ps : Ps) (T : TypeId) (H : Nat) (ts : List Int) (T4 : TypeId) (mv : Int) (hW : ∀ i, i < ps.length → SlW (pS ps i)) (hn : ps.length ≤ 1048576) (ht : ts.length ≤ 1048576) (w : World) (P0 : PB w G gs ps T) (H0 : At w H (il ts) T4) :
    Calls Try.prog 13 #[.slice (some ⟨G, 0, none⟩) ps.length ps.length, .slice (some ⟨H, 0, none⟩) ts.length ts.length, .int .i64 mv] w fun e w' => (∃ v l, e = .returned (.tuple #[v, .int .i64 (rowC ps ts mv)]) ∧ OwnPs w' w.heap.size v (vWv ps ts mv) l) ∧ Below w.heap.size w w' := by
  have KR := refusalOfWave_any G gs ps T H ts T4 mv hW hn ht w P0 H0
  by_cases hc : rowC ps ts mv = 0
  · obtain ⟨⟨m, rfl, hm⟩, hok, hn6, htn, hts⟩ := rowC_parts hc
    have hgn := rowC_gn hc
    have hv := Lib.hid (show vWv ps ts m = wvL ps ts m ps.length from by unfold vWv; rw [if_pos hc, Int.toNat_natCast])
    rw [hc] at KR ⊢
    have h0l : 0 < ps.length := by omega
    have KS := Lib.hid (fun (j : Nat) (hj : j < ps.length) (d : Int) (hd : -1000000 ≤ d ∧ d ≤ 1000000) w' (hb : Below w.heap.size w w') => shifted_any (gs j) (pS ps j) (pB ps j) (pO ps j) (hW j hj) (by have := (okP_parts (hok j hj)).1; omega) 107 (hok j hj) d hd w' ((P0.sl j hj).step hb))
    have KF := Lib.hid (fun (j : Nat) (hj : j < ps.length) w' (hb : Below w.heap.size w w') => firstGreenZ_any (pS ps j).length #[] (gs j) (pS ps j) (pB ps j) (pO ps j) (hW j hj) 107 (hok j hj) m hm (hgn j hj) w' (by rw [show slY (pS ps j) #[] = slC (pS ps j) from by unfold slY; simp]; exact (P0.sl j hj).step hb))
    have KO := Lib.hid (fun (k : Nat) (hk : k < ps.length) (cp : Nat) (zs : Array Value) (g : Nat) w' (hA : At w' g (slY (pS ps k) zs) 107) => firstGreenZ_any cp zs g (pS ps k) (pB ps k) (ofW ps ts m k) (hW k hk) 107 (okP_off (hok k hk) (ofW_ok k (by obtain ⟨-, -, -, -, ho⟩ := okP_parts (hok k hk); omega))) m hm (hgn k hk) w' hA)
    have HB := Lib.hid (fun (k : Nat) (hk : k < ps.length) => show (0 ≤ ofW ps ts m k ∧ ofW ps ts m k ≤ 240) ∧ bg (pS ps k) (pB ps k) m ≤ 240 ∧ (0 ≤ pO ps k ∧ pO ps k ≤ 240) ∧ (pS ps k).length ≠ 0 from by
      obtain ⟨hl, -, -, hc1, ho⟩ := okP_parts (hok k hk)
      have h1 := ofW_ok (ps := ps) (ts := ts) (m := m) k (by omega)
      have h2 := bg_lt (by omega) (hgn k hk)
      exact ⟨⟨by omega, by omega⟩, by omega, ⟨by omega, by omega⟩, by omega⟩)
    have HX := Lib.hid (And.intro P0.row (And.intro H0 (And.intro hW hts)))
    obtain ⟨n, hnn⟩ : ∃ n, n = ps.length := ⟨_, rfl⟩
    obtain ⟨t, htt⟩ : ∃ t, t = ts.length := ⟨_, rfl⟩
    have hpl0 := pvC_at (l := pvs gs ps n n) (by rw [pvs_len, hnn]; exact h0l) (pvs_at (by rw [hnn]; exact h0l) (by rw [hnn]; exact h0l)) (rfl : 0 = 0 * 3)
    have hle0 : 0 + 3 ≤ (pvC (pvs gs ps n n)).size := by rw [pvC_size, pvs_len]; omega
    have HN := Lib.hid hnn
    have HT := Lib.hid htt
    rw [← hnn] at KR HX h0l hn6 htn hv ⊢
    rw [← htt] at KR htn ⊢
    have kd0 : (0 : Int) < (n : Int) := by omega
    have KS0 := KS.out 0 (by rw [← HN.out]; omega) 0 (by omega)
    rw [Int.add_zero] at KS0
    obtain ⟨o0, ho0⟩ : ∃ o0, o0 = pO ps 0 % cyc (pS ps 0) (pB ps 0) := ⟨_, rfl⟩
    have HO0 := Lib.hid ho0
    rw [← ho0] at KS0
    clear ho0
    clear hnn htt hok hts hgn hc P0 H0 hW hn ht
    go_enter Try.func13, Try.ntmps13
    go_wp2_with fail
    refine KR.mono ?_
    rintro e w1 ⟨rfl, hb1⟩
    have R1 := HX.out.1.step hb1
    clear KR
    go_wp2_with ((with_reducible refine is_load 41 _ rfl ?_); refine wpList_load_part rfl 41 _ rfl _ 0 rfl (pvC (pvs gs ps n n)) _ (by with_reducible assumption) 3 hle0 _ Try.underlying41 rfl (by kernel_rfl) (plC (.slice (some ⟨gs 0, 0, none⟩) (pS ps 0).length (pS ps 0).length) (pB ps 0) (pO ps 0)) hpl0 ?_)
    refine (KS0 w1 hb1).mono ?_
    rintro e w2 ⟨⟨u, rfl, O2⟩, hb2⟩
    obtain ⟨ua, uc, rfl⟩ := O2.any
    have B2 := Lib.hid (bthen hb1 hb2)
    have O3 := OwnPs.one (b := pB ps 0) (o := o0) B2.out.size (O2.low hb1.size)
    have B3 := Lib.hid (bnew B2.out (.cells (plC (.slice ua (pS ps 0).length uc) (pB ps 0) o0) 41))
    have Z3 := Lib.hid (show [(pS ps 0, pB ps 0, o0)] = wvL ps ts m 1 from by rw [HO0.out]; rfl)
    clear KS0 hb1 hb2 R1 O2 B2 hle0 hpl0
    go_wp2_with (first | ((with_reducible refine is_bslice 25 1 _ rfl ?_); refine wpList_bslice rfl 25 1 _ rfl (#[(0, .agg (plC (.slice ua (pS ps 0).length uc) (pB ps 0) o0))]) (by kernel_rfl) _ (run_onePl _ (.slice ua (pS ps 0).length uc) (pB ps 0) _ rfl) ?_))
    go_loopw [28, 9] (fun iv v wr => ∃ k : Nat, k ≤ t ∧ iv = .int .i64 (k : Int) ∧ (∃ l, OwnPs wr w.heap.size v (wvL ps ts m (k + 1)) l) ∧ Hid (Below w.heap.size w wr)) (fun iv _ _ => t - (intOf iv).toNat)
    case atStart => exact ⟨0, by omega, rfl, ⟨_, by rw [← Z3.out]; exact O3⟩, B3⟩
    case round =>
      clear O3 B3 Z3
      obtain ⟨k, hk, rfl, ⟨l, O4⟩, B4⟩ := hrel
      by_cases hlt : k < t
      · have kd : (k : Int) < (t : Int) := by omega
        have hkt : k < ts.length := by rw [← HT.out]; exact hlt
        have hkp : k < ps.length := by rw [← HN.out]; omega
        obtain ⟨j, hj⟩ : ∃ j, j = k + 1 := ⟨_, rfl⟩
        have hjp : j < ps.length := by rw [← HN.out]; omega
        have hjn : j < n := by omega
        have s2 : IntKind.i64.wrap ((k : Int) + 1) = (j : Int) := by rw [IntWalk.i64_in _ (by omega)]; omega
        have kdj : (j : Int) < (n : Int) := by omega
        have hx := HX.out.2.2.2 k hkt
        obtain ⟨hq1, hq2, -, hq3⟩ := HB.out k hkp
        obtain ⟨-, hq4, hq5, -⟩ := HB.out j hjp
        have hl4 : l.length = k + 1 := by rw [O4.len, wvL_len]
        obtain ⟨u, hu1, hu2⟩ := O4.at' k (by rw [wvL_len]; omega)
        rw [wvL_B (by omega), wvL_O (by omega)] at hu1
        rw [wvL_S (by omega)] at hu2
        obtain ⟨g, cap, cur, hvv, hg0, hA4, hcap, hcs, hcc⟩ := O4.own.at (by omega)
        subst hvv
        obtain ⟨gu, cu, zs, rfl, hgu, hAu⟩ := hu2.atZ hq3 (HX.out.2.2.1 k (by rw [HN.out]; exact hkp))
        have hplO := OwnPv.part hcs hcc (by omega) hu1
        have hleO : k * 3 + 3 ≤ cur.size := by omega
        have KO1 := fun w' hA => KO.out k hkp cu zs gu w' hA
        have KFj := KF.out j hjp
        have KSj := KS.out j hjp
        have hnx : ofW ps ts m j = (pO ps j + (ofW ps ts m k + (bg (pS ps k) (pB ps k) m : Int) + ith ts k - (pO ps j + (bg (pS ps j) (pB ps j) m : Int)))) % cyc (pS ps j) (pB ps j) := by rw [hj]; rfl
        have hsc := wvL_succ ps ts m (k + 1)
        rw [← hj] at hsc
        have hc := (HX.out.2.1.step B4.out).cell (il_get (xs := ts) (k := k) hkt)
        obtain ⟨x, hxx⟩ : ∃ x, x = ith ts k := ⟨_, rfl⟩
        obtain ⟨o1, ho1⟩ : ∃ o1, o1 = ofW ps ts m k := ⟨_, rfl⟩
        obtain ⟨o3, ho3⟩ : ∃ o3, o3 = ofW ps ts m j := ⟨_, rfl⟩
        obtain ⟨b1, hb1⟩ : ∃ b1 : Int, b1 = (bg (pS ps k) (pB ps k) m : Int) := ⟨_, rfl⟩
        obtain ⟨b2, hb2⟩ : ∃ b2 : Int, b2 = (bg (pS ps j) (pB ps j) m : Int) := ⟨_, rfl⟩
        rw [← hxx] at hc hx hnx
        rw [← ho1] at KO1 hq1 hnx hplO
        rw [← hb1] at KO1 hnx
        rw [← hb2] at KFj hnx
        rw [← ho3] at hsc hnx
        have r1 : 0 ≤ b1 ∧ b1 ≤ 240 := by omega
        have r2 : 0 ≤ b2 ∧ b2 ≤ 240 := by omega
        have s9 : IntKind.i64.wrap (o1 + b1 + x) = o1 + b1 + x := IntWalk.i64_in _ (by omega)
        have hwr : IntKind.i64.wrap (o1 + b1 + x - (pO ps j + b2)) = o1 + b1 + x - (pO ps j + b2) := IntWalk.i64_in _ (by omega)
        have KSd := KSj (o1 + b1 + x - (pO ps j + b2)) (by omega)
        rw [← hnx] at KSd
        have HWR := Lib.hid hwr
        have HSC := Lib.hid hsc
        have HJ := Lib.hid hj
        clear hwr hsc hnx hxx ho1 ho3 hb1 hb2 hq1 hq2 hq3 hq4 hq5 hx hu1 hu2 hkt hkp hjp KSj hcc r1 r2
        have R4 := HX.out.1.step B4.out
        have hle : j * 3 + 3 ≤ (pvC (pvs gs ps n n)).size := by rw [pvC_size, pvs_len]; omega
        have hpl := pvC_at (l := pvs gs ps n n) (by rw [pvs_len]; exact hjn) (pvs_at hjn hjn) (rfl : j * 3 = j * 3)
        have N0 := At.new wr #[.slice none 0 0, .int .i64 0, .int .i64 0] 41
        have N1 := N0.setRow (plC (.slice (some ⟨gs j, 0, none⟩) (pS ps j).length (pS ps j).length) (pB ps j) (pO ps j))
        have hb0 := bset (b0 wr (.cells #[.slice none 0 0, .int .i64 0, .int .i64 0] 41)) (g := wr.heap.size) (Nat.le_refl _) (plC (.slice (some ⟨gs j, 0, none⟩) (pS ps j).length (pS ps j).length) (pB ps j) (pO ps j))
        have B5 := Lib.hid (bset (bnew B4.out (.cells #[.slice none 0 0, .int .i64 0, .int .i64 0] 41)) (g := wr.heap.size) B4.out.size (plC (.slice (some ⟨gs j, 0, none⟩) (pS ps j).length (pS ps j).length) (pB ps j) (pO ps j)))
        have O5 := O4.step hb0
        have A5 := hA4.step hb0
        have U5 := hAu.step hb0
        have hgl := Lib.hid (show g < wr.heap.size from hA4.lt)
        have hl4' := Lib.hid hl4
        have hd1 : (k : Int) < (l.length : Int) := by omega
        have HLK := Lib.hid (show k < l.length from by omega)
        clear hb0 O4 hA4 hAu hl4 hcap hcs hgu hg0 hj hjn
        go_wp2_with (first | ((with_reducible refine is_load 41 _ rfl ?_); refine wpList_load_part rfl 41 _ rfl _ (j * 3) rfl (pvC (pvs gs ps n n)) _ (by with_reducible assumption) 3 hle _ Try.underlying41 rfl (by kernel_rfl) (plC (.slice (some ⟨gs j, 0, none⟩) (pS ps j).length (pS ps j).length) (pB ps j) (pO ps j)) hpl ?_) | ((with_reducible refine is_store 41 _ _ rfl ?_); refine wpList_store_at rfl 41 _ _ rfl _ rfl (plC (.slice (some ⟨gs j, 0, none⟩) (pS ps j).length (pS ps j).length) (pB ps j) (pO ps j)) rfl (#[.slice none 0 0, .int .i64 0, .int .i64 0]) _ (by with_reducible assumption) 3 (plC_size _ _ _) rfl (by kernel_rfl) (pl_one _ (sl_one _ _ _) _ _) ?_) | ((with_reducible refine is_load 41 _ rfl ?_); refine wpList_load_part rfl 41 _ rfl _ (k * 3) rfl cur _ (by with_reducible assumption) 3 hleO _ Try.underlying41 rfl (by kernel_rfl) (plC (.slice (some ⟨gu, 0, none⟩) (pS ps k).length cu) (pB ps k) o1) hplO ?_))
        refine (KO1 _ U5).mono ?_
        rintro e w3 ⟨rfl, hb3⟩
        have N3 := N1.step hb3
        have O6 := O5.step hb3
        have B6 := Lib.hid (bthen B5.out hb3)
        clear U5 A5 hb3 O5 B5 N1 N0 R4 KO1 hle hpl hleO hplO hc
        go_wp2_with fail
        refine wp_region_held (S := fun w' => At w' wr.heap.size (plC (.slice (some ⟨gs j, 0, none⟩) (pS ps j).length (pS ps j).length) (pB ps j) (pO ps j)) 41 ∧ Below w.heap.size w w') (by kernel_rfl) ?_
        show wpAnyH _ _ _ _ _ 11 (Array.replicate 11 false) _ _
        have SS4 : At { w3 with drawn := w3.drawn + 1 } wr.heap.size (plC (.slice (some ⟨gs j, 0, none⟩) (pS ps j).length (pS ps j).length) (pB ps j) (pO ps j)) 41 ∧ Below w.heap.size w { w3 with drawn := w3.drawn + 1 } := ⟨N3, bdrew B6.out 1⟩
        have O7 : OwnPs { w3 with drawn := w3.drawn + 1 } w.heap.size (.slice (some ⟨g, 0, none⟩) l.length cap) (wvL ps ts m (k + 1)) l := O6.step (bdrew (Below.refl _ w3) 1)
        generalize ({ w3 with drawn := w3.drawn + 1 } : World) = w4 at SS4 O7 ⊢
        clear N3 B6 O6
        refine wpAnyH_take (i := 0) (v := .slice (some ⟨g, 0, none⟩) l.length cap) rfl (by kernel_rfl) (by kernel_rfl) (by kernel_rfl) (fun _ _ _ h => h) (yif rfl fun w2 hw2 => by kernel_rfl) (by assumption) ?_
        refine wpAnyH_take (i := 1) (v := .agg (plC (.slice (some ⟨gs j, 0, none⟩) (pS ps j).length (pS ps j).length) (pB ps j) (pO ps j))) rfl (by kernel_rfl) (by kernel_rfl) (by kernel_rfl) (fun _ _ _ h => h) (yif rfl fun w' hw' => x_load 41 (.tmp 12) rfl ⟨wr.heap.size, 0, none⟩ (by kernel_rfl) (run_plan 41 _ hw'.1 Try.underlying41 (by kernel_rfl))) (by assumption) ?_
        refine wpAnyH_take (i := 2) (v := .int .i64 (o1 + b1 + x)) rfl (by kernel_rfl) (by kernel_rfl) (by kernel_rfl) (fun _ _ _ h => h) (yif rfl fun w2 hw2 => by kernel_rfl) (by assumption) ?_
        refine wpAnyH_take (i := 3) (v := .agg (plC (.slice (some ⟨gs j, 0, none⟩) (pS ps j).length (pS ps j).length) (pB ps j) (pO ps j))) rfl (by kernel_rfl) (by kernel_rfl) (by kernel_rfl) (fun _ _ _ h => h) (yif rfl fun w' hw' => x_load 41 (.tmp 12) rfl ⟨wr.heap.size, 0, none⟩ (by kernel_rfl) (run_plan 41 _ hw'.1 Try.underlying41 (by kernel_rfl))) (by assumption) ?_
        refine wpAnyH_take (i := 4) (v := .int .i64 (m : Int)) rfl (by kernel_rfl) (by kernel_rfl) (by kernel_rfl) (fun _ _ _ h => h) (yif rfl fun w2 hw2 => by kernel_rfl) (by assumption) ?_
        refine wpAnyH_call (j := 5) (f := 61) (args := #[.agg (plC (.slice (some ⟨gs j, 0, none⟩) (pS ps j).length (pS ps j).length) (pB ps j) (pO ps j)), .int .i64 (m : Int)]) (by kernel_rfl) rfl (by kernel_rfl) (by kernel_rfl) ((KFj w4 SS4.2).mono ?_)
        rintro e w5 ⟨rfl, hb5⟩
        have SS5 : At w5 wr.heap.size (plC (.slice (some ⟨gs j, 0, none⟩) (pS ps j).length (pS ps j).length) (pB ps j) (pO ps j)) 41 ∧ Below w.heap.size w w5 := ⟨SS4.1.step hb5, bthen SS4.2 hb5⟩
        have O8 := O7.step hb5
        refine ⟨_, rfl, SS5, ?_⟩
        clear SS4 O7 hb5
        refine wpAnyH_take (i := 6) (v := .int .i64 (o1 + b1 + x - (pO ps j + b2))) rfl (by kernel_rfl) (by kernel_rfl) (by kernel_rfl) (fun _ _ _ h => h) (yif rfl fun w' hw' => by rw [← HWR.out]; kernel_rfl) (by assumption) ?_
        refine wpAnyH_call (j := 7) (f := 60) (args := #[.agg (plC (.slice (some ⟨gs j, 0, none⟩) (pS ps j).length (pS ps j).length) (pB ps j) (pO ps j)), .int .i64 (o1 + b1 + x - (pO ps j + b2))]) (by kernel_rfl) rfl (by kernel_rfl) (by kernel_rfl) ((KSd w5 SS5.2).mono ?_)
        rintro e w6 ⟨⟨u, rfl, Os⟩, hb6⟩
        obtain ⟨ua, uc, rfl⟩ := Os.any
        have SS6 : At w6 wr.heap.size (plC (.slice (some ⟨gs j, 0, none⟩) (pS ps j).length (pS ps j).length) (pB ps j) (pO ps j)) 41 ∧ Below w.heap.size w w6 := ⟨SS5.1.step hb6, bthen SS5.2 hb6⟩
        have O9 := O8.step hb6
        have Os9 := Os.low SS5.2.size
        have hnew := O8.fresh Os
        refine ⟨_, rfl, SS6, ?_⟩
        clear SS5 O8 hb6 Os
        obtain ⟨i0, hi, hz0, hz1, hz2⟩ := info_plan
        refine wpAnyH_all (rs := [8]) (by kernel_rfl) (by simp) fun _ hi8 => ?_
        obtain rfl := one_of hi8
        refine op_value rfl rfl (x_bsliceW 25 1 _ rfl #[(0, .agg (plC (.slice ua (pS ps j).length uc) (pB ps j) o3))] (by kernel_rfl) (run_onePl _ (.slice ua (pS ps j).length uc) (pB ps j) o3 rfl)) ⟨⟨SS6.1.alloc _, bnew SS6.2 _⟩, ?_⟩
        refine wpAnyH_all (rs := [9]) (by kernel_rfl) (by simp) fun _ hi8 => ?_
        obtain rfl := one_of hi8
        have hws : w.heap.size ≤ w6.heap.size := SS6.2.size
        have hll := hl4'.out
        have O10 := O9.step (b0 w6 (.cells (plC (.slice ua (pS ps j).length uc) (pB ps j) o3) 41))
        have Os10 := Os9.step (b0 w6 (.cells (plC (.slice ua (pS ps j).length uc) (pB ps j) o3) 41))
        refine op_wpW rfl rfl fun Q' => wp_append_own _ (.tmp 46) (.tmp 54) 25 rfl w.heap.size 41 i0 (.agg #[.slice none 0 0, .int .i64 0, .int .i64 0]) 3 40 Try.underlying25 hi hz0 hz1 hz2 rfl (by decide) (.slice (some ⟨g, 0, none⟩) l.length cap) l.length _ (by kernel_rfl) O10.own ⟨w6.heap.size, 0, none⟩ 1 1 (pvl (.slice ua (pS ps j).length uc, pB ps j, o3)) (by kernel_rfl) rfl (one_cellsPl w6 _ _ _) (by intro z hz; simp only [pvl, List.mem_cons, List.mem_nil_iff, or_false] at hz; rcases hz with rfl | rfl | rfl <;> rfl) (by unfold maxLen; omega) (by omega) (by rw [World.size_alloc]; omega) ?_
        intro v' wn hown hgrow _
        have O11 := OwnPs.push O10 Os10 hnew hgrow hown
        have hb7 : Below w.heap.size (w6.alloc (.cells (plC (.slice ua (pS ps j).length uc) (pB ps j) o3) 41)) wn := BelowSl.grownBy hgrow (by rw [World.size_alloc]; omega) (fun q hq => (O9.own.block q hq).1)
        have hne : ∀ q, (Value.slice (some ⟨g, 0, none⟩) l.length cap).ownBlock = some q → q ≠ wr.heap.size := by
          intro q hq
          have e' : g = q := by simpa [Value.ownBlock] using hq
          have := hgl.out
          omega
        have SA := SS6.1.alloc (.cells (plC (.slice ua (pS ps j).length uc) (pB ps j) o3) 41)
        have SS7 : At wn wr.heap.size (plC (.slice (some ⟨gs j, 0, none⟩) (pS ps j).length (pS ps j).length) (pB ps j) (pO ps j)) 41 ∧ Below w.heap.size w wn := ⟨(hgrow.block wr.heap.size SA.lt (fun e => hne _ e.symm rfl)).trans SA, (bnew SS6.2 (.cells (plC (.slice ua (pS ps j).length uc) (pB ps j) o3) 41)).trans hb7⟩
        refine ⟨SS7, ?_⟩
        clear hown hgrow hb7 hnew hne SA SS6 O9 Os9 O10 Os10 hi hz0 hz1 hz2 hll hws
        refine wpAnyH_take (i := 10) (v := v') rfl (by kernel_rfl) (by kernel_rfl) (by kernel_rfl) (fun _ _ _ h => h) (yif rfl fun w2 hw2 => by kernel_rfl) (by assumption) ?_
        refine wpAnyH_done (by kernel_rfl) ?_ _
        have O12 := Lib.hid O11
        have B7 := Lib.hid SS7.2
        have hjk := HJ.out
        clear O11 SS7 KFj KSd
        go_simp
        go_wp2_with fail
        have O13 := O12.out
        rw [← hjk] at O13
        exact ⟨⟨j, by omega, by rw [hjk]; go_num, ⟨_, by rw [HSC.out]; exact O13⟩, B7⟩, by simp [intOf]; omega⟩
      · obtain rfl : t = k := by omega
        have hv2 := Lib.hid (show vWv ps ts m = wvL ps ts m (t + 1) from by rw [hv.out, htn])
        go_wp2_with fail
        go_ret2
        exact ⟨⟨_, l, rfl, by rw [hv2.out]; exact O4⟩, B4.out⟩
  · have hv := Lib.hid (show vWv ps ts mv = [] from by unfold vWv; rw [if_neg hc])
    have hcd : (rowC ps ts mv != 0) = true := by simpa using hc
    generalize rowC ps ts mv = rc at *
    go_enter Try.func13, Try.ntmps13
    go_wp2_with fail
    refine KR.mono ?_
    rintro e w1 ⟨rfl, hb1⟩
    clear KR
    go_wp2_with fail
    go_ret2
    exact ⟨⟨_, [], rfl, by rw [hv.out]; exact ⟨⟨rfl, .inl ⟨rfl, rfl⟩⟩, rfl, fun i hi => absurd hi (by simp), fun i j _ hj => absurd hj (by simp)⟩⟩, hb1⟩

end Go.Proofs.Ytboahhipobcabab
