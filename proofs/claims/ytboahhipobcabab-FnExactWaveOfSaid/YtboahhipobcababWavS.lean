/-
  CONTRACTS: WaveOf, the model.
-/
import Derived.Test.YtboahhipobcababG20
import Derived.Test.YtboahhipobcababCopyO
import Derived.Test.YtboahhipobcababG21
import Derived.Test.YtboahhipobcababWavI
import Derived.Test.YtboahhipobcababWaveR
namespace Go.Proofs.Ytboahhipobcabab
open Go Go.ChangeShapes Go.WideShapes Go.ChangeAt Go.RowKit
set_option maxRecDepth 100000

theorem x_remW {P : Program} {o : Oper} {a : Act} {w w' : World} {v : Value} (ty : TypeId) (x y : Operand) {T : TypeId} (ho : o.op = .binOp .rem ty x y T) (v1 v2 : Value) (h1 : a.eval x = v1) (h2 : a.eval y = v2) (hrun : (binOp .rem ty v1 v2).run P w = .ok v w') : (execOp a.eval o).run P w = .ok (.value v) w' := by
  unfold execOp
  simp [ho, h1, h2, eqGuard, hrun, Result.andThen]

theorem run_remI {P : Program} (W : World) (t : TypeId) (a c : Int) (hc : 0 < c) (hs : IntKind.i64.wrap (a.tmod c) = a.tmod c) : (binOp .rem t (.int .i64 a) (.int .i64 c)).run P W = .ok (.int .i64 (a.tmod c)) W := by
  have h0 : ¬ c = 0 := by omega
  simp [binOp, Op.intDiv, h0, hs]
theorem run_noPl (W : World) : (Instr.buildSlice 25 0 #[]).run Try.prog W = .ok (.slice (some ⟨W.heap.size, 0, none⟩) 0 0) (W.alloc (.cells #[] 41)) := by kernel_rfl

theorem rowC_cy {ps : Ps} {ts : List Int} {m : Nat} (h : rowC ps ts m = 0) : ∀ k, k < ps.length → cyc (pS ps k) (pB ps k) = cyc (pS ps 0) (pB ps 0) := by
  intro k hk
  cases h1 : allK (pOk ps) ps.length
  · rw [rowC_1 h1] at h; cases h
  · cases h2 : ratOk ps ts m
    · rw [rowC_2 h1 h2] at h; cases h
    · cases h3 : allK (cyOk ps) ps.length
      · rw [rowC_4 h1 h2 h3] at h; cases h
      · have := allK_at h3 hk
        unfold cyOk cyP at this
        simpa using this

set_option maxHeartbeats 4000000 in
theorem sWaveOf_any (G : Nat) (gs : Nat → Nat) (ps : Ps) (T : TypeId) (H : Nat) (ts : List Int) (T4 : TypeId) (mv : Int) (hW : ∀ i, i < ps.length → SlW (pS ps i)) (hn : ps.length ≤ 1048576) (ht : ts.length ≤ 1048576) (w : World) (P0 : PB w G gs ps T) (H0 : At w H (il ts) T4) :
    Calls Try.prog 10 #[.slice (some ⟨G, 0, none⟩) ps.length ps.length, .slice (some ⟨H, 0, none⟩) ts.length ts.length, .int .i64 mv] w fun e w' => (∃ v l, e = .returned (.tuple #[v, .int .i64 (rowC ps ts mv)]) ∧ OwnPs w' w.heap.size v (vWv ps ts mv) l) ∧ Below w.heap.size w w' := by
  have KR := l04Row_any G gs ps T H ts T4 mv hW hn ht w P0 H0
  by_cases hc : rowC ps ts mv = 0
  · obtain ⟨⟨m, rfl, hm⟩, hok, hn6, htn, hts⟩ := rowC_parts hc
    have hgn := rowC_gn hc
    have hcy := rowC_cy hc
    have hv := Lib.hid (show vWv ps ts m = wvL ps ts m ps.length from by unfold vWv; rw [if_pos hc, Int.toNat_natCast])
    rw [hc] at KR ⊢
    have h0l : 0 < ps.length := by omega
    obtain ⟨hl0, -, -, hc0, ho0⟩ := okP_parts (hok 0 h0l)
    have KC := Lib.hid (show ∀ w', Below w.heap.size w w' → Calls Try.prog 55 #[.pointer (some ⟨G, 0, none⟩)] w' fun e w'' => e = .returned (.int .i64 (cyc (pS ps 0) (pB ps 0))) ∧ Below w'.heap.size w' w'' from fun w' hb => by
      refine (l04CycleO_any G 0 (gs 0) (pS ps 0) (pB ps 0) (pO ps 0) (hW 0 h0l) 107 hl0.1 hl0.2 w' (PlAt.of_row (k := 0) (P0.step hb).row h0l) ((P0.step hb).sl 0 h0l)).mono ?_
      rintro e w'' ⟨s, rfl, ⟨hs, -, -, -⟩, hb2⟩
      exact ⟨by rw [hs (cOk_of (hok 0 h0l))], hb2⟩)
    have KB := Lib.hid (fun (j : Nat) (hj : j < ps.length) w' (hb : Below w.heap.size w w') => l04BeginO_any G (j * 3) (gs j) (pS ps j) (pB ps j) (pO ps j) (hW j hj) 107 (hok j hj) m hm (hgn j hj) w' (PlAt.of_row (k := j) (P0.step hb).row hj) ((P0.step hb).sl j hj))
    have KP := Lib.hid (fun (j : Nat) (hj : j < ps.length) (o' : Int) w' (hb : Below w.heap.size w w') => l04CopyO_any G (j * 3) (gs j) (pS ps j) (hW j hj) (by have := (okP_parts (hok j hj)).1; omega) (pB ps j) (pO ps j) o' 107 w' (PlAt.of_row (k := j) (P0.step hb).row hj) ((P0.step hb).sl j hj))
    have PA0 := Lib.hid (fun w' (hb : Below w.heap.size w w') => PlAt.of_row (k := 0) (P0.step hb).row h0l)
    have HB := Lib.hid (fun (k : Nat) (hk : k < ps.length) => show bg (pS ps k) (pB ps k) m ≤ 240 from by
      obtain ⟨-, -, -, hc1, ho⟩ := okP_parts (hok k hk)
      have h2 := bg_lt (by omega) (hgn k hk)
      omega)
    obtain ⟨c, hcc⟩ : ∃ c, c = cyc (pS ps 0) (pB ps 0) := ⟨_, rfl⟩
    rw [← hcc] at KC hc0 ho0
    have hC := Lib.hid (fun (i : Nat) (hi : i < ps.length) => show cyc (pS ps i) (pB ps i) = c from by rw [hcc]; exact hcy i hi)
    have HO0 := Lib.hid (show pO ps 0 = ofW ps ts m 0 from by
      show _ = pO ps 0 % cyc (pS ps 0) (pB ps 0)
      rw [← hcc, Int.emod_eq_of_lt (by omega) (by omega)])
    have HX := Lib.hid (And.intro H0 hts)
    obtain ⟨n, hnn⟩ : ∃ n, n = ps.length := ⟨_, rfl⟩
    obtain ⟨t, htt⟩ : ∃ t, t = ts.length := ⟨_, rfl⟩
    have HN := Lib.hid hnn
    have HT := Lib.hid htt
    rw [← hnn] at KR h0l hn6 htn hv ⊢
    rw [← htt] at KR htn ⊢
    have kd0 : (0 : Int) < (n : Int) := by omega
    have h0p : 0 < ps.length := by rw [← HN.out]; exact h0l
    have KB0 := KB.out 0 h0p
    have KP0 := KP.out 0 h0p (pO ps 0)
    have hb0 := HB.out 0 h0p
    obtain ⟨b0', hb0'⟩ : ∃ b0' : Int, b0' = (bg (pS ps 0) (pB ps 0) m : Int) := ⟨_, rfl⟩
    rw [← hb0'] at KB0
    obtain ⟨o0, ho0'⟩ : ∃ o0, o0 = pO ps 0 := ⟨_, rfl⟩
    have HG0 := Lib.hid (show o0 + b0' = bgn ps ts m 0 from by rw [ho0', hb0']; rfl)
    rw [← ho0'] at KP0 ho0
    have PAc := Lib.hid (fun (w' : World) (hb : Below w.heap.size w w') => show w'.cell? ⟨G, 0 * 3 + 2, none⟩ = some (.int .i64 o0) from by rw [ho0']; exact (PA0.out w' hb).c2)
    have Z0 := Lib.hid (show [(pS ps 0, pB ps 0, o0)] = wvL ps ts m 1 from by rw [ho0', HO0.out]; rfl)
    have r0 : 0 ≤ b0' ∧ b0' ≤ 240 := by omega
    have HWR0 := Lib.hid (show IntKind.i64.wrap (o0 + b0') = o0 + b0' from IntWalk.i64_in _ (by omega))
    clear hnn htt hok hts hgn hc P0 H0 hW hn ht hcy hl0 hb0 hb0' ho0' HO0 hcc PA0 h0p
    go_enter Try.func10, Try.ntmps10
    go_wp2_with fail
    refine KR.mono ?_
    rintro e w1 ⟨rfl, hb1⟩
    clear KR
    go_wp2_with fail
    refine (KC.out w1 hb1).mono ?_
    rintro e w2 ⟨rfl, hb2⟩
    have B2 := Lib.hid (bthen hb1 hb2)
    clear hb1 hb2 KC
    go_wp2_with fail
    refine wp_region_held (S := fun w' => Below w.heap.size w w') (by kernel_rfl) ?_
    show wpAnyH _ _ _ _ _ 9 (Array.replicate 9 false) _ _
    have SS1 : Below w.heap.size w { w2 with drawn := w2.drawn + 1 } := bdrew B2.out 1
    generalize ({ w2 with drawn := w2.drawn + 1 } : World) = w3 at SS1 ⊢
    clear B2
    refine wpAnyH_take (i := 0) (v := .slice (some ⟨G, 0, none⟩) n n) rfl (by kernel_rfl) (by kernel_rfl) (by kernel_rfl) (fun _ _ _ h => h) (yif rfl fun w2 hw2 => by kernel_rfl) (by assumption) ?_
    refine wpAnyH_take (i := 1) (v := .pointer (some ⟨G, 0 * 3, none⟩)) rfl (by kernel_rfl) (by kernel_rfl) (by kernel_rfl) (fun _ _ _ h => h) (yif rfl fun w' hw' => x_index 25 (.tmp 24) (.const (.int .i64 0)) rfl _ _ (by kernel_rfl) (by kernel_rfl) (by have := run_indexS (P := Try.prog) w' 25 41 G 0 n n 0 3 Try.underlying25 (by kernel_rfl) h0l; rwa [Nat.zero_add] at this)) (by assumption) ?_
    refine wpAnyH_take (i := 2) (v := .slice (some ⟨G, 0, none⟩) n n) rfl (by kernel_rfl) (by kernel_rfl) (by kernel_rfl) (fun _ _ _ h => h) (yif rfl fun w2 hw2 => by kernel_rfl) (by assumption) ?_
    refine wpAnyH_take (i := 3) (v := .pointer (some ⟨G, 0 * 3, none⟩)) rfl (by kernel_rfl) (by kernel_rfl) (by kernel_rfl) (fun _ _ _ h => h) (yif rfl fun w' hw' => x_index 25 (.tmp 26) (.const (.int .i64 0)) rfl _ _ (by kernel_rfl) (by kernel_rfl) (by have := run_indexS (P := Try.prog) w' 25 41 G 0 n n 0 3 Try.underlying25 (by kernel_rfl) h0l; rwa [Nat.zero_add] at this)) (by assumption) ?_
    refine wpAnyH_take (i := 4) (v := .pointer (some ⟨G, 0 * 3 + 2, none⟩)) rfl (by kernel_rfl) (by kernel_rfl) (by kernel_rfl) (fun _ _ _ h => h) (yif rfl fun w2 hw2 => by kernel_rfl) (by assumption) ?_
    refine wpAnyH_take (i := 5) (v := .int .i64 o0) rfl (by kernel_rfl) (by kernel_rfl) (by kernel_rfl) (fun _ _ _ h => h) (yif rfl fun w' hw' => x_cell 2 (.tmp 28) rfl ⟨G, 0 * 3 + 2, none⟩ (by kernel_rfl) _ Try.underlying2 rfl (PAc.out w' hw')) (by assumption) ?_
    refine wpAnyH_call (j := 6) (f := 56) (args := #[.pointer (some ⟨G, 0 * 3, none⟩), .int .i64 o0]) (by kernel_rfl) rfl (by kernel_rfl) (by kernel_rfl) ((KP0 w3 SS1).mono ?_)
    rintro e w4 ⟨⟨u, rfl, Os⟩, hb4⟩
    obtain ⟨ua, uc, rfl⟩ := Os.any
    have SS2 : Below w.heap.size w w4 := bthen SS1 hb4
    have O3 := OwnPs.one (b := pB ps 0) (o := o0) SS2.size (Os.low SS1.size)
    refine ⟨_, rfl, SS2, ?_⟩
    refine wpAnyH_all (rs := [7]) (by kernel_rfl) (by simp) fun _ hi8 => ?_
    obtain rfl := one_of hi8
    refine op_value rfl rfl (x_bsliceW 25 1 _ rfl #[(0, .agg (plC (.slice ua (pS ps 0).length uc) (pB ps 0) o0))] (by kernel_rfl) (run_onePl _ (.slice ua (pS ps 0).length uc) (pB ps 0) o0 rfl)) ⟨bnew SS2 _, ?_⟩
    have SS3 := bnew SS2 (.cells (plC (.slice ua (pS ps 0).length uc) (pB ps 0) o0) 41)
    obtain ⟨g0, hg0⟩ : ∃ g0, g0 = w4.heap.size := ⟨_, rfl⟩
    rw [← hg0] at O3 ⊢
    generalize w4.alloc (.cells (plC (.slice ua (pS ps 0).length uc) (pB ps 0) o0) 41) = w5 at O3 SS3 ⊢
    clear SS1 SS2 Os hb4 KP0 hg0
    refine wpAnyH_take (i := 8) (v := .slice (some ⟨g0, 0, none⟩) 1 1) rfl (by kernel_rfl) (by kernel_rfl) (by kernel_rfl) (fun _ _ _ h => h) (yif rfl fun w2 hw2 => by kernel_rfl) (by assumption) ?_
    refine wpAnyH_done (by kernel_rfl) ?_ _
    have B3 := Lib.hid SS3
    clear SS3
    go_simp
    go_wp2_with fail
    refine wp_region_held (S := fun w' => Below w.heap.size w w') (by kernel_rfl) ?_
    show wpAnyH _ _ _ _ _ 10 (Array.replicate 10 false) _ _
    have SS1 : Below w.heap.size w { w5 with drawn := w5.drawn + 1 } := bdrew B3.out 1
    have O4 := O3.step (bdrew (Below.refl _ w5) 1)
    change OwnPs { w5 with drawn := w5.drawn + 1 } _ _ _ _ at O4
    generalize ({ w5 with drawn := w5.drawn + 1 } : World) = w6 at SS1 O4 ⊢
    clear B3 O3
    refine wpAnyH_take (i := 0) (v := .slice (some ⟨G, 0, none⟩) n n) rfl (by kernel_rfl) (by kernel_rfl) (by kernel_rfl) (fun _ _ _ h => h) (yif rfl fun w2 hw2 => by kernel_rfl) (by assumption) ?_
    refine wpAnyH_take (i := 1) (v := .pointer (some ⟨G, 0 * 3, none⟩)) rfl (by kernel_rfl) (by kernel_rfl) (by kernel_rfl) (fun _ _ _ h => h) (yif rfl fun w' hw' => x_index 25 (.tmp 32) (.const (.int .i64 0)) rfl _ _ (by kernel_rfl) (by kernel_rfl) (by have := run_indexS (P := Try.prog) w' 25 41 G 0 n n 0 3 Try.underlying25 (by kernel_rfl) h0l; rwa [Nat.zero_add] at this)) (by assumption) ?_
    refine wpAnyH_take (i := 2) (v := .pointer (some ⟨G, 0 * 3 + 2, none⟩)) rfl (by kernel_rfl) (by kernel_rfl) (by kernel_rfl) (fun _ _ _ h => h) (yif rfl fun w2 hw2 => by kernel_rfl) (by assumption) ?_
    refine wpAnyH_take (i := 3) (v := .int .i64 o0) rfl (by kernel_rfl) (by kernel_rfl) (by kernel_rfl) (fun _ _ _ h => h) (yif rfl fun w' hw' => x_cell 2 (.tmp 34) rfl ⟨G, 0 * 3 + 2, none⟩ (by kernel_rfl) _ Try.underlying2 rfl (PAc.out w' hw')) (by assumption) ?_
    refine wpAnyH_take (i := 4) (v := .slice (some ⟨G, 0, none⟩) n n) rfl (by kernel_rfl) (by kernel_rfl) (by kernel_rfl) (fun _ _ _ h => h) (yif rfl fun w2 hw2 => by kernel_rfl) (by assumption) ?_
    refine wpAnyH_take (i := 5) (v := .pointer (some ⟨G, 0 * 3, none⟩)) rfl (by kernel_rfl) (by kernel_rfl) (by kernel_rfl) (fun _ _ _ h => h) (yif rfl fun w' hw' => x_index 25 (.tmp 36) (.const (.int .i64 0)) rfl _ _ (by kernel_rfl) (by kernel_rfl) (by have := run_indexS (P := Try.prog) w' 25 41 G 0 n n 0 3 Try.underlying25 (by kernel_rfl) h0l; rwa [Nat.zero_add] at this)) (by assumption) ?_
    refine wpAnyH_take (i := 6) (v := .int .i64 (m : Int)) rfl (by kernel_rfl) (by kernel_rfl) (by kernel_rfl) (fun _ _ _ h => h) (yif rfl fun w2 hw2 => by kernel_rfl) (by assumption) ?_
    refine wpAnyH_call (j := 7) (f := 57) (args := #[.pointer (some ⟨G, 0 * 3, none⟩), .int .i64 (m : Int)]) (by kernel_rfl) rfl (by kernel_rfl) (by kernel_rfl) ((KB0 w6 SS1).mono ?_)
    rintro e w7 ⟨rfl, hb7⟩
    have SS2 : Below w.heap.size w w7 := bthen SS1 hb7
    have O5 := O4.step hb7
    refine ⟨_, rfl, SS2, ?_⟩
    clear SS1 O4 hb7
    refine wpAnyH_take (i := 8) (v := (.int .i64 (o0 + b0'))) rfl (by kernel_rfl) (by kernel_rfl) (by kernel_rfl) (fun _ _ _ h => h) (yif rfl fun w' hw' => by rw [← HWR0.out]; kernel_rfl) (by assumption) ?_
    refine wpAnyH_take (i := 9) (v := (.int .i64 (o0 + b0'))) rfl (by kernel_rfl) (by kernel_rfl) (by kernel_rfl) (fun _ _ _ h => h) (yif rfl fun w2 hw2 => by kernel_rfl) (by assumption) ?_
    refine wpAnyH_done (by kernel_rfl) ?_ _
    have B4 := Lib.hid SS2
    clear SS2 KB0
    go_simp
    go_wp2_with fail
    go_loopw [10, 11, 12] (fun v bv iv wr => ∃ (k : Nat) (u : Int), k < n ∧ iv = .int .i64 ((k + 1 : Nat) : Int) ∧ bv = .int .i64 u ∧ (0 ≤ u ∧ u ≤ 480 + 100000 * k) ∧ Hid (u = bgn ps ts m k) ∧ (∃ l, OwnPs wr w.heap.size v (wvL ps ts m (k + 1)) l) ∧ Hid (Below w.heap.size w wr)) (fun _ _ iv _ => n - (intOf iv).toNat)
    case atStart => exact ⟨0, o0 + b0', by omega, rfl, rfl, ⟨by omega, by omega⟩, HG0, ⟨_, by rw [← Z0.out]; exact O5⟩, B4⟩
    case round =>
      clear O5 B4 Z0 HG0
      obtain ⟨k, u, hk, rfl, rfl, hub, hu, ⟨l, O4⟩, B4⟩ := hrel
      obtain ⟨j, hj⟩ : ∃ j, j = k + 1 := ⟨_, rfl⟩
      rw [← hj]
      by_cases hlt : j < n
      · have hjp : j < ps.length := by rw [← HN.out]; omega
        have hkt : k < ts.length := by rw [← HT.out]; omega
        have s7 : IntKind.i64.wrap ((j : Int) - 1) = (k : Int) := by rw [IntWalk.i64_in _ (by omega)]; omega
        have s2 : IntKind.i64.wrap ((j : Int) + 1) = (j : Int) + 1 := IntWalk.i64_in _ (by omega)
        have kd : (j : Int) < (n : Int) := by omega
        have kdt : (k : Int) < (t : Int) := by omega
        have hx := HX.out.2 k hkt
        have hc := (HX.out.1.step B4.out).cell (il_get (xs := ts) (k := k) hkt)
        have hbj := HB.out j hjp
        have hl4 : l.length = k + 1 := by rw [O4.len, wvL_len]
        have KBj := KB.out j hjp
        have hnx : ofW ps ts m j = (bgn ps ts m j - (bg (pS ps j) (pB ps j) m : Int)) % c := by rw [hj]; exact ofW_next (by omega) k (fun i hi => hC.out i (by rw [← HN.out]; omega))
        have hbn : bgn ps ts m j = u + ith ts k := by rw [hj, hu.out]; rfl
        have hsc := wvL_succ ps ts m j
        rw [← hj] at O4
        obtain ⟨va, vc, rfl⟩ := O4.own.any
        obtain ⟨x, hxx⟩ : ∃ x, x = ith ts k := ⟨_, rfl⟩
        obtain ⟨bj, hbb⟩ : ∃ bj : Int, bj = (bg (pS ps j) (pB ps j) m : Int) := ⟨_, rfl⟩
        rw [← hxx] at hc hx hbn
        rw [← hbb] at KBj hnx
        obtain ⟨q, hq⟩ : ∃ q : Int, q = (u + x - bj).tmod c := ⟨_, rfl⟩
        obtain ⟨o3, ho3⟩ : ∃ o3 : Int, o3 = (q + c).tmod c := ⟨_, rfl⟩
        have hcp : 0 < c := by omega
        have e3 : o3 = ofW ps ts m j := by rw [ho3, hq, rem_a hcp, hnx, hbn]
        have q1 : -c < q := by rw [hq]; exact Int.lt_tmod_of_pos _ hcp
        have q2 : q < c := by rw [hq]; exact Int.tmod_lt_of_pos _ hcp
        have q3 : 0 ≤ o3 := by rw [e3, hnx]; exact Int.emod_nonneg _ (by omega)
        have q4 : o3 < c := by rw [e3, hnx]; exact Int.emod_lt_of_pos _ hcp
        have r2 : 0 ≤ bj ∧ bj ≤ 240 := by omega
        have s8 : IntKind.i64.wrap (u + x) = u + x := IntWalk.i64_in _ (by omega)
        have W10 := Lib.hid (show IntKind.i64.wrap (u + x - bj) = u + x - bj from IntWalk.i64_in _ (by omega))
        have W12 := Lib.hid (show ∀ W, (binOp .rem 2 (.int .i64 (u + x - bj)) (.int .i64 c)).run Try.prog W = .ok (.int .i64 q) W from fun W => by
          rw [hq]
          exact run_remI W _ _ _ hcp (by rw [← hq]; exact IntWalk.i64_in _ (by omega)))
        have W14 := Lib.hid (show IntKind.i64.wrap (q + c) = q + c from IntWalk.i64_in _ (by omega))
        have W16 := Lib.hid (show ∀ W, (binOp .rem 2 (.int .i64 (q + c)) (.int .i64 c)).run Try.prog W = .ok (.int .i64 o3) W from fun W => by
          rw [ho3]
          exact run_remI W _ _ _ hcp (by rw [← ho3]; exact IntWalk.i64_in _ (by omega)))
        have KPj := KP.out j hjp o3
        rw [← e3] at hsc
        have HSC := Lib.hid hsc
        have HU := Lib.hid (show u + x = bgn ps ts m j from hbn.symm)
        have hub2 : 0 ≤ u + x ∧ u + x ≤ 480 + 100000 * j := by omega
        have HUB := Lib.hid hub2
        have hl4' := Lib.hid hl4
        have HJ := Lib.hid hj
        have HCP := Lib.hid hcp
        clear hub2 hsc hbn hnx hxx hbb hq ho3 e3 q1 q2 q3 q4 r2 hbj hx hub hu hjp hkt hl4 hcp hj
        go_wp2_with fail
        refine wp_region_held (S := fun w' => Below w.heap.size w w') (by kernel_rfl) ?_
        show wpAnyH _ _ _ _ _ 21 (Array.replicate 21 false) _ _
        have SS1 : Below w.heap.size w { wr with drawn := wr.drawn + 1 } := bdrew B4.out 1
        have O5 := O4.step (bdrew (Below.refl _ wr) 1)
        change OwnPs { wr with drawn := wr.drawn + 1 } _ _ _ _ at O5
        generalize ({ wr with drawn := wr.drawn + 1 } : World) = w3 at SS1 O5 ⊢
        clear B4 O4
        refine wpAnyH_take (i := 0) (v := .slice va l.length vc) rfl (by kernel_rfl) (by kernel_rfl) (by kernel_rfl) (fun _ _ _ h => h) (yif rfl fun w2 hw2 => by kernel_rfl) (by assumption) ?_
        refine wpAnyH_take (i := 1) (v := .slice (some ⟨G, 0, none⟩) n n) rfl (by kernel_rfl) (by kernel_rfl) (by kernel_rfl) (fun _ _ _ h => h) (yif rfl fun w2 hw2 => by kernel_rfl) (by assumption) ?_
        refine wpAnyH_take (i := 2) (v := .int .i64 (j : Int)) rfl (by kernel_rfl) (by kernel_rfl) (by kernel_rfl) (fun _ _ _ h => h) (yif rfl fun w2 hw2 => by kernel_rfl) (by assumption) ?_
        refine wpAnyH_take (i := 3) (v := .pointer (some ⟨G, j * 3, none⟩)) rfl (by kernel_rfl) (by kernel_rfl) (by kernel_rfl) (fun _ _ _ h => h) (yif rfl fun w' hw' => x_index 25 (.tmp 55) (.tmp 56) rfl _ _ (by kernel_rfl) (by kernel_rfl) (by have := run_indexS (P := Try.prog) w' 25 41 G 0 n n j 3 Try.underlying25 (by kernel_rfl) hlt; rwa [Nat.zero_add] at this)) (by assumption) ?_
        refine wpAnyH_take (i := 4) (v := .int .i64 (u + x)) rfl (by kernel_rfl) (by kernel_rfl) (by kernel_rfl) (fun _ _ _ h => h) (yif rfl fun w2 hw2 => by kernel_rfl) (by assumption) ?_
        refine wpAnyH_take (i := 5) (v := .slice (some ⟨G, 0, none⟩) n n) rfl (by kernel_rfl) (by kernel_rfl) (by kernel_rfl) (fun _ _ _ h => h) (yif rfl fun w2 hw2 => by kernel_rfl) (by assumption) ?_
        refine wpAnyH_take (i := 6) (v := .int .i64 (j : Int)) rfl (by kernel_rfl) (by kernel_rfl) (by kernel_rfl) (fun _ _ _ h => h) (yif rfl fun w2 hw2 => by kernel_rfl) (by assumption) ?_
        refine wpAnyH_take (i := 7) (v := .pointer (some ⟨G, j * 3, none⟩)) rfl (by kernel_rfl) (by kernel_rfl) (by kernel_rfl) (fun _ _ _ h => h) (yif rfl fun w' hw' => x_index 25 (.tmp 59) (.tmp 60) rfl _ _ (by kernel_rfl) (by kernel_rfl) (by have := run_indexS (P := Try.prog) w' 25 41 G 0 n n j 3 Try.underlying25 (by kernel_rfl) hlt; rwa [Nat.zero_add] at this)) (by assumption) ?_
        refine wpAnyH_take (i := 8) (v := .int .i64 (m : Int)) rfl (by kernel_rfl) (by kernel_rfl) (by kernel_rfl) (fun _ _ _ h => h) (yif rfl fun w2 hw2 => by kernel_rfl) (by assumption) ?_
        refine wpAnyH_take (i := 11) (v := .int .i64 c) rfl (by kernel_rfl) (by kernel_rfl) (by kernel_rfl) (fun _ _ _ h => h) (yif rfl fun w2 hw2 => by kernel_rfl) (by assumption) ?_
        refine wpAnyH_take (i := 13) (v := .int .i64 c) rfl (by kernel_rfl) (by kernel_rfl) (by kernel_rfl) (fun _ _ _ h => h) (yif rfl fun w2 hw2 => by kernel_rfl) (by assumption) ?_
        refine wpAnyH_take (i := 15) (v := .int .i64 c) rfl (by kernel_rfl) (by kernel_rfl) (by kernel_rfl) (fun _ _ _ h => h) (yif rfl fun w2 hw2 => by kernel_rfl) (by assumption) ?_
        refine wpAnyH_call (j := 9) (f := 57) (args := #[.pointer (some ⟨G, j * 3, none⟩), .int .i64 (m : Int)]) (by kernel_rfl) rfl (by kernel_rfl) (by kernel_rfl) ((KBj w3 SS1).mono ?_)
        rintro e w4 ⟨rfl, hb4⟩
        have SS2 : Below w.heap.size w w4 := bthen SS1 hb4
        have O6 := O5.step hb4
        refine ⟨_, rfl, SS2, ?_⟩
        clear SS1 O5 hb4
        refine wpAnyH_take (i := 10) (v := (.int .i64 (u + x - bj))) rfl (by kernel_rfl) (by kernel_rfl) (by kernel_rfl) (fun _ _ _ h => h) (yif rfl fun w' hw' => by rw [← W10.out]; kernel_rfl) (by assumption) ?_
        refine wpAnyH_take (i := 12) (v := .int .i64 q) rfl (by kernel_rfl) (by kernel_rfl) (by kernel_rfl) (fun _ _ _ h => h) (yif rfl fun w' hw' => x_remW 2 (.tmp 64) (.tmp 65) rfl _ _ (by kernel_rfl) (by kernel_rfl) (W12.out w')) (by assumption) ?_
        refine wpAnyH_take (i := 14) (v := (.int .i64 (q + c))) rfl (by kernel_rfl) (by kernel_rfl) (by kernel_rfl) (fun _ _ _ h => h) (yif rfl fun w' hw' => by rw [← W14.out]; kernel_rfl) (by assumption) ?_
        refine wpAnyH_take (i := 16) (v := .int .i64 o3) rfl (by kernel_rfl) (by kernel_rfl) (by kernel_rfl) (fun _ _ _ h => h) (yif rfl fun w' hw' => x_remW 2 (.tmp 68) (.tmp 69) rfl _ _ (by kernel_rfl) (by kernel_rfl) (W16.out w')) (by assumption) ?_
        refine wpAnyH_call (j := 17) (f := 56) (args := #[.pointer (some ⟨G, j * 3, none⟩), .int .i64 o3]) (by kernel_rfl) rfl (by kernel_rfl) (by kernel_rfl) ((KPj w4 SS2).mono ?_)
        rintro e w6 ⟨⟨u', rfl, Os⟩, hb6⟩
        obtain ⟨ua, uc, rfl⟩ := Os.any
        have SS6 : Below w.heap.size w w6 := bthen SS2 hb6
        have O9 := O6.step hb6
        have Os9 := Os.low SS2.size
        have hnew := O6.fresh Os
        refine ⟨_, rfl, SS6, ?_⟩
        clear SS2 O6 hb6 Os
        obtain ⟨i0, hi, hz0, hz1, hz2⟩ := info_plan
        refine wpAnyH_all (rs := [18]) (by kernel_rfl) (by simp) fun _ hi8 => ?_
        obtain rfl := one_of hi8
        refine op_value rfl rfl (x_bsliceW 25 1 _ rfl #[(0, .agg (plC (.slice ua (pS ps j).length uc) (pB ps j) o3))] (by kernel_rfl) (run_onePl _ (.slice ua (pS ps j).length uc) (pB ps j) o3 rfl)) ⟨bnew SS6 _, ?_⟩
        refine wpAnyH_all (rs := [19]) (by kernel_rfl) (by simp) fun _ hi8 => ?_
        obtain rfl := one_of hi8
        have hws : w.heap.size ≤ w6.heap.size := SS6.size
        have hll := hl4'.out
        have O10 := O9.step (b0 w6 (.cells (plC (.slice ua (pS ps j).length uc) (pB ps j) o3) 41))
        have Os10 := Os9.step (b0 w6 (.cells (plC (.slice ua (pS ps j).length uc) (pB ps j) o3) 41))
        refine op_wpW rfl rfl fun Q' => wp_append_own _ (.tmp 54) (.tmp 72) 25 rfl w.heap.size 41 i0 (.agg #[.slice none 0 0, .int .i64 0, .int .i64 0]) 3 40 Try.underlying25 hi hz0 hz1 hz2 rfl (by decide) (.slice va l.length vc) l.length _ (by kernel_rfl) O10.own ⟨w6.heap.size, 0, none⟩ 1 1 (pvl (.slice ua (pS ps j).length uc, pB ps j, o3)) (by kernel_rfl) rfl (one_cellsPl w6 _ _ _) (by intro z hz; simp only [pvl, List.mem_cons, List.mem_nil_iff, or_false] at hz; rcases hz with rfl | rfl | rfl <;> rfl) (by unfold maxLen; omega) (by omega) (by rw [World.size_alloc]; omega) ?_
        intro v' wn hown hgrow _
        have O11 := OwnPs.push O10 Os10 hnew hgrow hown
        have hb7 : Below w.heap.size (w6.alloc (.cells (plC (.slice ua (pS ps j).length uc) (pB ps j) o3) 41)) wn := BelowSl.grownBy hgrow (by rw [World.size_alloc]; omega) (fun q hq => (O9.own.block q hq).1)
        have SS7 : Below w.heap.size w wn := (bnew SS6 (.cells (plC (.slice ua (pS ps j).length uc) (pB ps j) o3) 41)).trans hb7
        refine ⟨SS7, ?_⟩
        clear hown hgrow hb7 hnew SS6 O9 Os9 O10 Os10 hi hz0 hz1 hz2 hll hws
        refine wpAnyH_take (i := 20) (v := v') rfl (by kernel_rfl) (by kernel_rfl) (by kernel_rfl) (fun _ _ _ h => h) (yif rfl fun w2 hw2 => by kernel_rfl) (by assumption) ?_
        refine wpAnyH_done (by kernel_rfl) ?_ _
        have O12 := Lib.hid O11
        have B7 := Lib.hid SS7
        have hjk := HJ.out
        clear O11 SS7 KBj KPj W10 W14
        go_simp
        go_wp2_with fail
        exact ⟨⟨j, u + x, by omega, by go_num, rfl, HUB.out, HU, ⟨_, by rw [HSC.out]; exact O12.out⟩, B7⟩, by simp [intOf]; omega⟩
      · obtain rfl : n = j := by omega
        have hv2 := Lib.hid (show vWv ps ts m = wvL ps ts m (k + 1) from by rw [hv.out, hj])
        go_wp2_with fail
        go_ret2
        exact ⟨⟨_, l, rfl, by rw [hv2.out]; exact O4⟩, B4.out⟩
  · have hv := Lib.hid (show vWv ps ts mv = [] from by unfold vWv; rw [if_neg hc])
    have hcd : (rowC ps ts mv != 0) = true := by simpa using hc
    generalize rowC ps ts mv = rc at *
    go_enter Try.func10, Try.ntmps10
    go_wp2_with fail
    refine KR.mono ?_
    rintro e w1 ⟨rfl, hb1⟩
    clear KR
    go_wp2_with (((with_reducible refine is_bslice 25 0 _ rfl ?_); refine wpList_bslice rfl 25 0 _ rfl #[] (by simp) _ (run_noPl _) ?_))
    go_ret2
    exact ⟨⟨_, [], rfl, by rw [hv.out]; exact ⟨⟨rfl, .inr ⟨w1.heap.size, 0, #[], rfl, hb1.size, At.new w1 #[] 41, Nat.le_refl _, by unfold maxLen; omega, rfl, rfl⟩⟩, rfl, fun i hi => absurd hi (by simp), fun i j _ hj => absurd hj (by simp)⟩⟩, bnew hb1 _⟩


end Go.Proofs.Ytboahhipobcabab
