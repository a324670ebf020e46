/-
  CONTRACTS: does a list have a wide gap; tallies between two neighbours: the program.
-/
import Derived.Test.YtlffcpoooaoneaaBtw
import Derived.Test.YtlffcpoooaoneaaVTlI
import Derived.Test.YtlffcpoooaoneaaAlloc
import Derived.BigQuiet
namespace Go.Proofs.Ytlffcpoooaoneaa
open Go Go.ChangeShapes Go.WideShapes Go.ChangeAt Go.RowKit
set_option maxRecDepth 100000

theorem q_oneK {P : Program} {W : World} {o : Oper} {a : Act} {K : Act → Prop} {g : Nat} {c : Array Value} {T : TypeId} (ty : TypeId) (x : Operand) (ho : o.op = .load ty x) (d : TypeDesc) (hu : P.underlying ty = some d) (hd : (match d with | .struct _ | .array _ _ => true | _ => false) = false) (k : Nat) (hx : a.eval x = .pointer (some ⟨g, k, none⟩)) (hA : At W g c T) (v : Value) (hk : c[k]? = some v) (hK : K (a.put o.dst v)) : o.quiet P a (Cb W) K :=
  q_load ty x ho _ hx v (fun w hw => run_load_one w ty d hu hd _ v (At.cell (At.step hA hw) hk)) hK

theorem hasWideGap_any (G : Nat) (xs : Ts) (cap : Nat) (T : TypeId) (hok : okT xs = true) (w : World) (h0 : At w G (tC xs) T) :
    Calls Try.prog 79 #[.slice (some ⟨G, 0, none⟩) xs.length cap] w fun e w' => e = .returned (.bool (wideK xs xs.length)) ∧ Below w.heap.size w w' := by
  have HX := Lib.hid h0
  have HO := Lib.hid hok
  have hn := okT_len hok
  obtain ⟨n, hnn⟩ : ∃ n, n = xs.length := ⟨_, rfl⟩
  rw [← hnn] at hn ⊢
  have HN := Lib.hid hnn
  clear hnn h0 hok
  go_enter Try.func79, Try.ntmps79
  go_wp2
  go_loopw [3] (fun i wr => ∃ k : Nat, 1 ≤ k ∧ (k ≤ n ∨ (n = 0 ∧ k = 1)) ∧ i = .int .i64 (k : Int) ∧ At wr G (tC xs) T ∧ Hid (Below w.heap.size w wr) ∧ Hid (wideK xs k = false)) (fun i _ => n - (intOf i).toNat)
  case atStart => exact ⟨1, by omega, by omega, rfl, HX.out, Lib.hid (Below.refl _ _), Lib.hid (by simp [wideK])⟩
  case round =>
    obtain ⟨k, hk1, hk, rfl, A1, B1, hwd⟩ := hrel
    by_cases hlt : k < n
    · have s2 : IntKind.i64.wrap ((k : Int) + 1) = (k : Int) + 1 := IntWalk.i64_in _ (by omega)
      have kd : (k : Int) < (n : Int) := by omega
      have hkl : k < xs.length := by rw [← HN.out]; exact hlt
      have hkp : k - 1 < xs.length := by omega
      have g0 : wr.cell? ⟨G, (k - 1) * 3, none⟩ = some (.int .i64 (tn xs (k - 1))) := A1.cell (tC_turn hkp rfl)
      have g1 : wr.cell? ⟨G, k * 3, none⟩ = some (.int .i64 (tn xs k)) := A1.cell (tC_turn hkl rfl)
      have s3 : IntKind.i64.wrap ((k : Int) - 1) = ((k - 1 : Nat) : Int) := by rw [IntWalk.i64_in _ (by omega)]; omega
      have kn : ((k - 1 : Nat) : Int) < (n : Int) := by omega
      have kn0 : (0 : Int) ≤ ((k - 1 : Nat) : Int) := by omega
      obtain ⟨b1, -, -, b2⟩ := okT_at HO.out hkl
      obtain ⟨b3, -, -, -⟩ := okT_at HO.out hkp
      have s4 : IntKind.i64.wrap (tn xs k - tn xs (k - 1)) = tn xs k - tn xs (k - 1) := IntWalk.i64_in _ (by omega)
      have s5 : IntKind.i64.wrap (tn xs k - tn xs (k - 1) - 1) = tn xs k - tn xs (k - 1) - 1 := IntWalk.i64_in _ (by omega)
      by_cases p : 13 < tn xs k - tn xs (k - 1)
      · have hv := Lib.hid (wideK_yes (xs := xs) (n := n) (k := k) (by omega) hlt p)
        have e1 : decide (12 < tn xs k - tn xs (k - 1) - 1) = true := decide_eq_true (by omega)
        clear hkl hkp b1 b2 b3 hk p
        generalize tn xs k = x at *
        generalize tn xs (k - 1) = y at *
        generalize k - 1 = k' at *
        go_wp2
        go_quiet (fail)
        go_wp2
        go_ret
        exact ⟨by rw [hv.out]; rfl, bdrew B1.out _⟩
      · have hv := Lib.hid (show wideK xs (k + 1) = false from by
          show (wideK xs k || (decide (0 < k) && decide (13 < tn xs k - tn xs (k - 1)))) = false
          rw [hwd.out, decide_eq_false p, Bool.and_false]; rfl)
        have e1 : decide (12 < tn xs k - tn xs (k - 1) - 1) = false := decide_eq_false (by omega)
        have H1 := Lib.hid A1
        clear hkl hkp b1 b2 b3 p A1 hwd
        generalize tn xs k = x at *
        generalize tn xs (k - 1) = y at *
        generalize k - 1 = k' at *
        go_wp2
        go_quiet (fail)
        go_wp2
        exact ⟨⟨k + 1, by omega, by omega, by go_num, H1.out.drewN _, Lib.hid (bdrew B1.out _), hv⟩, by simp [intOf]; omega⟩
    · have hv := Lib.hid (show wideK xs n = false from by
        rcases hk with h | ⟨h, -⟩
        · obtain rfl : k = n := by omega
          exact hwd.out
        · rw [h]; rfl)
      have kd : ¬ (k : Int) < (n : Int) := by omega
      go_wp2
      go_ret
      exact ⟨by rw [hv.out]; rfl, B1.out⟩

set_option maxHeartbeats 2000000 in
theorem talliesBetween_any (ta ca fa tb cb fb : Int) (hta : 0 ≤ ta ∧ ta < tb) (htb : tb ≤ 65535) (hg : tb - ta ≤ 13) (hca : 0 ≤ ca ∧ ca ≤ 32767) (hfa : 0 ≤ fa ∧ fa ≤ 32767) (hcb : 0 ≤ cb ∧ cb ≤ 32767) (hfb : 0 ≤ fb ∧ fb ≤ 32767) (w : World) :
    Calls Try.prog 80 #[.agg (t1 ta ca fa), .agg (t1 tb cb fb)] w fun e w' => (∃ v, e = .returned v ∧ OwnT w' w.heap.size v (gapL (ta, ca, fa) (tb, cb, fb))) ∧ Below w.heap.size w w' := by
  have A0 : At ((w.alloc (.cells (t1 ta ca fa) 111)).alloc (.cells (t1 tb cb fb) 111)) w.heap.size (t1 ta ca fa) 111 := (At.new w _ _).alloc _
  have C0 : At ((w.alloc (.cells (t1 ta ca fa) 111)).alloc (.cells (t1 tb cb fb) 111)) (w.heap.size + 1) (t1 tb cb fb) 111 := At.last1 w _ _ _
  have B0 := Lib.hid (bnew (b0 w (.cells (t1 ta ca fa) 111)) (.cells (t1 tb cb fb) 111))
  have HH := Lib.hid (And.intro hca (And.intro hfa (And.intro hcb hfb)))
  clear hca hfa hcb hfb
  have hsz : w.heap.size + 1 < (((w.alloc (.cells (t1 ta ca fa) 111)).alloc (.cells (t1 tb cb fb) 111))).heap.size := C0.lt
  have c0 := A0.cell (t1_0 ta ca fa)
  have s0 : IntKind.i64.wrap (ta + 1) = ta + 1 := IntWalk.i64_in _ (by omega)
  go_enter Try.func80, Try.ntmps80
  go_wp2_with fail
  generalize ((w.alloc (.cells (t1 ta ca fa) 111)).alloc (.cells (t1 tb cb fb) 111)) = w0 at A0 C0 B0 hsz c0 ⊢
  obtain ⟨m, hm⟩ : ∃ m : Nat, (m : Int) = tb - ta - 1 := ⟨(tb - ta - 1).toNat, by omega⟩
  have hgl := Lib.hid (show gapL (ta, ca, fa) (tb, cb, fb) = gapK (ta, ca, fa) (tb, cb, fb) m from by unfold gapL; congr 1; show (tb - ta - 1).toNat = m; omega)
  clear c0
  go_loopw [5, 6] (fun v5 u wr => ∃ k : Nat, k ≤ m ∧ u = .int .i64 (ta + 1 + (k : Int)) ∧ OwnT wr (w.heap.size + 1 + 1) v5 (gapK (ta, ca, fa) (tb, cb, fb) k) ∧ At wr w.heap.size (t1 ta ca fa) 111 ∧ At wr (w.heap.size + 1) (t1 tb cb fb) 111 ∧ Hid (Below w.heap.size w wr)) (fun _ u _ => (tb - intOf u).toNat)
  case atStart => exact ⟨0, by omega, by simp, OwnT.nil _ _, A0, C0, B0⟩
  case round =>
    clear A0 C0 B0 hsz
    obtain ⟨k, hk, rfl, O1, A1, C1, B1⟩ := hrel
    have a0 := A1.cell (t1_0 ta ca fa)
    have b0' := C1.cell (t1_0 tb cb fb)
    have hsz := C1.lt
    by_cases hlt : k < m
    · have kd : ta + 1 + (k : Int) < tb := by omega
      have d1 : decide (ta + 1 + (k : Int) < tb) = true := decide_eq_true kd
      have s1 : IntKind.i64.wrap (ta + 1 + (k : Int) + 1) = ta + 1 + (k : Int) + 1 := IntWalk.i64_in _ (by omega)
      have s2 : IntKind.i64.wrap (ta + 1 + (k : Int) - ta) = ta + 1 + (k : Int) - ta := IntWalk.i64_in _ (by omega)
      have s3 : IntKind.i64.wrap (tb - ta) = tb - ta := IntWalk.i64_in _ (by omega)
      have f1 : floatOfInt .f32 (ta + 1 + (k : Int) - ta) = fI (ta + 1 + (k : Int) - ta) := rfl
      have f2 : floatOfInt .f32 (tb - ta) = fI (tb - ta) := rfl
      obtain ⟨o1, hq⟩ := prt_ops (u := ta + 1 + (k : Int) - ta) (d := tb - ta) (by omega) hg
      have q1 := fun t w => run_float_arith (P := Try.prog) w .quo t .f32 _ _ _ o1
      have hnext := Lib.hid (gapK_next (ta, ca, fa) (tb, cb, fb) k)
      have KC := fun w' => countBetween_any ca cb HH.out.1 HH.out.2.2.1 (prt (ta + 1 + (k : Int) - ta) (tb - ta)) hq w'
      have KF := fun w' => countBetween_any fa fb HH.out.2.1 HH.out.2.2.2 (prt (ta + 1 + (k : Int) - ta) (tb - ta)) hq w'
      have hT : gapT (ta, ca, fa) (tb, cb, fb) (ta + 1 + (k : Int)) = (ta + 1 + (k : Int), cntB (btwB ca cb (prt (ta + 1 + (k : Int) - ta) (tb - ta))), cntB (btwB fa fb (prt (ta + 1 + (k : Int) - ta) (tb - ta)))) := rfl
      have hl12 : (gapK (ta, ca, fa) (tb, cb, fb) k).length ≤ 12 := by rw [gapK_len]; omega
      have hm2 : (tb - (ta + 1 + (k : Int) + 1)).toNat < (tb - (ta + 1 + (k : Int))).toNat := by omega
      have hu : ta + 1 + (k : Int) + 1 = ta + 1 + ((k + 1 : Nat) : Int) := by omega
      have HU := Lib.hid (And.intro hm2 hu)
      have HM := Lib.hid hm
      obtain ⟨va, vc, rfl⟩ := O1.any
      rw [show (ta, ca, fa).1 + 1 + (k : Int) = ta + 1 + (k : Int) from rfl] at hnext
      rw [hT] at hnext
      clear o1 hq hT hm2 hu hm hta htb hg
      generalize cntB (btwB ca cb (prt (ta + 1 + (k : Int) - ta) (tb - ta))) = cv at KC hnext
      generalize cntB (btwB fa fb (prt (ta + 1 + (k : Int) - ta) (tb - ta))) = fv at KF hnext
      generalize prt (ta + 1 + (k : Int) - ta) (tb - ta) = q at *
      generalize fI (ta + 1 + (k : Int) - ta) = X at *
      generalize fI (tb - ta) = Y at *
      generalize ta + 1 + (k : Int) = u at *
      go_wp2_with fail
      refine wp_region_alloc (n := 15) (ia := 14) (d := 8) (T := 111) (ZR := #[.int .i64 0, .int .i16 0, .int .i16 0]) (by kernel_rfl) (by kernel_rfl) (by kernel_rfl) ⟨rfl, rfl, by decide, by kernel_rfl, by kernel_rfl, by kernel_rfl⟩ (fun ev w' => by kernel_rfl) ?_
      intro W9 hW9
      have A9 := A1.step hW9
      have C9 := C1.step hW9
      have hC := Cb.const W9
      simp (config := { decide := true }) only [cutOut, nop, List.mapIdx_cons, List.mapIdx_nil, if_true, if_false, List.take, List.drop]
      repeat (first
        | go_big_quiet_skip
        | (go_big_quiet_want; first
          | (refine q_oneK 34 _ rfl _ Try.underlying34 rfl 1 rfl A9 _ (t1_1 _ _ _) ?_; go_simp; go_big_quiet_on)
          | (refine q_oneK 34 _ rfl _ Try.underlying34 rfl 2 rfl A9 _ (t1_2 _ _ _) ?_; go_simp; go_big_quiet_on)
          | (refine q_oneK 34 _ rfl _ Try.underlying34 rfl 1 rfl C9 _ (t1_1 _ _ _) ?_; go_simp; go_big_quiet_on)
          | (refine q_oneK 34 _ rfl _ Try.underlying34 rfl 2 rfl C9 _ (t1_2 _ _ _) ?_; go_simp; go_big_quiet_on)
          | (go_big_quiet_op; go_big_quiet_on)
          | (go_big_quiet_op; apply Exists.intro; refine ⟨fun w' hw' => ?_, ?_⟩; (go_at_call 143; (with_reducible show Calls _ _ #[.int .i16 ca, .int .i16 cb, .float .f32 q] _ _); exact (KC _).mono fun _ _ h => ⟨h.1, hw'.step h.2⟩); go_big_quiet_on)
          | (go_big_quiet_op; apply Exists.intro; refine ⟨fun w' hw' => ?_, ?_⟩; (go_at_call 143; (with_reducible show Calls _ _ #[.int .i16 fa, .int .i16 fb, .float .f32 q] _ _); exact (KF _).mono fun _ _ h => ⟨h.1, hw'.step h.2⟩); go_big_quiet_on)))
      refine wpQuiet_nil ?_
      intro gf w5 hw5 hgf F5
      clear A9 C9 hC hW9 KC KF
      simp only [Act.put, List.setIfInBounds_toArray, List.set_cons_succ, List.set_cons_zero]
      have hgw : w.heap.size + 1 < gf := by omega
      have O5 := O1.step hw5
      have hOb := O1.block
      have A6 := (A1.step hw5).setRow_other (k := gf) (by omega) (t1 u cv fv)
      have C6 := (C1.step hw5).setRow_other (k := gf) (by omega) (t1 u cv fv)
      have F6 := F5.setRow (t1 u cv fv)
      have O6 := O5.setRow_other (g := gf) (fun q hq => by have := (hOb q hq).2; omega) (t1 u cv fv)
      have B6 := Lib.hid (bset (bthen B1.out hw5) (g := gf) (by omega) (t1 u cv fv))
      have hw6 : wr.heap.size ≤ w5.heap.size := hw5.size
      clear A1 C1 O1 B1 hw5 O5 hOb
      obtain ⟨i0, hi, hz0, hz1, hz2⟩ := info_tally
      have hw7 : w.heap.size + 1 + 1 ≤ (w5.setRow gf (t1 u cv fv)).heap.size := by have := C6.lt; omega
      go_wp2_with (first | ((with_reducible refine is_store 111 _ _ rfl ?_); refine wpList_store_at rfl 111 _ _ rfl _ rfl (t1 u cv fv) rfl (#[.int .i64 0, .int .i16 0, .int .i16 0]) _ (by with_reducible assumption) 3 (t1_size _ _ _) (rfl) (by kernel_rfl) (t1_one _ _ _) ?_) | ((with_reducible refine is_load 111 _ rfl ?_); refine wpList_load_at rfl 111 _ rfl _ rfl (t1 u cv fv) _ (by with_reducible assumption) 3 (t1_size _ _ _) _ Try.underlying111 rfl (by kernel_rfl) ?_) | ((with_reducible refine is_bslice 24 1 _ rfl ?_); refine wpList_bslice rfl 24 1 _ rfl #[(0, .agg (t1 u cv fv))] (by kernel_rfl) _ (run_oneT _ u cv fv) ?_) | (at_builtin; go_loud (refine wpList_append_own _ rfl _ _ 24 rfl (w.heap.size + 1 + 1) 111 i0 (.agg #[.int .i64 0, .int .i16 0, .int .i16 0]) 3 16 Try.underlying24 hi hz0 hz1 hz2 rfl (by decide) _ (gapK (ta, ca, fa) (tb, cb, fb) k).length _ rfl (O6.step (b0 _ _)) ⟨(w5.setRow gf (t1 u cv fv)).heap.size, 0, none⟩ 1 1 (tll (u, cv, fv)) rfl rfl (one_cellsT (w5.setRow gf (t1 u cv fv)) u cv fv) (tll_one _) (by unfold maxLen; omega) (by omega) (by simp; omega) ?_)))
      intro v' w8 hown hgrow _
      have O8 := OwnT.grown hown
      have hb8 : Below (w.heap.size + 1 + 1) ((w5.setRow gf (t1 u cv fv)).alloc (.cells (t1 u cv fv) 111)) w8 := Below.grownBy hgrow (by rw [World.size_alloc]; omega) (fun q hq => (O6.block q hq).1)
      have B8 := Lib.hid ((bnew B6.out (.cells (t1 u cv fv) 111)).trans (hb8.mono (by omega)))
      have A8 : At w8 w.heap.size (t1 ta ca fa) 111 := (hb8.block _ (by omega)).trans (A6.alloc (.cells (t1 u cv fv) 111))
      have C8 : At w8 (w.heap.size + 1) (t1 tb cb fb) 111 := (hb8.block _ (by omega)).trans (C6.alloc (.cells (t1 u cv fv) 111))
      rw [← hnext.out] at O8
      clear hown hgrow hb8 A6 C6 F6 O6 B6
      go_wp2_with fail
      exact ⟨⟨k + 1, by omega, by rw [← HU.out.2], O8, A8, C8, B8⟩, by simp [intOf]; have := HU.out.1; omega⟩
    · obtain rfl : k = m := by omega
      have d1 : decide (ta + 1 + (k : Int) < tb) = false := decide_eq_false (by omega)
      have kd : ¬ ta + 1 + (k : Int) < tb := by omega
      go_wp2_with fail
      go_ret
      exact ⟨⟨_, rfl, by rw [hgl.out]; exact O1.low (by omega)⟩, B1.out⟩

end Go.Proofs.Ytlffcpoooaoneaa
