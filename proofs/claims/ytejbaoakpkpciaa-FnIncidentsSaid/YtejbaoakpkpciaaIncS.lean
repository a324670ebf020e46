/-
  CONTRACTS: the first turn at which cars are kept, as the model has it.
-/
import Derived.Test.YtejbaoakpkpciaaG14
import Derived.Test.YtejbaoakpkpciaaNum
namespace Go.Proofs.Ytejbaoakpkpciaa
open Go Go.ChangeShapes Go.WideShapes Go.ChangeAt Go.RowKit
set_option maxRecDepth 100000

set_option maxHeartbeats 2000000 in
theorem sFirstIncident_any (G : Nat) (xs : Ts) (cap : Nat) (hW : TW xs) (hn : xs.length ≤ 1048576) (T : TypeId) (G2 : Nat) (ys : Ts) (cap2 : Nat) (hW2 : TW ys) (hn2 : ys.length ≤ 1048576) (T2 : TypeId) (a : Nat) (ha : a < 4294967296) (s : Nat) (hs : s < 4294967296) (tm : Int) (w : World) (h0 : At w G (tC xs) T) (h02 : At w G2 (tC ys) T2) :
    Calls Try.prog 8 #[(.slice (some ⟨G, 0, none⟩) xs.length cap), (.slice (some ⟨G2, 0, none⟩) ys.length cap2), .float .f32 a, .float .f32 s, .int .i64 tm] w fun e w' => e = .returned (.tuple #[.int .i64 (vInc xs ys a s tm).1, .int .i64 (vInc xs ys a s tm).2]) ∧ Below w.heap.size w w' := by
  have KV := l05List_any G xs cap hW hn T w h0
  have KV2 := l05List_any G2 ys cap2 hW2 hn2 T2
  have KA := l01Amount_any a ha
  have KT := l01Share_any s hs
  have KM := l05Times_b tm
  cases h : okT xs
  · rw [vInc_1a h]
    rw [h] at KV
    generalize xs.length = n at KV
    generalize ys.length = n2 at KV2
    go_enter Try.func8, Try.ntmps8
    go_wp2_with fail
    refine (KV).mono ?_
    rintro e w1 ⟨rfl, hb1⟩
    go_wp2_with fail
    go_ret2
    exact ⟨rfl, hb1⟩
  · rw [h] at KV
    cases h' : okT ys
    · rw [vInc_1b h']
      rw [h'] at KV2
      generalize xs.length = n at KV
      generalize ys.length = n2 at KV2
      go_enter Try.func8, Try.ntmps8
      go_wp2_with fail
      refine (KV).mono ?_
      rintro e w1 ⟨rfl, hb1⟩
      go_wp2_with fail
      refine (KV2 w1 (h02.step hb1)).mono ?_
      rintro e w2 ⟨rfl, hb2⟩
      have hb2 := bthen hb1 hb2
      go_wp2_with fail
      go_ret2
      exact ⟨rfl, hb2⟩
    · rw [h'] at KV2
      cases h2 : amtB a
      · rw [vInc_2a h h' h2]
        rw [h2] at KA
        generalize xs.length = n at KV
        generalize ys.length = n2 at KV2
        go_enter Try.func8, Try.ntmps8
        go_wp2_with fail
        refine (KV).mono ?_
        rintro e w1 ⟨rfl, hb1⟩
        go_wp2_with fail
        refine (KV2 w1 (h02.step hb1)).mono ?_
        rintro e w2 ⟨rfl, hb2⟩
        have hb2 := bthen hb1 hb2
        go_wp2_with fail
        refine (KA _).mono ?_
        rintro e w3 ⟨rfl, n3, rfl⟩
        have hb3 := bdrew hb2 n3
        generalize World.drewN _ n3 = w3 at hb3 ⊢
        go_wp2_with fail
        go_ret2
        exact ⟨rfl, hb3⟩
      · rw [h2] at KA
        cases h3 : shrB s
        · rw [vInc_2b h h' h3]
          rw [h3] at KT
          generalize xs.length = n at KV
          generalize ys.length = n2 at KV2
          go_enter Try.func8, Try.ntmps8
          go_wp2_with fail
          refine (KV).mono ?_
          rintro e w1 ⟨rfl, hb1⟩
          go_wp2_with fail
          refine (KV2 w1 (h02.step hb1)).mono ?_
          rintro e w2 ⟨rfl, hb2⟩
          have hb2 := bthen hb1 hb2
          go_wp2_with fail
          refine (KA _).mono ?_
          rintro e w3 ⟨rfl, n3, rfl⟩
          have hb3 := bdrew hb2 n3
          generalize World.drewN _ n3 = w3 at hb3 ⊢
          go_wp2_with fail
          refine (KT _).mono ?_
          rintro e w4 ⟨rfl, n4, rfl⟩
          have hb4 := bdrew hb3 n4
          generalize World.drewN _ n4 = w4 at hb4 ⊢
          go_wp2_with fail
          go_ret2
          exact ⟨rfl, hb4⟩
        · rw [h3] at KT
          cases h4 : inB 1 96 tm
          · rw [vInc_2c h h' h4]
            rw [h4] at KM
            generalize xs.length = n at KV
            generalize ys.length = n2 at KV2
            go_enter Try.func8, Try.ntmps8
            go_wp2_with fail
            refine (KV).mono ?_
            rintro e w1 ⟨rfl, hb1⟩
            go_wp2_with fail
            refine (KV2 w1 (h02.step hb1)).mono ?_
            rintro e w2 ⟨rfl, hb2⟩
            have hb2 := bthen hb1 hb2
            go_wp2_with fail
            refine (KA _).mono ?_
            rintro e w3 ⟨rfl, n3, rfl⟩
            have hb3 := bdrew hb2 n3
            generalize World.drewN _ n3 = w3 at hb3 ⊢
            go_wp2_with fail
            refine (KT _).mono ?_
            rintro e w4 ⟨rfl, n4, rfl⟩
            have hb4 := bdrew hb3 n4
            generalize World.drewN _ n4 = w4 at hb4 ⊢
            go_wp2_with fail
            refine (KM _).mono ?_
            rintro e w5 ⟨rfl, n5, rfl⟩
            have hb5 := bdrew hb4 n5
            generalize World.drewN _ n5 = w5 at hb5 ⊢
            go_wp2_with fail
            go_ret2
            exact ⟨rfl, hb5⟩
          · rw [h4] at KM
            have hsh : s ≤ 1065353216 := of_decide_eq_true h3
            have h96 := okT_len h
            have h96' := okT_len h'
            rw [vInc_0 h h' h2 h3 h4]
            clear h2 h3 h4
            have HX := Lib.hid h0
            have HY := Lib.hid h02
            have HK := Lib.hid (And.intro h h')
            have HP := Lib.hid (fun k j (hk : k < xs.length) (hj : j < ys.length) => inc_ops h h' hsh hk hj)
            have HF := Lib.hid (fun k (hk : k < xs.length) => fullF h hk)
            have HF2 := Lib.hid (fun k (hk : k < ys.length) => fullF h' hk)
            obtain ⟨n, hnn⟩ : ∃ n, n = xs.length := ⟨_, rfl⟩
            obtain ⟨n2, hnn2⟩ : ∃ n2, n2 = ys.length := ⟨_, rfl⟩
            rw [← hnn] at h96 KV ⊢
            rw [← hnn2] at h96' KV2 ⊢
            have HN := Lib.hid hnn
            have HN2 := Lib.hid hnn2
            clear hnn hnn2 h0 h h' hn hn2 hW hW2
            go_enter Try.func8, Try.ntmps8
            go_wp2_with fail
            refine (KV).mono ?_
            rintro e w1 ⟨rfl, hb1⟩
            go_wp2_with fail
            refine (KV2 w1 (HY.out.step hb1)).mono ?_
            rintro e w2 ⟨rfl, hb2⟩
            have hb2 := bthen hb1 hb2
            go_wp2_with fail
            refine (KA _).mono ?_
            rintro e w3 ⟨rfl, n3, rfl⟩
            have hb3 := bdrew hb2 n3
            generalize World.drewN _ n3 = w3 at hb3 ⊢
            go_wp2_with fail
            refine (KT _).mono ?_
            rintro e w4 ⟨rfl, n4, rfl⟩
            have hb4 := bdrew hb3 n4
            generalize World.drewN _ n4 = w4 at hb4 ⊢
            go_wp2_with fail
            refine (KM _).mono ?_
            rintro e w5 ⟨rfl, n5, rfl⟩
            have hb5 := bdrew hb4 n5
            generalize World.drewN _ n5 = w5 at hb5 ⊢
            have A1 := HX.out.step hb5
            have C1 := HY.out.step hb5
            have B1 := Lib.hid hb5
            clear hb1 hb2 hb3 hb4 hb5 KV KV2 KA KT KM
            go_wp2_with fail
            go_loopw [12, 13] (fun s' i wr => ∃ (k : Nat) (m : Int), k ≤ n ∧ s' = .int .i64 m ∧ i = .int .i64 (k : Int) ∧ 0 ≤ m ∧ m ≤ (k : Int) ∧ Hid (incL xs ys a s tm (prsN xs ys 0 n) 0 = incL xs ys a s tm (prsN xs ys k (n - k)) m) ∧ At wr G (tC xs) T ∧ At wr G2 (tC ys) T2 ∧ Hid (Below w.heap.size w wr)) (fun _ i _ => n - (intOf i).toNat)
            case atStart => exact ⟨0, 0, by omega, rfl, rfl, by omega, by omega, Lib.hid rfl, A1, C1, B1⟩
            case round =>
              clear A1 C1 B1
              obtain ⟨k, m, hk, rfl, rfl, m0, m1, hv, A1, C1, B1⟩ := hrel
              by_cases hlt : k < n
              · have s2 : IntKind.i64.wrap ((k : Int) + 1) = (k : Int) + 1 := IntWalk.i64_in _ (by omega)
                have kd : (k : Int) < (n : Int) := by omega
                have hkl : k < xs.length := by rw [← HN.out]; exact hlt
                have s4 : IntKind.i64.wrap (m + 1) = m + 1 := IntWalk.i64_in _ (by omega)
                have c0 := A1.cell (tC_turn hkl (k := k * 3) rfl)
                have hkN := Lib.hid hkl
                clear hkl
                rw [show n - k = (n - (k + 1)) + 1 from by omega] at hv
                have KF := l05Find_any G2 ys cap2 (by rw [← HN2.out]; omega) T2 (tn xs k) wr C1
                cases hf : kF ys (tn xs k) 0 ys.length with
                | none =>
                  rw [hf] at KF
                  rw [prsN_none hf] at hv
                  rw [← HN2.out] at KF
                  clear hf
                  go_wp2_with fail
                  refine KF.mono ?_
                  rintro e w6 ⟨rfl, hb6⟩
                  have A2 := A1.step hb6
                  have C2 := C1.step hb6
                  have B2 := Lib.hid (bthen B1.out hb6)
                  have f0 : decide (kFi none < 0) = true := rfl
                  clear A1 C1 B1 hb6 KF c0
                  go_wp2_with fail
                  exact ⟨⟨k + 1, m, by omega, rfl, by go_num, m0, by omega, hv, A2, C2, B2⟩, by simp [intOf]; omega⟩
                | some j =>
                  have hjl := kF_lt _ _ _ (Nat.zero_add _) hf
                  rw [hf] at KF
                  rw [prsN_some hf] at hv
                  rw [← HN2.out] at KF
                  clear hf
                  have jd : (j : Int) < (n2 : Int) := by rw [HN2.out]; omega
                  have j0 : decide ((j : Int) < 0) = false := decide_eq_false (by omega)
                  have j1 : (0 : Int) ≤ (j : Int) := by omega
                  have hj : j < n2 := by omega
                  have e1 := HF.out k hkN.out
                  have e2 := HF2.out j hjl
                  obtain ⟨o1, o2⟩ := HP.out k j hkN.out hjl
                  have q1 := fun t w => run_float_arith (P := Try.prog) w .sub t .f32 _ _ _ o1
                  have q2 := fun t w => run_float_arith (P := Try.prog) w .mul t .f32 _ _ _ o2
                  have hI1 : geB (dW xs ys k j) a = true → geB (dW xs ys k j) (mulB s (fW xs k)) = true → nowI xs ys a s k j m = m + 1 := nowI_yes
                  have hI2 : geB (dW xs ys k j) a = false → nowI xs ys a s k j m = 0 := nowI_no1
                  have hI3 : geB (dW xs ys k j) (mulB s (fW xs k)) = false → nowI xs ys a s k j m = 0 := nowI_no2
                  go_wp2_with fail
                  refine KF.mono ?_
                  rintro e w6 ⟨rfl, hb6⟩
                  have A2 := A1.step hb6
                  have C2 := C1.step hb6
                  have B2 := Lib.hid (bthen B1.out hb6)
                  have c0 := A2.cell (tC_turn hkN.out (k := k * 3) rfl)
                  have c2 := A2.cell (tC_full hkN.out (k := k * 3 + 2) rfl)
                  have d2 := C2.cell (tC_full hjl (k := j * 3 + 2) rfl)
                  clear A1 C1 B1 hb6 KF o1 o2 hjl
                  simp only [kFi]
                  generalize dW xs ys k j = D at *
                  generalize mulB s (fW xs k) = M at *
                  generalize fW xs k = X at *
                  generalize fW ys j = Y at *
                  unfold geB at hI1 hI2 hI3
                  cases g1 : (FloatKind.f32.format.order D a == some .gt || FloatKind.f32.format.order D a == some .eq)
                  · clear hI1 hI3
                    have hr := Lib.hid (hI2 g1)
                    by_cases hh : (0 : Int) = tm
                    · have hv2 := Lib.hid (hv.out.trans (incL_hit (hr.out.trans hh)))
                      have d3 : ((0 : Int) == tm) = true := by simpa using hh
                      clear hh
                      go_wp2_with fail
                      go_ret2
                      exact ⟨by rw [hv2.out]; rfl, B2.out⟩
                    · have hv2 := Lib.hid (hv.out.trans (incL_on (fun e => hh (hr.out.symm.trans e))))
                      rw [hr.out] at hv2
                      have d3 : ((0 : Int) == tm) = false := by simpa using hh
                      have d3' : decide ((0 : Int) = tm) = false := decide_eq_false hh
                      clear hh
                      go_wp2_with fail
                      exact ⟨⟨k + 1, (0 : Int), by omega, rfl, by go_num, by omega, by omega, hv2, A2, C2, B2⟩, by simp [intOf]; omega⟩
                  · cases g2 : (FloatKind.f32.format.order D M == some .gt || FloatKind.f32.format.order D M == some .eq)
                    · clear hI1 hI2
                      have hr := Lib.hid (hI3 g2)
                      by_cases hh : (0 : Int) = tm
                      · have hv2 := Lib.hid (hv.out.trans (incL_hit (hr.out.trans hh)))
                        have d3 : ((0 : Int) == tm) = true := by simpa using hh
                        clear hh
                        go_wp2_with fail
                        go_ret2
                        exact ⟨by rw [hv2.out]; rfl, B2.out⟩
                      · have hv2 := Lib.hid (hv.out.trans (incL_on (fun e => hh (hr.out.symm.trans e))))
                        rw [hr.out] at hv2
                        have d3 : ((0 : Int) == tm) = false := by simpa using hh
                        have d3' : decide ((0 : Int) = tm) = false := decide_eq_false hh
                        clear hh
                        go_wp2_with fail
                        exact ⟨⟨k + 1, (0 : Int), by omega, rfl, by go_num, by omega, by omega, hv2, A2, C2, B2⟩, by simp [intOf]; omega⟩
                    · clear hI2 hI3
                      have hr := Lib.hid (hI1 g1 g2)
                      by_cases hh : (m + 1) = tm
                      · have hv2 := Lib.hid (hv.out.trans (incL_hit (hr.out.trans hh)))
                        have d3 : ((m + 1) == tm) = true := by simpa using hh
                        clear hh
                        go_wp2_with fail
                        go_ret2
                        exact ⟨by rw [hv2.out]; rfl, B2.out⟩
                      · have hv2 := Lib.hid (hv.out.trans (incL_on (fun e => hh (hr.out.symm.trans e))))
                        rw [hr.out] at hv2
                        have d3 : ((m + 1) == tm) = false := by simpa using hh
                        have d3' : decide ((m + 1) = tm) = false := decide_eq_false hh
                        clear hh
                        go_wp2_with fail
                        exact ⟨⟨k + 1, (m + 1), by omega, rfl, by go_num, by omega, by omega, hv2, A2, C2, B2⟩, by simp [intOf]; omega⟩
              · obtain rfl : n = k := by omega
                rw [Nat.sub_self] at hv
                have hv2 := Lib.hid (hv.out.trans (rfl : _ = ((0 : Int), (6 : Int))))
                go_wp2_with fail
                go_ret2
                exact ⟨by rw [hv2.out]; rfl, B1.out⟩

end Go.Proofs.Ytejbaoakpkpciaa
