/-
  CONTRACTS: the first turn at which cars are kept, as the program has it.
-/
import Derived.Test.YtejbaoakpkpciaaPairsT
import Derived.Test.YtejbaoakpkpciaaG14
import Derived.Test.YtejbaoakpkpciaaIncS
namespace Go.Proofs.Ytejbaoakpkpciaa
open Go Go.ChangeShapes Go.WideShapes Go.ChangeAt Go.RowKit
set_option maxRecDepth 100000

theorem pr_part {xs ys : Ts} {L : List (Nat × Nat)} {cur : Array Value} (hc : ∀ p, p < L.length * 6 → cur[p]? = (pLc xs ys L)[p]?) (hs : L.length * 6 ≤ cur.size) {k : Nat} (hk : k < L.length) : cur.extract (k * 6) (k * 6 + 6) = pr xs ys L[k].1 L[k].2 := by
  apply Array.ext_getElem?
  intro j
  rw [Array.getElem?_extract]
  by_cases c : j < 6
  · rw [if_pos (by omega), hc _ (by omega), pLc_get hk c, ← Array.getElem?_toList]; rfl
  · rw [if_neg (by omega), Array.getElem?_eq_none (by show 6 ≤ j; omega)]
theorem nowI_t {xs ys : Ts} {a s k j : Nat} {now : Int} (h : strB xs ys a s k j = true) : nowI xs ys a s k j now = now + 1 := by unfold nowI; rw [if_pos h]
theorem nowI_f {xs ys : Ts} {a s k j : Nat} {now : Int} (h : strB xs ys a s k j = false) : nowI xs ys a s k j now = 0 := by unfold nowI; rw [h]; rfl

set_option maxHeartbeats 2000000 in
theorem FirstIncident_any (G : Nat) (xs : Ts) (cap : Nat) (hW : TW xs) (hn : xs.length ≤ 1048576) (T : TypeId) (G2 : Nat) (ys : Ts) (cap2 : Nat) (hW2 : TW ys) (hn2 : ys.length ≤ 1048576) (T2 : TypeId) (a : Nat) (ha : a < 4294967296) (s : Nat) (hs : s < 4294967296) (tm : Int) (w : World) (h0 : At w G (tC xs) T) (h02 : At w G2 (tC ys) T2) :
    Calls Try.prog 7 #[(.slice (some ⟨G, 0, none⟩) xs.length cap), (.slice (some ⟨G2, 0, none⟩) ys.length cap2), .float .f32 a, .float .f32 s, .int .i64 tm] w fun e w' => e = .returned (.tuple #[.int .i64 (vInc xs ys a s tm).1, .int .i64 (vInc xs ys a s tm).2]) ∧ Below w.heap.size w w' := by
  have KV := ValidTallies_any G xs cap hW hn T w h0
  have KV2 := ValidTallies_any G2 ys cap2 hW2 hn2 T2
  have KA := IsAmount_any a ha
  have KT := IsShare_any s hs
  have KM := isRowLength_b tm
  cases h : okT xs
  · rw [vInc_1a h]
    rw [h] at KV
    generalize xs.length = n at KV
    generalize ys.length = n2 at KV2
    go_enter Try.func7, Try.ntmps7
    go_wp2_with fail
    refine (KV).mono ?_
    rintro e w1 ⟨rfl, hb1⟩
    go_wp2_with fail
    go_ret2
    exact ⟨rfl, hb1⟩
  · rw [h] at KV
    cases h' : okT ys
    · rw [vInc_1b h']
      rw [h'] at KV2
      generalize xs.length = n at KV
      generalize ys.length = n2 at KV2
      go_enter Try.func7, Try.ntmps7
      go_wp2_with fail
      refine (KV).mono ?_
      rintro e w1 ⟨rfl, hb1⟩
      go_wp2_with fail
      refine (KV2 w1 (h02.step hb1)).mono ?_
      rintro e w2 ⟨rfl, hb2⟩
      have hb2 := bthen hb1 hb2
      go_wp2_with fail
      go_ret2
      exact ⟨rfl, hb2⟩
    · rw [h'] at KV2
      cases h2 : amtB a
      · rw [vInc_2a h h' h2]
        rw [h2] at KA
        generalize xs.length = n at KV
        generalize ys.length = n2 at KV2
        go_enter Try.func7, Try.ntmps7
        go_wp2_with fail
        refine (KV).mono ?_
        rintro e w1 ⟨rfl, hb1⟩
        go_wp2_with fail
        refine (KV2 w1 (h02.step hb1)).mono ?_
        rintro e w2 ⟨rfl, hb2⟩
        have hb2 := bthen hb1 hb2
        go_wp2_with fail
        refine (KA _).mono ?_
        rintro e w3 ⟨rfl, n3, rfl⟩
        have hb3 := bdrew hb2 n3
        generalize World.drewN _ n3 = w3 at hb3 ⊢
        go_wp2_with fail
        go_ret2
        exact ⟨rfl, hb3⟩
      · rw [h2] at KA
        cases h3 : shrB s
        · rw [vInc_2b h h' h3]
          rw [h3] at KT
          generalize xs.length = n at KV
          generalize ys.length = n2 at KV2
          go_enter Try.func7, Try.ntmps7
          go_wp2_with fail
          refine (KV).mono ?_
          rintro e w1 ⟨rfl, hb1⟩
          go_wp2_with fail
          refine (KV2 w1 (h02.step hb1)).mono ?_
          rintro e w2 ⟨rfl, hb2⟩
          have hb2 := bthen hb1 hb2
          go_wp2_with fail
          refine (KA _).mono ?_
          rintro e w3 ⟨rfl, n3, rfl⟩
          have hb3 := bdrew hb2 n3
          generalize World.drewN _ n3 = w3 at hb3 ⊢
          go_wp2_with fail
          refine (KT _).mono ?_
          rintro e w4 ⟨rfl, n4, rfl⟩
          have hb4 := bdrew hb3 n4
          generalize World.drewN _ n4 = w4 at hb4 ⊢
          go_wp2_with fail
          go_ret2
          exact ⟨rfl, hb4⟩
        · rw [h3] at KT
          cases h4 : inB 1 96 tm
          · rw [vInc_2c h h' h4]
            rw [h4] at KM
            generalize xs.length = n at KV
            generalize ys.length = n2 at KV2
            go_enter Try.func7, Try.ntmps7
            go_wp2_with fail
            refine (KV).mono ?_
            rintro e w1 ⟨rfl, hb1⟩
            go_wp2_with fail
            refine (KV2 w1 (h02.step hb1)).mono ?_
            rintro e w2 ⟨rfl, hb2⟩
            have hb2 := bthen hb1 hb2
            go_wp2_with fail
            refine (KA _).mono ?_
            rintro e w3 ⟨rfl, n3, rfl⟩
            have hb3 := bdrew hb2 n3
            generalize World.drewN _ n3 = w3 at hb3 ⊢
            go_wp2_with fail
            refine (KT _).mono ?_
            rintro e w4 ⟨rfl, n4, rfl⟩
            have hb4 := bdrew hb3 n4
            generalize World.drewN _ n4 = w4 at hb4 ⊢
            go_wp2_with fail
            refine (KM _).mono ?_
            rintro e w5 ⟨rfl, n5, rfl⟩
            have hb5 := bdrew hb4 n5
            generalize World.drewN _ n5 = w5 at hb5 ⊢
            go_wp2_with fail
            go_ret2
            exact ⟨rfl, hb5⟩
          · rw [h4] at KM
            have hsh : s ≤ 1065353216 := of_decide_eq_true h3
            have h96 := okT_len h
            have h96' := okT_len h'
            rw [vInc_0 h h' h2 h3 h4]
            clear h2 h3 h4
            have HX := Lib.hid h0
            have HY := Lib.hid h02
            have HK := Lib.hid (And.intro h h')
            have HP := Lib.hid (fun k j (hk : k < xs.length) (hj : j < ys.length) => inc_ops h h' hsh hk hj)
            have HF := Lib.hid (fun k (hk : k < xs.length) => fullF h hk)
            have HF2 := Lib.hid (fun k (hk : k < ys.length) => fullF h' hk)
            obtain ⟨n, hnn⟩ : ∃ n, n = xs.length := ⟨_, rfl⟩
            obtain ⟨n2, hnn2⟩ : ∃ n2, n2 = ys.length := ⟨_, rfl⟩
            rw [← hnn] at h96 KV ⊢
            rw [← hnn2] at h96' KV2 ⊢
            have HN := Lib.hid hnn
            have HN2 := Lib.hid hnn2
            clear hnn hnn2 h0 h h' hn hn2 hW hW2
            go_enter Try.func7, Try.ntmps7
            go_wp2_with fail
            refine (KV).mono ?_
            rintro e w1 ⟨rfl, hb1⟩
            go_wp2_with fail
            refine (KV2 w1 (HY.out.step hb1)).mono ?_
            rintro e w2 ⟨rfl, hb2⟩
            have hb2 := bthen hb1 hb2
            go_wp2_with fail
            refine (KA _).mono ?_
            rintro e w3 ⟨rfl, n3, rfl⟩
            have hb3 := bdrew hb2 n3
            generalize World.drewN _ n3 = w3 at hb3 ⊢
            go_wp2_with fail
            refine (KT _).mono ?_
            rintro e w4 ⟨rfl, n4, rfl⟩
            have hb4 := bdrew hb3 n4
            generalize World.drewN _ n4 = w4 at hb4 ⊢
            go_wp2_with fail
            refine (KM _).mono ?_
            rintro e w5 ⟨rfl, n5, rfl⟩
            have hb5 := bdrew hb4 n5
            generalize World.drewN _ n5 = w5 at hb5 ⊢
            have A1 := HX.out.step hb5
            have C1 := HY.out.step hb5
            have B1 := Lib.hid hb5
            clear hb1 hb2 hb3 hb4 hb5 KV KV2 KA KT KM
            go_wp2_with fail
            have KP := pairsOf_any G xs cap T G2 ys cap2 T2 (by rw [← HN.out]; exact h96) (by rw [← HN2.out]; exact h96') HK.out.2 w5 A1 C1
            have hPl : (prsN xs ys 0 n).length ≤ 96 := Nat.le_trans (prsN_len _ _) h96
            have hPa := Lib.hid (fun q (hq : q ∈ prsN xs ys 0 n) => prsN_at n 0 (by rw [Nat.zero_add]; exact HN.out) q hq)
            rw [← HN.out, ← HN2.out] at KP
            refine KP.mono ?_
            rintro e w6 ⟨⟨v, rfl, O6⟩, hb6⟩
            have B6 := Lib.hid (bthen B1.out hb6)
            have O6 := O6.low B1.out.size
            clear KP hb6 A1 C1 B1
            obtain ⟨av, cv, rfl⟩ := O6.any
            obtain ⟨P, hP⟩ : ∃ P, P = prsN xs ys 0 n := ⟨_, rfl⟩
            rw [← hP] at hPl hPa O6 ⊢
            have HPE := Lib.hid hP
            clear hP
            obtain ⟨p, hp⟩ : ∃ p, p = P.length := ⟨_, rfl⟩
            rw [← hp] at hPl ⊢
            have HPL := Lib.hid hp
            have O6' : OwnP w6 w.heap.size (.slice av p cv) xs ys P := by rw [hp]; exact O6
            clear hp O6
            go_wp2_with fail
            go_loopw [12, 40] (fun s' i wr => ∃ (k : Nat) (m : Int), k ≤ p ∧ s' = .int .i64 m ∧ i = .int .i64 (k : Int) ∧ 0 ≤ m ∧ m ≤ (k : Int) ∧ Hid (incL xs ys a s tm P 0 = incL xs ys a s tm (P.drop k) m) ∧ OwnP wr w.heap.size (.slice av p cv) xs ys P ∧ Hid (Below w.heap.size w wr)) (fun _ i _ => p - (intOf i).toNat)
            case atStart => exact ⟨0, 0, by omega, rfl, rfl, by omega, by omega, Lib.hid rfl, O6', B6⟩
            case round =>
              clear O6' B6
              obtain ⟨k, m, hk, rfl, rfl, m0, m1, hv, O1, B1⟩ := hrel
              by_cases hlt : k < p
              · have s2 : IntKind.i64.wrap ((k : Int) + 1) = (k : Int) + 1 := IntWalk.i64_in _ (by omega)
                have kd : (k : Int) < (p : Int) := by omega
                have hkl : k < P.length := by rw [← HPL.out]; exact hlt
                have s4 : IntKind.i64.wrap (m + 1) = m + 1 := IntWalk.i64_in _ (by omega)
                obtain ⟨g, cap', cur, hv', -, hA, -, hcs, hc⟩ := O1.at (by omega)
                rw [← HPL.out] at hv'
                obtain ⟨rfl, rfl⟩ : av = some ⟨g, 0, none⟩ ∧ cv = cap' := by simpa using hv'
                have hsl := pr_part hc hcs hkl
                have hle : k * 6 + 6 ≤ cur.size := by omega
                obtain ⟨hkk, hjj⟩ := hPa.out P[k] (List.getElem_mem hkl)
                rw [List.drop_eq_getElem_cons hkl] at hv
                clear hv' hc hcs
                generalize P[k] = q at *
                obtain ⟨kk, jj⟩ := q
                simp only at hsl hkk hjj
                obtain ⟨o1, o2⟩ := HP.out kk jj hkk hjj
                have KS : ∀ w, Calls Try.prog 23 #[.agg (pr xs ys kk jj), .float .f32 a, .float .f32 s] w fun e w' => e = .returned (.bool (strB xs ys a s kk jj)) ∧ Below w.heap.size w w' := fun w => isStriking_any _ _ _ _ _ _ a s _ _ _ _ (HF.out kk hkk) (HF2.out jj hjj) o1 o2 w
                have N0 := At.new wr #[.int .i64 0, .int .i16 0, .int .i16 0, .int .i64 0, .int .i16 0, .int .i16 0] 51
                have N1 := N0.setRow (pr xs ys kk jj)
                have O2 := (O1.step (b0 wr (.cells #[.int .i64 0, .int .i16 0, .int .i16 0, .int .i64 0, .int .i16 0, .int .i16 0] 51))).setRow_other (g := wr.heap.size) (fun q hq => by have := (O1.block q hq).2; omega) (pr xs ys kk jj)
                have B2 := Lib.hid (bset (bnew B1.out (.cells #[.int .i64 0, .int .i16 0, .int .i16 0, .int .i64 0, .int .i16 0, .int .i16 0] 51)) (g := wr.heap.size) B1.out.size (pr xs ys kk jj))
                clear O1 B1 o1 o2 hkk hjj hkl
                cases hs : strB xs ys a s kk jj
                · skip
                  have hr := Lib.hid (nowI_f hs (now := m))
                  rw [hs] at KS
                  clear hs
                  by_cases hh : (0 : Int) = tm
                  · have hv2 := Lib.hid (hv.out.trans (incL_hit (hr.out.trans hh)))
                    have d3 : ((0 : Int) == tm) = true := by simpa using hh
                    clear hh
                    go_wp2_with (first | ((with_reducible refine is_load 51 _ rfl ?_); refine wpList_load_part rfl 51 _ rfl _ (k * 6) rfl (cur) _ (by with_reducible assumption) 6 (hle) _ Try.underlying51 rfl (by kernel_rfl) ((pr xs ys kk jj)) (hsl) ?_) | ((with_reducible refine is_store 51 _ _ rfl ?_); refine wpList_store_at rfl 51 _ _ rfl _ rfl ((pr xs ys kk jj)) rfl (#[.int .i64 0, .int .i16 0, .int .i16 0, .int .i64 0, .int .i16 0, .int .i16 0]) _ (by with_reducible assumption) 6 (p6_size _ _ _ _ _ _) (rfl) (by kernel_rfl) (p6_one _ _ _ _ _ _) ?_) | ((with_reducible refine is_load 51 _ rfl ?_); refine wpList_load_at rfl 51 _ rfl _ rfl ((pr xs ys kk jj)) _ (by with_reducible assumption) 6 (p6_size _ _ _ _ _ _) _ Try.underlying51 rfl (by kernel_rfl) ?_))
                    refine (KS _).mono ?_
                    rintro e w9 ⟨rfl, hb9⟩
                    have N3 := N1.step hb9
                    have O3 := O2.step hb9
                    have B3 := Lib.hid (bthen B2.out hb9)
                    have c0 := N3.cell (p6_0 _ _ _ _ _ _)
                    clear N1 O2 B2 hb9 KS N0
                    go_wp2_with fail
                    go_ret2
                    exact ⟨by rw [← HPE.out, hv2.out]; rfl, B3.out⟩
                  · have hv2 := Lib.hid (hv.out.trans (incL_on (fun e => hh (hr.out.symm.trans e))))
                    rw [hr.out] at hv2
                    have d3 : ((0 : Int) == tm) = false := by simpa using hh
                    have d3' : decide ((0 : Int) = tm) = false := decide_eq_false hh
                    clear hh
                    go_wp2_with (first | ((with_reducible refine is_load 51 _ rfl ?_); refine wpList_load_part rfl 51 _ rfl _ (k * 6) rfl (cur) _ (by with_reducible assumption) 6 (hle) _ Try.underlying51 rfl (by kernel_rfl) ((pr xs ys kk jj)) (hsl) ?_) | ((with_reducible refine is_store 51 _ _ rfl ?_); refine wpList_store_at rfl 51 _ _ rfl _ rfl ((pr xs ys kk jj)) rfl (#[.int .i64 0, .int .i16 0, .int .i16 0, .int .i64 0, .int .i16 0, .int .i16 0]) _ (by with_reducible assumption) 6 (p6_size _ _ _ _ _ _) (rfl) (by kernel_rfl) (p6_one _ _ _ _ _ _) ?_) | ((with_reducible refine is_load 51 _ rfl ?_); refine wpList_load_at rfl 51 _ rfl _ rfl ((pr xs ys kk jj)) _ (by with_reducible assumption) 6 (p6_size _ _ _ _ _ _) _ Try.underlying51 rfl (by kernel_rfl) ?_))
                    refine (KS _).mono ?_
                    rintro e w9 ⟨rfl, hb9⟩
                    have N3 := N1.step hb9
                    have O3 := O2.step hb9
                    have B3 := Lib.hid (bthen B2.out hb9)
                    have c0 := N3.cell (p6_0 _ _ _ _ _ _)
                    clear N1 O2 B2 hb9 KS N0
                    go_wp2_with fail
                    exact ⟨⟨k + 1, (0 : Int), by omega, rfl, by go_num, by omega, by omega, hv2, O3, B3⟩, by simp [intOf]; omega⟩
                · skip
                  have hr := Lib.hid (nowI_t hs (now := m))
                  rw [hs] at KS
                  clear hs
                  by_cases hh : (m + 1) = tm
                  · have hv2 := Lib.hid (hv.out.trans (incL_hit (hr.out.trans hh)))
                    have d3 : ((m + 1) == tm) = true := by simpa using hh
                    clear hh
                    go_wp2_with (first | ((with_reducible refine is_load 51 _ rfl ?_); refine wpList_load_part rfl 51 _ rfl _ (k * 6) rfl (cur) _ (by with_reducible assumption) 6 (hle) _ Try.underlying51 rfl (by kernel_rfl) ((pr xs ys kk jj)) (hsl) ?_) | ((with_reducible refine is_store 51 _ _ rfl ?_); refine wpList_store_at rfl 51 _ _ rfl _ rfl ((pr xs ys kk jj)) rfl (#[.int .i64 0, .int .i16 0, .int .i16 0, .int .i64 0, .int .i16 0, .int .i16 0]) _ (by with_reducible assumption) 6 (p6_size _ _ _ _ _ _) (rfl) (by kernel_rfl) (p6_one _ _ _ _ _ _) ?_) | ((with_reducible refine is_load 51 _ rfl ?_); refine wpList_load_at rfl 51 _ rfl _ rfl ((pr xs ys kk jj)) _ (by with_reducible assumption) 6 (p6_size _ _ _ _ _ _) _ Try.underlying51 rfl (by kernel_rfl) ?_))
                    refine (KS _).mono ?_
                    rintro e w9 ⟨rfl, hb9⟩
                    have N3 := N1.step hb9
                    have O3 := O2.step hb9
                    have B3 := Lib.hid (bthen B2.out hb9)
                    have c0 := N3.cell (p6_0 _ _ _ _ _ _)
                    clear N1 O2 B2 hb9 KS N0
                    go_wp2_with fail
                    go_ret2
                    exact ⟨by rw [← HPE.out, hv2.out]; rfl, B3.out⟩
                  · have hv2 := Lib.hid (hv.out.trans (incL_on (fun e => hh (hr.out.symm.trans e))))
                    rw [hr.out] at hv2
                    have d3 : ((m + 1) == tm) = false := by simpa using hh
                    have d3' : decide ((m + 1) = tm) = false := decide_eq_false hh
                    clear hh
                    go_wp2_with (first | ((with_reducible refine is_load 51 _ rfl ?_); refine wpList_load_part rfl 51 _ rfl _ (k * 6) rfl (cur) _ (by with_reducible assumption) 6 (hle) _ Try.underlying51 rfl (by kernel_rfl) ((pr xs ys kk jj)) (hsl) ?_) | ((with_reducible refine is_store 51 _ _ rfl ?_); refine wpList_store_at rfl 51 _ _ rfl _ rfl ((pr xs ys kk jj)) rfl (#[.int .i64 0, .int .i16 0, .int .i16 0, .int .i64 0, .int .i16 0, .int .i16 0]) _ (by with_reducible assumption) 6 (p6_size _ _ _ _ _ _) (rfl) (by kernel_rfl) (p6_one _ _ _ _ _ _) ?_) | ((with_reducible refine is_load 51 _ rfl ?_); refine wpList_load_at rfl 51 _ rfl _ rfl ((pr xs ys kk jj)) _ (by with_reducible assumption) 6 (p6_size _ _ _ _ _ _) _ Try.underlying51 rfl (by kernel_rfl) ?_))
                    refine (KS _).mono ?_
                    rintro e w9 ⟨rfl, hb9⟩
                    have N3 := N1.step hb9
                    have O3 := O2.step hb9
                    have B3 := Lib.hid (bthen B2.out hb9)
                    have c0 := N3.cell (p6_0 _ _ _ _ _ _)
                    clear N1 O2 B2 hb9 KS N0
                    go_wp2_with fail
                    exact ⟨⟨k + 1, (m + 1), by omega, rfl, by go_num, by omega, by omega, hv2, O3, B3⟩, by simp [intOf]; omega⟩
              · obtain rfl : p = k := by omega
                have hv2 := Lib.hid (hv.out.trans (by rw [HPL.out, List.drop_length]; rfl : _ = ((0 : Int), (6 : Int))))
                go_wp2_with fail
                go_ret2
                exact ⟨by rw [← HPE.out, hv2.out]; rfl, B1.out⟩

end Go.Proofs.Ytejbaoakpkpciaa
