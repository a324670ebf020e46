/-
  CONTRACTS: the next tick with green, as the model has it.
-/
import Derived.Test.YtkhnhbmnmciiaabNextG
namespace Go.Proofs.Ytkhnhbmnmciiaab
open Go Go.ChangeShapes Go.WideShapes Go.ChangeAt Go.RowKit
set_option maxRecDepth 100000

set_option maxHeartbeats 1000000 in
theorem sNextGreen_any (G : Nat) (xs : Slots) (b o : Int) (hW : SlW xs) (T : TypeId) (k : Int) (_hk : I64 k) (t : Int) (_ht : I64 t) (w : World) (A0 : At w G (slC xs) T) :
    Calls Try.prog 27 #[.agg (plC (.slice (some ⟨G, 0, none⟩) xs.length xs.length) b o), .int .i64 k, .int .i64 t] w fun e w' => e = .returned (.tuple #[.int .i64 (vNG xs b o k t).1, .int .i64 (vNG xs b o k t).2]) ∧ Below w.heap.size w w' := by
  clear _hk _ht
  have P0 := At.new w (plC (.slice (some ⟨G, 0, none⟩) xs.length xs.length) b o) 29
  have A1 := A0.alloc (.cells (plC (.slice (some ⟨G, 0, none⟩) xs.length xs.length) b o) 29)
  have B0 := Lib.hid (b0 w (.cells (plC (.slice (some ⟨G, 0, none⟩) xs.length xs.length) b o) 29))
  have KO := l04Ok_any w.heap.size 29 G xs b o hW T _ P0 A1
  cases hok : okP xs b o
  · rw [hok] at KO
    have hg := grC_1 (k := k) (t := t) hok
    have hv := vNG_no (show grC xs b o k t ≠ 0 from by rw [hg]; decide)
    rw [hg] at hv
    go_enter Try.func27, Try.ntmps27
    go_wp2_with fail
    refine KO.mono ?_
    rintro e w1 ⟨rfl, hb1⟩
    go_wp2_with fail
    go_ret2
    exact ⟨by rw [hv]; rfl, bthen B0.out hb1⟩
  · rw [hok] at KO
    have KM := l04Movement_b k
    have KT := l04Tick_b t
    cases hm : inB 0 7 k
    · rw [hm] at KM
      have hg := grC_2 (t := t) hok (show (inB 0 7 k && inB 0 1000000000 t) = false from by rw [hm]; rfl)
      have hv := vNG_no (show grC xs b o k t ≠ 0 from by rw [hg]; decide)
      rw [hg] at hv
      go_enter Try.func27, Try.ntmps27
      go_wp2_with fail
      refine KO.mono ?_
      rintro e w1 ⟨rfl, hb1⟩
      go_wp2_with fail
      refine (KM _).mono ?_
      rintro e w2 ⟨rfl, n2, rfl⟩
      go_wp2_with fail
      go_ret2
      exact ⟨by rw [hv]; rfl, bdrew (bthen B0.out hb1) _⟩
    · rw [hm] at KM
      cases ht : inB 0 1000000000 t
      · rw [ht] at KT
        have hg := grC_2 hok (show (inB 0 7 k && inB 0 1000000000 t) = false from by rw [ht]; simp)
        have hv := vNG_no (show grC xs b o k t ≠ 0 from by rw [hg]; decide)
        rw [hg] at hv
        go_enter Try.func27, Try.ntmps27
        go_wp2_with fail
        refine KO.mono ?_
        rintro e w1 ⟨rfl, hb1⟩
        go_wp2_with fail
        refine (KM _).mono ?_
        rintro e w2 ⟨rfl, n2, rfl⟩
        go_wp2_with fail
        refine (KT _).mono ?_
        rintro e w3 ⟨rfl, n3, rfl⟩
        go_wp2_with fail
        go_ret2
        exact ⟨by rw [hv]; rfl, bdrew (bthen B0.out hb1) _⟩
      · rw [ht] at KT
        have htr : 0 ≤ t ∧ t ≤ 1000000000 := by simpa [inB] using ht
        obtain ⟨mm, hkm, hm8⟩ : ∃ mm : Nat, k = mm ∧ mm < 8 := by
          have : 0 ≤ k ∧ k ≤ 7 := by simpa [inB] using hm
          exact ⟨k.toNat, by omega, by omega⟩
        subst hkm
        have hboth : (inB 0 7 (mm : Int) && inB 0 1000000000 t) = true := by rw [hm, ht]; rfl
        have hbd := GT_bnd hok mm
        have KG := fun wr hP hA => l04Greens_gt w.heap.size 29 G xs b o hW T hok mm hm8 wr hP hA
        go_enter Try.func27, Try.ntmps27
        go_wp2_with fail
        refine KO.mono ?_
        rintro e w1 ⟨rfl, hb1⟩
        have P1 := P0.step hb1
        have A2 := A1.step hb1
        have B1 := Lib.hid (bthen B0.out hb1)
        clear P0 A1 B0 hb1 KO A0
        go_wp2_with fail
        refine (KM _).mono ?_
        rintro e w2 ⟨rfl, n2, rfl⟩
        go_wp2_with fail
        refine (KT _).mono ?_
        rintro e w3 ⟨rfl, n3, rfl⟩
        have P2 : At (w1.drewN (n2 + n3)) w.heap.size (plC (.slice (some ⟨G, 0, none⟩) xs.length xs.length) b o) 29 := P1.drewN _
        have A3 : At (w1.drewN (n2 + n3)) G (slC xs) T := A2.drewN _
        have B2 := Lib.hid (bdrew B1.out (n2 + n3))
        have KG1 := KG _ P2 A3
        clear P1 A2 B1 KM KT KG
        go_wp2_with fail
        refine KG1.mono ?_
        rintro e w4 ⟨v, rfl, hO, hb4⟩
        have P4 := P2.step hb4
        have A4 := A3.step hb4
        have B4 := Lib.hid (bthen B2.out hb4)
        clear P2 A3 B2 hb4 KG1
        by_cases hpos : 0 < GT xs mm
        · have hg := grC_0 hok hboth hpos
          have hv := vNG_yes hg
          obtain ⟨hd1, hd2, hd3⟩ := d_ok (k := t) (t := t) hok hpos
          generalize dNG xs b o mm t = d at hv hd1 hd2 hd3
          obtain ⟨-, -, -, hcy, ho⟩ := okP_parts hok
          have KP := l04Place_any w.heap.size 29 G xs b o hW T hok t ⟨htr.1, by omega⟩ w4 P4 A4
          obtain ⟨N, hN⟩ : ∃ N : Nat, cyc xs b = N := ⟨(cyc xs b).toNat, by omega⟩
          rw [hN] at hO KP hd2 hd3 hcy ho
          rw [Int.toNat_natCast] at hO
          have hN0 : N ≠ 0 := by omega
          obtain ⟨gv, capv, cur, rfl, -, hAv, hcur⟩ := hO.at hN0
          have hz : (GT xs mm == 0) = false := by simp; omega
          have hn0 : (0 : Int) < (N : Int) := by omega
          have hnz : ¬ (N : Int) = 0 := by omega
          have hc0 : (t - o) % (N : Int) = (t - o + ((0 : Nat) : Int)) % (N : Int) := by simp
          rw [hc0] at KP
          have HD := Lib.hid (And.intro hd2 hd3)
          clear hO hd2 hd3 hc0 hg hbd hboth hm ht
          go_wp2_with fail
          refine KP.mono ?_
          rintro e w5 ⟨rfl, hb5⟩
          have V5 := hAv.step hb5
          have B5 := Lib.hid (bthen B4.out hb5)
          clear P4 A4 B4 hAv hb5 KP
          go_wp2_with fail
          go_loopw [2, 11] (fun c a wr => ∃ j : Nat, j ≤ d ∧ c = .int .i64 (t + (j : Int)) ∧ a = .int .i64 ((t - o + (j : Int)) % (N : Int)) ∧ At wr gv cur 4 ∧ Hid (Below w.heap.size w wr)) (fun c _ _ => (t + d + 1 - intOf c).toNat)
          case atStart => exact ⟨0, by omega, by simp, by simp, V5, B5⟩
          case round =>
            clear V5 B5
            obtain ⟨j, hj, rfl, rfl, V1, B1⟩ := hrel
            have h1 := Int.emod_nonneg (t - o + (j : Int)) (show (N : Int) ≠ 0 by omega)
            have h2 := Int.emod_lt_of_pos (t - o + (j : Int)) hn0
            have hpn := place_next (c := t - o) hn0 j
            have h5 := Int.emod_nonneg (t - o + ((j + 1 : Nat) : Int)) (show (N : Int) ≠ 0 by omega)
            have h6 := Int.emod_lt_of_pos (t - o + ((j + 1 : Nat) : Int)) hn0
            have hgj : grp b xs mm (N : Int) (t - o) j = gre b xs mm ((t - o + (j : Int)) % (N : Int)).toNat := rfl
            obtain ⟨q, hq⟩ : ∃ q : Nat, (t - o + (j : Int)) % (N : Int) = q := ⟨((t - o + (j : Int)) % (N : Int)).toNat, by omega⟩
            rw [hq] at h2 hpn hgj
            rw [Int.toNat_natCast] at hgj
            have hqN : q < N := by omega
            have cc : wr.cell? ⟨gv, q, none⟩ = some (.bool (gre b xs mm q)) := by
              have e : bn (gL b xs mm N) q = gre b xs mm q := by
                unfold gL bn
                rw [List.getD_eq_getElem?_getD, List.getElem?_map, List.getElem?_range hqN]; rfl
              rw [← e]
              exact V1.cell (hcur q hqN)
            by_cases hlt : j < d
            · rw [← hgj, HD.out.1 j hlt] at cc
              have s2 : IntKind.i64.wrap (t + (j : Int) + 1) = t + (j : Int) + 1 := IntWalk.i64_in _ (by omega)
              have s3 : IntKind.i64.wrap ((q : Int) + 1) = (q : Int) + 1 := IntWalk.i64_in _ (by omega)
              have HP := Lib.hid hpn
              have hq1 : 0 ≤ (q : Int) + 1 := by omega
              generalize hr : (t - o + ((j + 1 : Nat) : Int)) % (N : Int) = r at hpn h5 h6 HP
              have s4 : IntKind.i64.wrap (((q : Int) + 1).tmod (N : Int)) = r := by rw [hpn]; exact IntWalk.i64_in _ (by omega)
              have HR := Lib.hid hr
              rw [hq]
              clear hgj hr hpn h1
              go_wp2
              exact ⟨⟨j + 1, by omega, by rw [show t + ((j + 1 : Nat) : Int) = t + (j : Int) + 1 from by omega], by rw [HR.out, ← HP.out]; first | rfl | (rw [Int.tmod_eq_emod_of_nonneg hq1]), V1, B1⟩, by simp [intOf]; omega⟩
            · obtain rfl : j = d := by omega
              rw [← hgj, HD.out.2] at cc
              rw [hq]
              go_wp2
              go_ret2
              exact ⟨by rw [hv]; rfl, B1.out⟩
        · have hg := grC_6 hok hboth hpos
          have hv := vNG_no (show grC xs b o mm t ≠ 0 from by rw [hg]; decide)
          rw [hg] at hv
          have hz : (GT xs mm == 0) = true := by simp; omega
          go_wp2_with fail
          go_ret2
          exact ⟨by rw [hv]; rfl, B4.out⟩

end Go.Proofs.Ytkhnhbmnmciiaab
