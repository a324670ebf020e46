/-
  CONTRACTS: the longest red, as the model has it.
-/
import Derived.Test.YtkhnhbmnmciiaabLongR
namespace Go.Proofs.Ytkhnhbmnmciiaab
open Go Go.ChangeShapes Go.WideShapes Go.ChangeAt Go.RowKit
set_option maxRecDepth 100000

theorem l00Max_b (a r : Nat) (w : World) : Calls Try.prog 84 #[.int .i64 (a : Int), .int .i64 (r : Int)] w (Rd (.int .i64 ((max a r : Nat) : Int)) w) := by
  by_cases h : r < a
  · rw [show max a r = a from by omega]
    have hd : (a : Int) > (r : Int) := by omega
    go_enter Try.func84, Try.ntmps84
    go_wp2
    go_ret
    exact Rd.mk0
  · rw [show max a r = r from by omega]
    have hd : ¬ (a : Int) > (r : Int) := by omega
    go_enter Try.func84, Try.ntmps84
    go_wp2
    go_ret
    exact Rd.mk0
set_option maxHeartbeats 1000000 in
theorem sLongestRed_any (G : Nat) (xs : Slots) (b o : Int) (hW : SlW xs) (T : TypeId) (k : Int) (_hk : I64 k) (w : World) (A0 : At w G (slC xs) T) :
    Calls Try.prog 29 #[.agg (plC (.slice (some ⟨G, 0, none⟩) xs.length xs.length) b o), .int .i64 k] w fun e w' => e = .returned (.tuple #[.int .i64 (vLR xs b o k).1, .int .i64 (vLR xs b o k).2]) ∧ Below w.heap.size w w' := by
  clear _hk
  have P0 := At.new w (plC (.slice (some ⟨G, 0, none⟩) xs.length xs.length) b o) 29
  have A1 := A0.alloc (.cells (plC (.slice (some ⟨G, 0, none⟩) xs.length xs.length) b o) 29)
  have B0 := Lib.hid (b0 w (.cells (plC (.slice (some ⟨G, 0, none⟩) xs.length xs.length) b o) 29))
  have KR := l04Moves_any w.heap.size 29 G xs b o hW T k _ P0 A1
  by_cases hg : grC xs b o k 0 = 0
  · obtain ⟨hok, m, rfl, hm8, -, hpos⟩ := grC_parts hg
    obtain ⟨-, -, -, hcy, ho⟩ := okP_parts hok
    have hv := vLR_yes hg
    rw [hg] at KR
    have KG := fun wr hP hA => l04Greens_gt w.heap.size 29 G xs b o hW T hok m hm8 wr hP hA
    obtain ⟨N, hN⟩ : ∃ N : Nat, cyc xs b = N := ⟨(cyc xs b).toNat, by omega⟩
    have hLR : LR xs b m = mx (fun j => gre b xs m ((0 + (j : Int)) % ((cyc xs b).toNat : Int)).toNat) (2 * (cyc xs b).toNat) := rfl
    rw [hN, Int.toNat_natCast] at hLR
    have hq := fun j : Nat => show (fun j : Nat => gre b xs m ((0 + (j : Int)) % (N : Int)).toNat) j = gre b xs m (j % N) from by
      show gre b xs m ((0 + (j : Int)) % (N : Int)).toNat = _
      rw [Int.zero_add, ← Int.natCast_emod, Int.toNat_natCast]
    generalize hff : (fun j : Nat => gre b xs m ((0 + (j : Int)) % (N : Int)).toNat) = f at hLR hq
    have HF := Lib.hid (And.intro hLR hv)
    have HQ := Lib.hid hq
    rw [hN] at KG hcy ho
    rw [Int.toNat_natCast] at KG
    have hN240 : (N : Int) ≤ 240 := by omega
    have hN0 : N ≠ 0 := by omega
    have hmul : IntKind.i64.wrap (2 * (N : Int)) = ((2 * N : Nat) : Int) := by rw [IntWalk.i64_in _ (by omega)]; omega
    clear hff hLR hv hq hpos hg hcy hN A0
    go_enter Try.func29, Try.ntmps29
    go_wp2_with fail
    refine KR.mono ?_
    rintro e w1 ⟨rfl, hb1⟩
    have KG1 := KG w1 (P0.step hb1) (A1.step hb1)
    have B1 := Lib.hid (bthen B0.out hb1)
    clear P0 A1 B0 hb1 KR KG
    go_wp2_with fail
    refine KG1.mono ?_
    rintro e w2 ⟨v, rfl, hO, hb2⟩
    have B2 := Lib.hid (bthen B1.out hb2)
    obtain ⟨gv, capv, cur, rfl, -, hAv, hcur⟩ := hO.at hN0
    clear B1 hb2 KG1 hO
    go_wp2_with fail
    go_loopw [9, 10, 11] (fun lo rd i wr => ∃ (j a r : Nat), j ≤ 2 * N ∧ i = .int .i64 (j : Int) ∧ lo = .int .i64 (a : Int) ∧ rd = .int .i64 (r : Int) ∧ (a ≤ 480 ∧ r ≤ 480) ∧ Hid (a = mx f j ∧ r = rr f j) ∧ At wr gv cur 4 ∧ Hid (Below w.heap.size w wr)) (fun _ _ i _ => 2 * N - (intOf i).toNat)
    case atStart => exact ⟨0, 0, 0, by omega, rfl, rfl, rfl, by omega, Lib.hid ⟨rfl, rfl⟩, hAv, B2⟩
    case round =>
      clear hAv B2
      obtain ⟨j, a, r, hj, rfl, rfl, rfl, hab, har, V1, B1⟩ := hrel
      have hl2 : ((2 * N : Nat) : Int) = 2 * (N : Int) := by omega
      by_cases hlt : j < 2 * N
      · have s2 : IntKind.i64.wrap ((j : Int) + 1) = (j : Int) + 1 := IntWalk.i64_in _ (by omega)
        have s3 : IntKind.i64.wrap ((r : Int) + 1) = (r : Int) + 1 := IntWalk.i64_in _ (by omega)
        have jd : (j : Int) < 2 * (N : Int) := by omega
        have hqN : j % N < N := Nat.mod_lt _ (by omega)
        obtain ⟨q, hqq⟩ : ∃ q, j % N = q := ⟨_, rfl⟩
        have hmod : (j : Int) % (N : Int) = (q : Int) := by rw [← Int.natCast_emod, hqq]
        have htm : (j : Int).tmod (N : Int) = (q : Int) := by rw [Int.tmod_eq_emod_of_nonneg (by omega), hmod]
        have hnz : ¬ (N : Int) = 0 := by omega
        rw [hqq] at hqN
        have hqd : (q : Int) < (N : Int) := by omega
        have s4 : IntKind.i64.wrap (q : Int) = (q : Int) := IntWalk.i64_in _ (by omega)
        have hfq := HQ.out j
        rw [hqq] at hfq
        have cc : wr.cell? ⟨gv, q, none⟩ = some (.bool (f j)) := by
          have e : bn (gL b xs m N) q = gre b xs m q := by
            unfold gL bn
            rw [List.getD_eq_getElem?_getD, List.getElem?_map, List.getElem?_range hqN]; rfl
          rw [hfq, ← e]
          exact V1.cell (hcur q hqN)
        have hmx := mx_succ f j
        have hrj : r ≤ j := by rw [har.out.2]; exact rr_le f j
        have haj : a ≤ j := by rw [har.out.1]; exact mx_le f j
        cases hfj : f j
        · rw [hfj] at cc
          have hrn := rr_n hfj
          rw [hrn, ← har.out.1, ← har.out.2] at hmx
          rw [← har.out.2] at hrn
          have HM := Lib.hid (And.intro hmx hrn)
          have KM := l00Max_b a (r + 1) wr
          rw [show (((r + 1 : Nat)) : Int) = (r : Int) + 1 from by omega] at KM
          have hmb : max a (r + 1) ≤ 480 := by omega
          clear hmx hrn hfj hfq
          go_wp2_with fail
          refine KM.mono ?_
          rintro e w3 ⟨rfl, n3, rfl⟩
          go_wp2_with fail
          exact ⟨⟨j + 1, max a (r + 1), r + 1, by omega, by go_num, rfl, by go_num, by omega, Lib.hid ⟨HM.out.1.symm, HM.out.2.symm⟩, V1.drewN _, Lib.hid (bdrew B1.out _)⟩, by simp [intOf]; omega⟩
        · rw [hfj] at cc
          have hrn := rr_y hfj
          rw [hrn, ← har.out.1] at hmx
          have HM := Lib.hid (And.intro hmx hrn)
          have KM := l00Max_b a 0 wr
          rw [show max a 0 = a from by omega] at KM
          clear hmx hrn hfj hfq
          go_wp2_with fail
          refine KM.mono ?_
          rintro e w3 ⟨rfl, n3, rfl⟩
          go_wp2_with fail
          exact ⟨⟨j + 1, a, 0, by omega, by go_num, rfl, rfl, by omega, Lib.hid ⟨by rw [HM.out.1]; omega, HM.out.2.symm⟩, V1.drewN _, Lib.hid (bdrew B1.out _)⟩, by simp [intOf]; omega⟩
      · obtain rfl : j = 2 * N := by omega
        have hfin : (vLR xs b o m) = ((a : Int), 0) := by rw [HF.out.2, HF.out.1, har.out.1]
        go_wp2
        go_ret2
        exact ⟨by rw [hfin]; rfl, B1.out⟩
  · have hv := vLR_no hg
    generalize grC xs b o k 0 = cc at KR hg hv
    have hne : (cc != 0) = true := by simpa using hg
    go_enter Try.func29, Try.ntmps29
    go_wp2_with fail
    refine KR.mono ?_
    rintro e w1 ⟨rfl, hb1⟩
    go_wp2_with fail
    go_ret2
    exact ⟨by rw [hv]; rfl, bthen B0.out hb1⟩

end Go.Proofs.Ytkhnhbmnmciiaab
