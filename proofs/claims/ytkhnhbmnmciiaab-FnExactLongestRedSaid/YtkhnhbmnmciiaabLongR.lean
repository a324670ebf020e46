/-
  CONTRACTS: the longest red, as the program has it.
-/
import Derived.Test.YtkhnhbmnmciiaabRuns
namespace Go.Proofs.Ytkhnhbmnmciiaab
open Go Go.ChangeShapes Go.WideShapes Go.ChangeAt Go.RowKit
set_option maxRecDepth 100000

set_option maxHeartbeats 1000000 in
theorem LongestRed_any (G : Nat) (xs : Slots) (b o : Int) (hW : SlW xs) (T : TypeId) (k : Int) (_hk : I64 k) (w : World) (A0 : At w G (slC xs) T) :
    Calls Try.prog 30 #[.agg (plC (.slice (some ⟨G, 0, none⟩) xs.length xs.length) b o), .int .i64 k] w fun e w' => e = .returned (.tuple #[.int .i64 (vLR xs b o k).1, .int .i64 (vLR xs b o k).2]) ∧ Below w.heap.size w w' := by
  clear _hk
  have P0 := At.new w (plC (.slice (some ⟨G, 0, none⟩) xs.length xs.length) b o) 29
  have A1 := A0.alloc (.cells (plC (.slice (some ⟨G, 0, none⟩) xs.length xs.length) b o) 29)
  have B0 := Lib.hid (b0 w (.cells (plC (.slice (some ⟨G, 0, none⟩) xs.length xs.length) b o) 29))
  have KR := refusalOfGreen_any G xs b o hW T k 0 _ A1
  by_cases hg : grC xs b o k 0 = 0
  · obtain ⟨hok, m, rfl, hm8, -, hpos⟩ := grC_parts hg
    obtain ⟨hl, hb, htk, hcy, ho⟩ := okP_parts hok
    have hv := vLR_yes hg
    rw [hg] at KR
    have KC := fun wr hA => cycleOf_any G xs b o hW T hl.2 hb htk wr hA
    have KH := fun (j : Nat) (hj : j < 480) wr hA => hasGreen_any G xs b o hW T hok m hm8 (j : Int) ⟨by omega, by omega⟩ wr hA
    obtain ⟨N, hN⟩ : ∃ N : Nat, cyc xs b = N := ⟨(cyc xs b).toNat, by omega⟩
    have hp2 := GT_cnt hok m
    have hLR : LR xs b m = mx (fun j => gre b xs m ((0 + (j : Int)) % ((cyc xs b).toNat : Int)).toNat) (2 * (cyc xs b).toNat) := rfl
    rw [hN, Int.toNat_natCast] at hLR
    rw [hN, Int.toNat_natCast] at hp2
    obtain ⟨i0, hi0, hgi⟩ := cnt_pos (show 0 < cnt (gre b xs m) N from by omega)
    rw [mx_same (show 0 < N by omega) hi0 hgi 0 (-o)] at hLR
    have hq := fun j : Nat => show gre b xs m (((j : Int) - o) % (N : Int)).toNat = (fun j : Nat => gre b xs m ((-o + (j : Int)) % (N : Int)).toNat) j from by show _ = gre b xs m ((-o + (j : Int)) % (N : Int)).toNat; rw [show -o + (j : Int) = (j : Int) - o from by omega]
    rw [hN] at KC KH hcy ho
    generalize hff : (fun j : Nat => gre b xs m ((-o + (j : Int)) % (N : Int)).toNat) = f at hLR hq
    have HF := Lib.hid (And.intro hLR hv)
    have HQ := Lib.hid hq
    have hN240 : (N : Int) ≤ 240 := by omega
    have hmul : IntKind.i64.wrap (2 * (N : Int)) = ((2 * N : Nat) : Int) := by rw [IntWalk.i64_in _ (by omega)]; omega
    clear hff hLR hv hq hp2 hgi hi0 hpos hg hl hb htk hcy hN A0
    generalize xs.length = n at P0 A1 B0 KR KC KH ⊢
    go_enter Try.func30, Try.ntmps30
    go_wp2_with (((with_reducible refine is_load 29 _ rfl ?_); refine wpList_load_at rfl 29 _ rfl _ rfl ((plC (.slice (some ⟨G, 0, none⟩) n n) b o)) _ (by with_reducible assumption) 3 (plC_size _ _ _) _ Try.underlying29 rfl (by kernel_rfl) ?_))
    refine KR.mono ?_
    rintro e w1 ⟨rfl, hb1⟩
    have P1 := P0.step hb1
    have A2 := A1.step hb1
    have B1 := Lib.hid (bthen B0.out hb1)
    have KC1 := KC w1 A2
    clear P0 A1 B0 hb1 KR KC
    go_wp2_with (((with_reducible refine is_load 29 _ rfl ?_); refine wpList_load_at rfl 29 _ rfl _ rfl ((plC (.slice (some ⟨G, 0, none⟩) n n) b o)) _ (by with_reducible assumption) 3 (plC_size _ _ _) _ Try.underlying29 rfl (by kernel_rfl) ?_))
    refine KC1.mono ?_
    rintro e w2 ⟨rfl, hb2⟩
    have P2 := P1.step hb2
    have A3 := A2.step hb2
    have B2 := Lib.hid (bthen B1.out hb2)
    clear P1 A2 B1 hb2 KC1
    go_wp2_with fail
    go_loopw [7, 8, 19] (fun lo rd i wr => ∃ (j a r : Nat), j ≤ 2 * N ∧ i = .int .i64 (j : Int) ∧ lo = .int .i64 (a : Int) ∧ rd = .int .i64 (r : Int) ∧ (a ≤ 480 ∧ r ≤ 480) ∧ Hid (a = mx f j ∧ r = rr f j) ∧ At wr w.heap.size (plC (.slice (some ⟨G, 0, none⟩) n n) b o) 29 ∧ At wr G (slC xs) T ∧ Hid (Below w.heap.size w wr)) (fun _ _ i _ => 2 * N - (intOf i).toNat)
    case atStart => exact ⟨0, 0, 0, by omega, rfl, rfl, rfl, by omega, Lib.hid ⟨rfl, rfl⟩, P2, A3, B2⟩
    case round =>
      clear P2 A3 B2
      obtain ⟨j, a, r, hj, rfl, rfl, rfl, hab, har, P1, A1, B1⟩ := hrel
      by_cases hlt : j < 2 * N
      · have s2 : IntKind.i64.wrap ((j : Int) + 1) = (j : Int) + 1 := IntWalk.i64_in _ (by omega)
        have s3 : IntKind.i64.wrap ((r : Int) + 1) = (r : Int) + 1 := IntWalk.i64_in _ (by omega)
        have jd : (j : Int) < ((2 * N : Nat) : Int) := by omega
        have KH1 := KH j (by omega) wr A1
        rw [HQ.out j] at KH1
        have hmx := mx_succ f j
        cases hfj : f j
        · rw [hfj] at KH1
          have hrn := rr_n hfj
          rw [hrn, ← har.out.1, ← har.out.2, max_int] at hmx
          rw [← har.out.2] at hrn
          have HM := Lib.hid (And.intro hmx hrn)
          have hrj : r ≤ j := by rw [har.out.2]; exact rr_le f j
          have haj : a ≤ j := by rw [har.out.1]; exact mx_le f j
          clear hmx hrn hfj
          have hm1 : ∀ ts t W, (Builtin.max_ ts t #[.int .i64 (a : Int), .int .i64 ((r : Int) + 1)]).run Try.prog W = .ok (.int .i64 (((if a < r + 1 then r + 1 else a : Nat)) : Int)) W := fun ts t W => by
            rw [run_maxI]; congr 3; split <;> split <;> omega
          go_wp2_with (((with_reducible refine is_load 29 _ rfl ?_); refine wpList_load_at rfl 29 _ rfl _ rfl ((plC (.slice (some ⟨G, 0, none⟩) n n) b o)) _ (by with_reducible assumption) 3 (plC_size _ _ _) _ Try.underlying29 rfl (by kernel_rfl) ?_))
          refine KH1.mono ?_
          rintro e w3 ⟨rfl, hb3⟩
          have P3 := P1.step hb3
          have A4 := A1.step hb3
          have B3 := Lib.hid (bthen B1.out hb3)
          clear P1 A1 B1 hb3 KH1
          go_wp2_with fail
          exact ⟨⟨j + 1, (if a < r + 1 then r + 1 else a), r + 1, by omega, by go_num, rfl, by go_num, by split <;> omega, Lib.hid ⟨HM.out.1.symm, HM.out.2.symm⟩, P3, A4, B3⟩, by simp [intOf]; omega⟩
        · rw [hfj] at KH1
          have hrn := rr_y hfj
          rw [hrn, ← har.out.1] at hmx
          have HM := Lib.hid (And.intro hmx hrn)
          have haj : a ≤ j := by rw [har.out.1]; exact mx_le f j
          clear hmx hrn hfj
          have hm1 : ∀ ts t W, (Builtin.max_ ts t #[.int .i64 (a : Int), .int .i64 0]).run Try.prog W = .ok (.int .i64 (a : Int)) W := fun ts t W => by
            rw [run_maxI, if_neg (by omega)]
          go_wp2_with (((with_reducible refine is_load 29 _ rfl ?_); refine wpList_load_at rfl 29 _ rfl _ rfl ((plC (.slice (some ⟨G, 0, none⟩) n n) b o)) _ (by with_reducible assumption) 3 (plC_size _ _ _) _ Try.underlying29 rfl (by kernel_rfl) ?_))
          refine KH1.mono ?_
          rintro e w3 ⟨rfl, hb3⟩
          have P3 := P1.step hb3
          have A4 := A1.step hb3
          have B3 := Lib.hid (bthen B1.out hb3)
          clear P1 A1 B1 hb3 KH1
          go_wp2_with fail
          exact ⟨⟨j + 1, a, 0, by omega, by go_num, rfl, rfl, by omega, Lib.hid ⟨by rw [HM.out.1]; omega, HM.out.2.symm⟩, P3, A4, B3⟩, by simp [intOf]; omega⟩
      · obtain rfl : j = 2 * N := by omega
        have hfin : (vLR xs b o m) = ((a : Int), 0) := by rw [HF.out.2, HF.out.1, har.out.1]
        go_wp2
        go_ret2
        exact ⟨by rw [hfin]; rfl, B1.out⟩
  · have hv := vLR_no hg
    generalize grC xs b o k 0 = cc at KR hg hv
    have hne : (cc != 0) = true := by simpa using hg
    go_enter Try.func30, Try.ntmps30
    go_wp2_with (((with_reducible refine is_load 29 _ rfl ?_); refine wpList_load_at rfl 29 _ rfl _ rfl ((plC (.slice (some ⟨G, 0, none⟩) xs.length xs.length) b o)) _ (by with_reducible assumption) 3 (plC_size _ _ _) _ Try.underlying29 rfl (by kernel_rfl) ?_))
    refine KR.mono ?_
    rintro e w1 ⟨rfl, hb1⟩
    go_wp2_with fail
    go_ret2
    exact ⟨by rw [hv]; rfl, bthen B0.out hb1⟩

end Go.Proofs.Ytkhnhbmnmciiaab
