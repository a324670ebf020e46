/-
  CONTRACTS: how wide a wave is: the program.
-/
import Derived.Test.YtkaghfoaicbngabMeetsI
namespace Go.Proofs.Ytkaghfoaicbngab
open Go Go.ChangeShapes Go.WideShapes Go.ChangeAt Go.RowKit
set_option maxRecDepth 100000

set_option maxHeartbeats 1000000 in
theorem WaveWidth_any (G : Nat) (gs : Nat → Nat) (ps : Ps) (T : TypeId) (H : Nat) (ts : List Int) (T4 : TypeId) (mv : Int) (hW : ∀ i, i < ps.length → SlW (pS ps i)) (hn : ps.length ≤ 1048576) (ht : ts.length ≤ 1048576) (w : World) (P0 : PB w G gs ps T) (H0 : At w H (il ts) T4) :
    Calls Try.prog 20 #[.slice (some ⟨G, 0, none⟩) ps.length ps.length, .slice (some ⟨H, 0, none⟩) ts.length ts.length, .int .i64 mv] w fun e w' => e = .returned (.tuple #[.int .i64 (vWid ps ts mv).1, .int .i64 (vWid ps ts mv).2]) ∧ Below w.heap.size w w' := by
  have KR := refusalOfWave_any G gs ps T H ts T4 mv hW hn ht w P0 H0
  by_cases hc : rowC ps ts mv = 0
  · obtain ⟨⟨m, rfl, hm⟩, hok, hn6, htn, hts⟩ := rowC_parts hc
    have hv := Lib.hid (vWid_yes hc)
    rw [hc] at KR
    have KM := Lib.hid (fun (t0 : Nat) (h0 : t0 ≤ 240) w' (hb : Below _ _ w') => meetsGreen_any G gs ps T H ts T4 m hm hW hok hn6 htn hts t0 h0 w' (P0.step hb) (H0.step hb))
    have h0l : 0 < ps.length := by omega
    obtain ⟨hl0, hb0, ht0, hc0, ho0⟩ := okP_parts (hok 0 h0l)
    have KC := Lib.hid (fun w' (hb : Below _ _ w') => cycleOf_any (gs 0) (pS ps 0) (pB ps 0) (pO ps 0) (hW 0 h0l) 96 hl0.2 hb0 ht0 w' ((P0.sl 0 h0l).step hb))
    have HX := Lib.hid P0.row
    obtain ⟨n, hnn⟩ : ∃ n, n = ps.length := ⟨_, rfl⟩
    have hpl0 := pvC_at (l := pvs gs ps n n) (by rw [pvs_len, hnn]; exact h0l) (pvs_at (by rw [hnn]; exact h0l) (by rw [hnn]; exact h0l)) (rfl : 0 = 0 * 3)
    have hle0 : 0 + 3 ≤ (pvC (pvs gs ps n n)).size := by rw [pvC_size, pvs_len]; omega
    rw [← hnn] at KR KM HX h0l ⊢
    have kd0 : (0 : Int) < (n : Int) := by omega
    have hcy : (wid ps ts m) = cnt (mtG ps ts m) (cyc (pS ps 0) (pB ps 0)).toNat := rfl
    obtain ⟨cn, hcn⟩ : ∃ cn : Nat, cyc (pS ps 0) (pB ps 0) = cn := ⟨(cyc (pS ps 0) (pB ps 0)).toNat, by omega⟩
    rw [hcn] at KC hcy hc0
    rw [Int.toNat_natCast] at hcy
    have HV := Lib.hid (show vWid ps ts m = ((cnt (mtG ps ts m) cn : Int), 0) from by rw [hv.out, hcy])
    have hcn2 : cn ≤ 240 := by omega
    clear hv hcn ho0 hc0 hcy hnn hl0 hb0 ht0 hok hn6 htn hts P0 H0 hW
    go_enter Try.func20, Try.ntmps20
    go_wp2_with fail
    refine KR.mono ?_
    rintro e w1 ⟨rfl, hb1⟩
    have B1 := Lib.hid hb1
    have R1 := HX.out.step hb1
    clear KR hb1
    go_wp2_with ((with_reducible refine is_load 49 _ rfl ?_); refine wpList_load_part rfl 49 _ rfl _ 0 rfl (pvC (pvs gs ps n n)) _ (by with_reducible assumption) 3 hle0 _ Try.underlying49 rfl (by kernel_rfl) (plC (.slice (some ⟨gs 0, 0, none⟩) (pS ps 0).length (pS ps 0).length) (pB ps 0) (pO ps 0)) hpl0 ?_)
    refine (KC.out w1 B1.out).mono ?_
    rintro e w2 ⟨rfl, hb2⟩
    have B2 := Lib.hid (bthen B1.out hb2)
    clear hb2 R1 KC B1 hle0 hpl0
    go_wp2_with fail
    go_loopw [22, 9] (fun iv cv wr => ∃ k : Nat, k ≤ cn ∧ iv = .int .i64 (k : Int) ∧ cv = .int .i64 (cnt (mtG ps ts m) k : Int) ∧ Hid (Below w.heap.size w wr)) (fun iv _ _ => cn - (intOf iv).toNat)
    case atStart => exact ⟨0, by omega, rfl, rfl, B2⟩
    case round =>
      clear B2
      obtain ⟨k, hk, rfl, rfl, B3⟩ := hrel
      by_cases hlt : k < cn
      · have kd : (k : Int) < (cn : Int) := by omega
        have s2 : IntKind.i64.wrap ((k : Int) + 1) = (k : Int) + 1 := IntWalk.i64_in _ (by omega)
        have hcl := cnt_le (mtG ps ts m) k
        have s3 : IntKind.i64.wrap ((cnt (mtG ps ts m) k : Int) + 1) = (cnt (mtG ps ts m) k : Int) + 1 := IntWalk.i64_in _ (by omega)
        have hnx : cnt (mtG ps ts m) (k + 1) = cnt (mtG ps ts m) k + (if mtG ps ts m k then 1 else 0) := rfl
        have KMk := KM.out k (by omega) _ B3.out
        generalize mtG ps ts m k = b at *
        generalize cnt (mtG ps ts m) k = c at *
        obtain ⟨c', hcc⟩ : ∃ c', cnt (mtG ps ts m) (k + 1) = c' := ⟨_, rfl⟩
        have hnc := Lib.hid hcc
        rw [hcc] at hnx
        clear hcc
        go_wp2_with fail
        refine KMk.mono ?_
        rintro e w3 ⟨rfl, hb3⟩
        have B4 := Lib.hid (bthen B3.out hb3)
        clear KMk hb3 B3
        cases b
        · have hq : c' = c := by simpa using hnx
          clear hnx
          subst hq
          go_wp2_with fail
          exact ⟨⟨k + 1, by omega, by go_num, by rw [hnc.out], B4⟩, by simp [intOf]; omega⟩
        · have hq : c' = c + 1 := by simpa using hnx
          clear hnx
          subst hq
          go_wp2_with fail
          exact ⟨⟨k + 1, by omega, by go_num, by rw [hnc.out]; go_num, B4⟩, by simp [intOf]; omega⟩
      · obtain rfl : cn = k := by omega
        have kd : ¬ (cn : Int) < (cn : Int) := by omega
        go_wp2_with fail
        go_ret2
        exact ⟨by rw [HV.out]; rfl, B3.out⟩
  · have hv := Lib.hid (vWid_no hc)
    have e1 : (rowC ps ts mv != 0) = true := by simpa using hc
    have e2 : decide (rowC ps ts mv = 0) = false := decide_eq_false hc
    generalize rowC ps ts mv = c at *
    clear P0 H0 hW
    go_enter Try.func20, Try.ntmps20
    go_wp2_with fail
    refine KR.mono ?_
    rintro e w1 ⟨rfl, hb1⟩
    go_wp2_with fail
    go_ret2
    exact ⟨by rw [hv.out]; rfl, hb1⟩

end Go.Proofs.Ytkaghfoaicbngab
