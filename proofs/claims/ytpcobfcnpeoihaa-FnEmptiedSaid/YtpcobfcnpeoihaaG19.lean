/-
  SEVERAL TEXTS IN ONE.
-/
import Derived.Test.YtpcobfcnpeoihaaG11
import Derived.Test.YtpcobfcnpeoihaaEmpD
import Derived.Test.YtpcobfcnpeoihaaG18
import Derived.Test.YtpcobfcnpeoihaaStepsToS
import Derived.Test.YtpcobfcnpeoihaaFillRoad
import Derived.Test.YtpcobfcnpeoihaaG13

/-
  CONTRACTS: TakesAt.
-/
namespace Go.Proofs.Ytpcobfcnpeoihaa
open Go Go.RowKit

def vTakesAt (cs : List Nat) (p b l : Nat) (k : Int) : Nat × Int := if okB cs p b l then (if 0 ≤ k ∧ k ≤ 15 then (takesW p b (nth cs k.toNat), 0) else (0, 2)) else (0, 1)

theorem vTakesAt_yes {cs : List Nat} {p b l k : Nat} (h : okB cs p b l = true) (hk : k < 16) : vTakesAt cs p b l k = (takesW p b (nth cs k), 0) := by unfold vTakesAt; rw [if_pos h, if_pos (by omega), Int.toNat_natCast]

theorem vTakesAt_no {cs : List Nat} {p b l : Nat} {k : Int} (h : okB cs p b l = false) : vTakesAt cs p b l k = (0, 1) := by unfold vTakesAt; rw [h]; rfl

theorem vTakesAt_bad {cs : List Nat} {p b l : Nat} {k : Int} (h : okB cs p b l = true) (hk : ¬ (0 ≤ k ∧ k ≤ 15)) : vTakesAt cs p b l k = (0, 2) := by unfold vTakesAt; rw [if_pos h, if_neg hk]

theorem TakesAt_any (cs : List Nat) (p b l : Nat) (hl : cs.length = 16) (hc : ∀ x ∈ cs, x < 4294967296) (hp : p < 4294967296) (hb : b < 4294967296) (hla : l < 4294967296) (k : Int) (_hk : -9223372036854775808 ≤ k ∧ k ≤ 9223372036854775807) (w : World) :
    Calls Try.prog 13 #[.agg (rd cs p b l), .int .i64 k] w fun e w' => e = .returned (.tuple #[.float .f32 (vTakesAt cs p b l k).1, .int .i64 (vTakesAt cs p b l k).2]) ∧ Below w.heap.size w w' := by
  have A0 := At.new w (rd cs p b l) 28
  clear _hk
  cases h : okB cs p b l
  · rw [vTakesAt_no h]
    go_enter Try.func13, Try.ntmps13
    go_wp2_with (((with_reducible refine is_load 28 _ rfl ?_); refine wpList_load_at rfl 28 _ rfl _ rfl (rd cs p b l) _ (by assumption) 19 (rd_size hl p b l) _ Try.underlying28 rfl (by kernel_rfl) ?_))
    refine (ValidRoad_any cs p b l hl hc hp hb hla _).mono ?_
    rintro e w1 ⟨rfl, hb1⟩
    go_wp2_with fail
    go_ret2
    exact ⟨rfl, bthen (b0 _ _) hb1⟩
  · have ok := OkR.of hl h
    by_cases c : 0 ≤ k ∧ k ≤ 15
    · obtain ⟨n, rfl⟩ := Int.eq_ofNat_of_zero_le c.1
      have hn : n < 16 := by omega
      rw [vTakesAt_yes h hn]
      clear c
      go_enter Try.func13, Try.ntmps13
      go_wp2_with (((with_reducible refine is_load 28 _ rfl ?_); refine wpList_load_at rfl 28 _ rfl _ rfl (rd cs p b l) _ (by assumption) 19 (rd_size hl p b l) _ Try.underlying28 rfl (by kernel_rfl) ?_))
      refine (ValidRoad_any cs p b l hl hc hp hb hla _).mono ?_
      rintro e w1 ⟨rfl, hb1⟩
      have A1 := A0.step hb1
      go_wp2_with fail
      refine (isCell_any n _).mono ?_
      rw [decide_eq_true (by omega : 0 ≤ (n : Int) ∧ (n : Int) < 16)]
      rintro e w2 ⟨rfl, n2, rfl⟩
      have A2 := A1.drewN n2
      go_wp2_with (((with_reducible refine is_load 28 _ rfl ?_); refine wpList_load_at rfl 28 _ rfl _ rfl (rd cs p b l) _ (by assumption) 19 (rd_size hl p b l) _ Try.underlying28 rfl (by kernel_rfl) ?_))
      refine (takesAt_any n (by omega) cs p b l ok _).mono ?_
      rintro e w2 ⟨rfl, hb2⟩
      go_wp2_with fail
      go_ret2
      exact ⟨rfl, bthen (bthen (b0 _ _) hb1) (Below.trans (Below.drewN0 _ _) hb2)⟩
    · rw [vTakesAt_bad h c]
      go_enter Try.func13, Try.ntmps13
      go_wp2_with (((with_reducible refine is_load 28 _ rfl ?_); refine wpList_load_at rfl 28 _ rfl _ rfl (rd cs p b l) _ (by assumption) 19 (rd_size hl p b l) _ Try.underlying28 rfl (by kernel_rfl) ?_))
      refine (ValidRoad_any cs p b l hl hc hp hb hla _).mono ?_
      rintro e w1 ⟨rfl, hb1⟩
      go_wp2_with fail
      refine (isCell_any k _).mono ?_
      rw [decide_eq_false (by omega : ¬ (0 ≤ k ∧ k < 16))]
      rintro e w2 ⟨rfl, n2, rfl⟩
      go_wp2_with fail
      go_ret2
      exact ⟨rfl, bdrew (bthen (b0 _ _) hb1) _⟩

theorem vTakesAt_good {cs : List Nat} (hl : cs.length = 16) (p b l : Nat) (k : Int) : (vTakesAt cs p b l k).1 < 4294967296 ∧ nanB (vTakesAt cs p b l k).1 = false := by
  cases h : okB cs p b l
  · rw [vTakesAt_no h]; exact ⟨by decide, by decide⟩
  · have ok := OkR.of hl h
    by_cases c : 0 ≤ k ∧ k ≤ 15
    · obtain ⟨n, rfl⟩ := Int.eq_ofNat_of_zero_le c.1
      rw [vTakesAt_yes h (by omega)]
      exact nan_le (takesW_le ok.pace ok.back) (by omega)
    · rw [vTakesAt_bad h c]; exact ⟨by decide, by decide⟩
end Go.Proofs.Ytpcobfcnpeoihaa

/-
  FnEmptied: the cases of a count of steps; small facts.
  No Go text in it. Conditions: those of each theorem.
-/
namespace Go.Proofs.Ytpcobfcnpeoihaa
open Go Go.RowKit
set_option maxRecDepth 100000

theorem until_cases (wt : Nat → Bool) (f : Nat) : (∃ m : Nat, m ≤ f ∧ untilF wt 0 f = ((m : Int), 0) ∧ wt m = true ∧ ∀ j, j < m → wt j = false) ∨ untilF wt 0 f = (0, 7) := by
  by_cases hx : ∃ m, m ≤ f ∧ wt m = true
  · refine .inl ?_
    obtain ⟨m0, h0⟩ := hx
    have hm : ∃ m, (m ≤ f ∧ wt m = true) ∧ ∀ j, j < m → wt j = false := by
      induction m0 using Nat.strongRecOn with
      | ind m0 ih =>
        by_cases c : ∃ j, j < m0 ∧ wt j = true
        · obtain ⟨j, hj, hw⟩ := c
          exact ih j hj ⟨by omega, hw⟩
        · exact ⟨m0, h0, fun j hj => by
            cases hw : wt j
            · rfl
            · exact absurd ⟨j, hj, hw⟩ c⟩
    obtain ⟨m, ⟨h1, h2⟩, h3⟩ := hm
    have e := untilF_yes (wt := wt) (f := f) (k := 0) (m := m) (fun j _ hj => h3 j (by omega)) (by rw [Nat.zero_add]; exact h2) h1
    rw [Nat.zero_add] at e
    exact ⟨m, h1, e, h2, h3⟩
  · refine .inr (untilF_no fun j _ hj => ?_)
    cases hw : wt j
    · rfl
    · exact absurd ⟨j, by omega, hw⟩ hx

theorem steps_ok {o m : Nat} {n : Int} (ho : o ≤ 1065353216) (hm : m ≤ 1065353216) (hn : 0 ≤ n ∧ n ≤ 400) : stepsC true o m n = 0 := by
  have hg : givenC true o m = 0 := by
    unfold givenC amtB
    rw [if_pos rfl, if_pos (by rw [decide_eq_true (show o < 2139095040 by omega), decide_eq_true (show m < 2139095040 by omega)]; rfl)]
  unfold stepsC
  rw [if_pos hg, if_pos hn]

theorem vSteps_yes {cs : List Nat} {p b l o m n : Nat} (hok : okB cs p b l = true) (ho : o ≤ 1065353216) (hm : m ≤ 1065353216) (hn : n ≤ 400) : vStepRoads cs p b l o m (n : Int) = (itL p b cs (fun _ => o) (fun _ => m) n, p, b, l, itS p b cs (fun _ => o) (fun _ => m) 0 n, itS p b cs (fun _ => o) (fun _ => m) 16 n, 0) := by
  unfold vStepRoads
  rw [hok, steps_ok ho hm (by omega), if_pos rfl, Int.toNat_natCast]

theorem vEmpty_yes {cs : List Nat} {p b l : Nat} (hok : okB cs p b l = true) : vToEmpty cs p b l 400 = untilF (fun k => emptyW l (itL p b cs (fun _ => 0) (fun _ => 1065353216) k)) 0 400 := by
  unfold vToEmpty
  rw [hok, steps_ok (by omega) (by omega) (by omega), if_pos rfl]
  rfl

theorem vFull_yes {cs : List Nat} {p b l o : Nat} (hok : okB cs p b l = true) (ho : o ≤ 1065353216) : vToFull cs p b l o 300 = untilF (fun k => fullW p b (itL p b cs (fun _ => o) (fun _ => 0) k)) 0 300 := by
  unfold vToFull
  rw [hok, steps_ok ho (by omega) (by omega), if_pos rfl]
  rfl

theorem full_all {p b : Nat} {cs : List Nat} (h : fullW p b cs = true) {k : Nat} (hk : k < 16) : takesW p b (nth cs k) ≤ 981467136 := by
  by_cases c : takesW p b (nth cs k) ≤ 981467136
  · exact c
  · have := fullN_no (m := 16) hk c
    unfold fullW at h
    rw [this] at h; cases h

theorem vDelay_yes {cs : List Nat} {p b l o : Nat} (hok : okB cs p b l = true) (ho : o ≤ 1065353216) : vDelayOf cs p b l o 1065353216 5 = (mulB (dAll p b cs (fun _ => o) (fun _ => 1065353216) 5) l, 0) := by
  unfold vDelayOf
  rw [hok, steps_ok ho (by omega) (by omega), if_pos rfl]
  rfl

theorem low_eq {x c : Nat} (h : LowW x c) : (FloatKind.f32.format.order x x == some .eq) = true := by
  obtain ⟨s, m, rfl, hm, -⟩ := h
  have k := order_fin S32 s s (r := m) (q := m) (by rw [s_inf]; omega) (by rw [s_inf]; omega)
  show (S32.order (S32.word s m) (S32.word s m) == some .eq) = true
  rw [k, Int.compare_eq_eq.2 rfl]; rfl

end Go.Proofs.Ytpcobfcnpeoihaa
