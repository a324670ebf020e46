/-
  FnStill's numbers: a road that stands at one share: its flows, its steps, the sums of what flows.
  No Go text in it but what it imports. Conditions: those of each theorem.
-/
import Derived.Test.YtiaflomabgnmaaaStlN
import Derived.Test.YtiaflomabgnmaaaStepRds
namespace Go.Proofs.Ytiaflomabgnmaaa
open Go Go.RowKit
set_option maxRecDepth 100000

theorem min_up {x y A : Nat} (h : rv 23 x ≤ A) : rv 23 (min x y) ≤ A := Nat.le_trans (rv_le (Nat.min_le_left _ _)) h

theorem min_dn {x y A E : Nat} (hx : A ≤ rv 23 x + E) (hy : A ≤ rv 23 y + E) : A ≤ rv 23 (min x y) + E := by
  rcases Nat.le_total x y with c | c
  · rw [Nat.min_eq_left c]; exact hx
  · rw [Nat.min_eq_right c]; exact hy

/-- every cell near a share -/
def NearC (cs : List Nat) (lo E : Nat) : Prop := ∀ i, i < 16 → rv 23 (nth cs i) ≤ rv 23 lo + E ∧ rv 23 lo ≤ rv 23 (nth cs i) + E

/-- every flow near a flow -/
def NearX (fs : List Nat) (F G : Nat) : Prop := ∀ i, i < 17 → rv 23 (nth fs i) ≤ rv 23 F + G ∧ rv 23 F ≤ rv 23 (nth fs i) + G

theorem flux_still {cs : List Nat} {p b l F lo E : Nat} (ok : OkR cs p b l) (Q : RdQ p b) (hF : F ≤ mostW p b) (L : LoOk p b F lo) (h : NearC cs lo E) : NearX (fluxL p b cs F 1065353216) F (16 * gG + E) := by
  have hm := mostW_le ok.pace ok.back
  have hFm := rv_le (p := 23) hF
  have sends : ∀ k, k < 16 → rv 23 (sendsW p b (nth cs k)) ≤ rv 23 F + (16 * gG + E) ∧ rv 23 F ≤ rv 23 (sendsW p b (nth cs k)) + (16 * gG + E) := fun k hk => by
    obtain ⟨h1, h2⟩ := h k hk
    obtain ⟨a1, a2⟩ := sends_still (E := E) ok.pace.2 L (ok.car k) h1 h2
    unfold sendsW
    exact ⟨min_up (by omega), min_dn (by omega) (by omega)⟩
  have takes : ∀ k, k < 16 → rv 23 F ≤ rv 23 (takesW p b (nth cs k)) + (16 * gG + E) := fun k hk => by
    obtain ⟨h1, h2⟩ := h k hk
    have a1 := takes_still (E := E) ok.pace ok.back Q hF L (ok.car k) h1
    unfold takesW
    exact min_dn (by omega) (by omega)
  intro i hi
  by_cases c0 : i = 0
  · subst c0
    rw [fluxL_0]
    exact ⟨min_up (by omega), min_dn (by omega) (takes 0 (by omega))⟩
  · obtain ⟨k, rfl⟩ : ∃ k, i = k + 1 := ⟨i - 1, by omega⟩
    rcases Nat.lt_or_ge k 15 with c | c
    · rw [fluxL_mid p b cs F _ c]
      unfold flowW
      exact ⟨min_up (sends k (by omega)).1, min_dn (sends k (by omega)).2 (takes (k + 1) (by omega))⟩
    · obtain rfl : k = 15 := by omega
      rw [fluxL_16]
      have h1 := rv_share (Nat.le_trans hF hm)
      exact ⟨min_up (sends 15 (by omega)).1, min_dn (sends 15 (by omega)).2 (by rw [uV_one]; omega)⟩

theorem rv_two : rv 23 1073741824 = 2 * uV := by decide +kernel

theorem add2_near {c f : Nat} (hc : c ≤ 1065353216) (hf : f ≤ 1065353216) : addB c f ≤ 1073741824 ∧ rv 23 (addB c f) ≤ rv 23 c + rv 23 f + 2 * gG ∧ rv 23 c + rv 23 f ≤ rv 23 (addB c f) + 2 * gG ∧ c ≤ addB c f := by
  have hC := rv_share hc
  have hFF := rv_share hf
  have a := (add_eq (x := c) (y := f) (by omega) (by omega)).2
  have hup : c ≤ addB c f := le_add (by omega) (by omega) (by omega) (Nat.le_add_right _ _)
  have hle : RU 23 (rv 23 c + rv 23 f) 0 ≤ 1073741824 := RU_le (by rw [Nat.pow_zero, Nat.mul_one, rv_two]; omega)
  clear hC hFF
  generalize rv 23 c + rv 23 f = m at *
  have a2 : addB c f = RU 23 m 0 := a.trans (Nat.min_eq_left (Nat.le_trans hle (by decide)))
  have r1 := rnd2 hle
  rw [← a2] at r1 hle
  rw [gC_gG] at r1
  clear a a2
  refine ⟨hle, ?_, ?_, hup⟩
  all_goals
    generalize rv 23 (addB c f) = v at *
    generalize gG = g at *
    omega

theorem sub2_near {a f : Nat} (ha : a ≤ 1073741824) (hf : f ≤ a) : subB a f ≤ 1073741824 ∧ rv 23 (subB a f) + rv 23 f ≤ rv 23 a + 2 * gG ∧ rv 23 a ≤ rv 23 (subB a f) + rv 23 f + 2 * gG := by
  have e := (sub_eq (x := a) (y := f) (by omega) hf).2
  have hs := sub_le (x := a) (by omega) hf
  have hq := rv_le (p := 23) hf
  obtain ⟨m, hm⟩ : ∃ m, m = rv 23 a - rv 23 f := ⟨_, rfl⟩
  rw [← hm] at e
  have e3 : subB a f = RU 23 m 0 := by
    rcases Nat.le_total (RU 23 m 0) 2139095040 with c | c
    · exact e.trans (Nat.min_eq_left c)
    · rw [Nat.min_eq_right c] at e; omega
  have hle : RU 23 m 0 ≤ 1073741824 := by rw [← e3]; exact Nat.le_trans hs ha
  have r1 := rnd2 hle
  rw [← e3] at r1
  rw [gC_gG] at r1
  refine ⟨Nat.le_trans hs ha, ?_, ?_⟩
  all_goals
    clear e e3 hs hle
    generalize rv 23 (subB a f) = v at *
    generalize rv 23 a = x at *
    generalize rv 23 f = y at *
    generalize gG = g at *
    omega

theorem cell_still {c f f2 lo F E G : Nat} (hc : c ≤ 1065353216) (hf : f ≤ 1065353216) (hf2 : f2 ≤ c) (hlo : lo ≤ 1065353216) (c1 : rv 23 c ≤ rv 23 lo + E) (c2 : rv 23 lo ≤ rv 23 c + E)
    (f1 : rv 23 f ≤ rv 23 F + G) (f3 : rv 23 F ≤ rv 23 f + G) (g1 : rv 23 f2 ≤ rv 23 F + G) (g3 : rv 23 F ≤ rv 23 f2 + G) :
    rv 23 (holdB (difB (addB c f) f2)) ≤ rv 23 lo + (E + 2 * G + 4 * gG) ∧ rv 23 lo ≤ rv 23 (holdB (difB (addB c f) f2)) + (E + 2 * G + 4 * gG) := by
  have hL := rv_share hlo
  obtain ⟨a1, a2, a3, a4⟩ := add2_near hc hf
  obtain ⟨s1, s2, s3⟩ := sub2_near a1 (Nat.le_trans hf2 a4)
  have ed : difB (addB c f) f2 = subB (addB c f) f2 := by unfold difB; rw [if_pos (Nat.le_trans hf2 a4)]
  rw [ed, hold_amt (Nat.lt_of_le_of_lt s1 (by decide))]
  clear ed a1 a4 s1 hc hf hf2 hlo
  generalize subB (addB c f) f2 = w at *
  generalize addB c f = a at *
  refine ⟨min_up ?_, min_dn ?_ (by rw [uV_one]; exact Nat.le_trans hL (Nat.le_add_right _ _))⟩
  all_goals
    clear hL
    generalize rv 23 w = v1 at *
    generalize rv 23 a = v2 at *
    generalize rv 23 c = v3 at *
    generalize rv 23 f = v4 at *
    generalize rv 23 f2 = v5 at *
    generalize rv 23 lo = v6 at *
    generalize rv 23 F = v7 at *
    generalize gG = g at *
    omega

/-- how far the cells lie from the share behind k steps -/
def eE : Nat → Nat
  | 0 => 0
  | k + 1 => eE k + 2 * (16 * gG + eE k) + 4 * gG

theorem sends_car {cs : List Nat} {p b l : Nat} (ok : OkR cs p b l) (o m : Nat) {k : Nat} (hk : k < 16) : nth (fluxL p b cs o m) (k + 1) ≤ nth cs k := by
  have hc := ok.car k
  have hs : sendsW p b (nth cs k) ≤ nth cs k := by
    have := mul_share (x := p) (y := nth cs k) ok.pace.2 (by omega)
    unfold sendsW
    omega
  rcases Nat.lt_or_ge k 15 with c | c
  · rw [fluxL_mid p b cs o m c]; unfold flowW; omega
  · obtain rfl : k = 15 := by omega
    rw [fluxL_16]; omega

theorem next_still {cs : List Nat} {p b l F lo E : Nat} (ok : OkR cs p b l) (Q : RdQ p b) (hF : F ≤ mostW p b) (L : LoOk p b F lo) (h : NearC cs lo E) : NearC (nextL p b cs F 1065353216) lo (E + 2 * (16 * gG + E) + 4 * gG) := by
  intro k hk
  have hX := flux_still ok Q hF L h
  have e : nth (nextL p b cs F 1065353216) k = holdB (difB (addB (nth cs k) (nth (fluxL p b cs F 1065353216) k)) (nth (fluxL p b cs F 1065353216) (k + 1))) := by
    unfold nextL
    rw [stepL_nth _ _ _ hk]
    unfold stepC
    rw [intoL_nth _ hk, outL_nth _ hk]
  rw [e]
  exact cell_still (ok.car k) (nth_le (fluxL_le ok _ _) k) (sends_car ok _ _ hk) L.one (h k hk).1 (h k hk).2 (hX k (by omega)).1 (hX k (by omega)).2 (hX (k + 1) (by omega)).1 (hX (k + 1) (by omega)).2

theorem it_still {cs : List Nat} {p b l F lo : Nat} (ok : OkR cs p b l) (Q : RdQ p b) (hF : F ≤ mostW p b) (L : LoOk p b F lo) (h : NearC cs lo 0) : ∀ k, NearC (itL p b cs (fun _ => F) (fun _ => 1065353216) k) lo (eE k)
  | 0 => h
  | k + 1 => next_still (itL_ok ok _ _ k) Q hF L (it_still ok Q hF L h k)

theorem flow_still {cs : List Nat} {p b l F lo : Nat} (ok : OkR cs p b l) (Q : RdQ p b) (hF : F ≤ mostW p b) (L : LoOk p b F lo) (h : NearC cs lo 0) (k : Nat) : NearX (itF p b cs (fun _ => F) (fun _ => 1065353216) k) F (16 * gG + eE k) :=
  flux_still (itL_ok ok _ _ k) Q hF L (it_still ok Q hF L h k)

theorem rv_4 : rv 23 1082130432 = 4 * uV := by decide +kernel

theorem add4 {x y : Nat} (hx : x < 2139095040) (hy : y < 2139095040) (h : rv 23 x + rv 23 y ≤ 4 * uV) : rv 23 (addB x y) ≤ rv 23 x + rv 23 y + 4 * gG ∧ rv 23 x + rv 23 y ≤ rv 23 (addB x y) + 4 * gG ∧ addB x y ≤ 1082130432 := by
  have e := (add_eq hx hy).2
  have hle : RU 23 (rv 23 x + rv 23 y) 0 ≤ 1082130432 := RU_le (by rw [Nat.pow_zero, Nat.mul_one, rv_4]; exact h)
  generalize rv 23 x + rv 23 y = m at *
  have e2 : addB x y = RU 23 m 0 := e.trans (Nat.min_eq_left (Nat.le_trans hle (by decide)))
  have u := RU_upK 129 (m := m) (D := 0) (Nat.le_trans hle (by decide)) (by decide)
  have d := RU_dnK 129 (m := m) (D := 0) (Nat.le_trans hle (by decide)) (by decide)
  simp only [Nat.pow_zero, Nat.mul_one] at u d
  rw [gG_129, ← e2] at u d
  exact ⟨u, d, by rw [e2]; exact hle⟩

theorem eE_1 : eE 1 = 36 * gG := by show 0 + 2 * (16 * gG + 0) + 4 * gG = _; omega

theorem eE_2 : eE 2 = 144 * gG := by show eE 1 + 2 * (16 * gG + eE 1) + 4 * gG = _; rw [eE_1]; omega

theorem eE_3 : eE 3 = 468 * gG := by show eE 2 + 2 * (16 * gG + eE 2) + 4 * gG = _; rw [eE_2]; omega

theorem gG_small : 300 * gG ≤ uV := by decide +kernel

theorem sum3_core {f0 f1 f2 F : Nat} (h0 : f0 ≤ 1065353216) (h1 : f1 ≤ 1065353216) (h2 : f2 ≤ 1065353216)
    (a0 : rv 23 f0 ≤ rv 23 F + 16 * gG ∧ rv 23 F ≤ rv 23 f0 + 16 * gG) (a1 : rv 23 f1 ≤ rv 23 F + 52 * gG ∧ rv 23 F ≤ rv 23 f1 + 52 * gG) (a2 : rv 23 f2 ≤ rv 23 F + 160 * gG ∧ rv 23 F ≤ rv 23 f2 + 160 * gG) :
    rv 23 (addB (addB (addB 0 f0) f1) f2) ≤ 3 * rv 23 F + 240 * gG ∧ 3 * rv 23 F ≤ rv 23 (addB (addB (addB 0 f0) f1) f2) + 240 * gG ∧ addB (addB (addB 0 f0) f1) f2 ≤ 1082130432 := by
  have r0 := rv_share h0
  have r1 := rv_share h1
  have r2 := rv_share h2
  have hg := gG_small
  obtain ⟨u1, d1, l1⟩ := add4 (x := 0) (y := f0) (by omega) (by omega) (by rw [rv_zero]; omega)
  rw [rv_zero] at u1 d1
  obtain ⟨u2, d2, l2⟩ := add4 (x := addB 0 f0) (y := f1) (by omega) (by omega) (by omega)
  obtain ⟨u3, d3, l3⟩ := add4 (x := addB (addB 0 f0) f1) (y := f2) (by omega) (by omega) (by omega)
  refine ⟨?_, ?_, l3⟩
  all_goals
    clear l1 l2 l3 h0 h1 h2 r0 r1 r2 hg
    generalize rv 23 (addB (addB (addB 0 f0) f1) f2) = v3 at *
    generalize rv 23 (addB (addB 0 f0) f1) = v2 at *
    generalize rv 23 (addB 0 f0) = v1 at *
    generalize gG = g at *
    omega

theorem sum_still {cs : List Nat} {p b l F lo : Nat} (ok : OkR cs p b l) (Q : RdQ p b) (hF : F ≤ mostW p b) (L : LoOk p b F lo) (h : NearC cs lo 0) {i : Nat} (hi : i < 17) :
    rv 23 (itS p b cs (fun _ => F) (fun _ => 1065353216) i 3) ≤ 3 * rv 23 F + 240 * gG ∧ 3 * rv 23 F ≤ rv 23 (itS p b cs (fun _ => F) (fun _ => 1065353216) i 3) + 240 * gG ∧ itS p b cs (fun _ => F) (fun _ => 1065353216) i 3 ≤ 1082130432 := by
  have a0 := flow_still ok Q hF L h 0 i hi
  have a1 := flow_still ok Q hF L h 1 i hi
  have a2 := flow_still ok Q hF L h 2 i hi
  rw [eE_1] at a1
  rw [eE_2] at a2
  have b1 : rv 23 (nth (itF p b cs (fun _ => F) (fun _ => 1065353216) 1) i) ≤ rv 23 F + 52 * gG ∧ rv 23 F ≤ rv 23 (nth (itF p b cs (fun _ => F) (fun _ => 1065353216) 1) i) + 52 * gG := ⟨Nat.le_trans a1.1 (by omega), Nat.le_trans a1.2 (by omega)⟩
  have b2 : rv 23 (nth (itF p b cs (fun _ => F) (fun _ => 1065353216) 2) i) ≤ rv 23 F + 160 * gG ∧ rv 23 F ≤ rv 23 (nth (itF p b cs (fun _ => F) (fun _ => 1065353216) 2) i) + 160 * gG := ⟨Nat.le_trans a2.1 (by omega), Nat.le_trans a2.2 (by omega)⟩
  exact sum3_core (nth_le (itF_le ok _ _ 0) i) (nth_le (itF_le ok _ _ 1) i) (nth_le (itF_le ok _ _ 2) i) a0 b1 b2

theorem rv_3 : rv 23 1077936128 = 3 * uV := by decide +kernel

/-- three times a flow -/
theorem three_near {F : Nat} (hF : F ≤ 1065353216) : floatBits .mul .f32 1077936128 F = some (mulB 1077936128 F) ∧ rv 23 (mulB 1077936128 F) ≤ 3 * rv 23 F + 4 * gG ∧ 3 * rv 23 F ≤ rv 23 (mulB 1077936128 F) + 4 * gG ∧ mulB 1077936128 F ≤ 1082130432 := by
  obtain ⟨e0, e⟩ := mul_eq (x := 1077936128) (y := F) (by omega) (by omega)
  have hf := rv_share hF
  rw [rv_3] at e
  have hle : RU 23 (3 * uV * rv 23 F) 149 ≤ 1082130432 := RU_le (by
    rw [rv_4]
    show 3 * uV * rv 23 F ≤ 4 * uV * uV
    exact Nat.mul_le_mul (by omega) hf)
  have e2 : mulB 1077936128 F = RU 23 (3 * uV * rv 23 F) 149 := e.trans (Nat.min_eq_left (Nat.le_trans hle (by decide)))
  have u := RU_upK 129 (m := 3 * uV * rv 23 F) (D := 149) (Nat.le_trans hle (by decide)) (by decide)
  have d := RU_dnK 129 (m := 3 * uV * rv 23 F) (D := 149) (Nat.le_trans hle (by decide)) (by decide)
  rw [gG_129, ← e2] at u d
  have em : 3 * uV * rv 23 F = 3 * rv 23 F * uV := by rw [Nat.mul_assoc, Nat.mul_comm uV, ← Nat.mul_assoc]
  rw [em] at u d
  refine ⟨e0, ?_, ?_, by rw [e2]; exact hle⟩
  · refine Nat.le_of_mul_le_mul_right (c := uV) ?_ uV_pos
    rw [Nat.add_mul]; exact u
  · refine Nat.le_of_mul_le_mul_right (c := uV) ?_ uV_pos
    rw [Nat.add_mul]; exact d

end Go.Proofs.Ytiaflomabgnmaaa
