/-
  FnStill's numbers: the jam's share; waves between two shares.
  No Go text in it but what it imports. Conditions: those of each theorem.
-/
import Derived.Test.YtiaflomabgnmaaaStlM
namespace Go.Proofs.Ytiaflomabgnmaaa
open Go Go.RowKit
set_option maxRecDepth 100000

/-- the jam's share -/
def hiW (b F : Nat) : Nat := holdB (difB 1065353216 (divB F b))

theorem hi_ok {p b F : Nat} (hb : 1015021568 ≤ b ∧ b ≤ 1065353216) (Q : RdQ p b) (hF : F ≤ mostW p b) : ∃ d, d ≤ 1065353216 ∧ hiW b F = subB 1065353216 d ∧ hiW b F ≤ 1065353216 ∧ rv 23 d * rv 23 b ≤ rv 23 F * uV + 2 * gG * uV ∧ rv 23 F * uV ≤ rv 23 d * rv 23 b + 2 * gG * uV := by
  have hFb := Nat.le_trans hF Q.t3
  have hr := rv_le (p := 23) hFb
  have h1 : divB F b ≤ 1065353216 := div_le (by omega) (by omega) (by omega) (by
    rw [uV_one, Nat.mul_comm]
    exact Nat.mul_le_mul_left _ hr)
  obtain ⟨d1, d2⟩ := div_bal (F := F) (y := b) ⟨by omega, hb.2⟩ (by omega) (by omega)
  have e1 : difB 1065353216 (divB F b) = subB 1065353216 (divB F b) := by unfold difB; rw [if_pos h1]
  obtain ⟨-, -, s3⟩ := sub_near1 h1
  have e2 : hiW b F = subB 1065353216 (divB F b) := by
    unfold hiW
    rw [e1, hold_amt (Nat.lt_of_le_of_lt s3 (by decide)), Nat.min_eq_left s3]
  exact ⟨divB F b, h1, e2, by rw [e2]; exact s3, d1, d2⟩

theorem rv_back {b : Nat} (h : 1015021568 ≤ b) : uV ≤ 64 * rv 23 b := by
  have h1 := rv_le (p := 23) h
  have h2 : uV = 64 * rv 23 1015021568 := by decide +kernel
  omega

theorem ten_k : 389 * gG ≤ rv 23 953267991 := by decide +kernel

/-- the still share is at most the jam's, nearly -/
theorem lo_hi {p b F lo hi : Nat} (hb : 1015021568 ≤ b ∧ b ≤ 1065353216) (Q : RdQ p b) (hF : F ≤ mostW p b) (L : LoOk p b F lo) (hh : hi = hiW b F) : floatBits .add .f32 hi 953267991 = some (addB hi 953267991) ∧ lo ≤ addB hi 953267991 ∧ addB hi 953267991 ≤ 2139095040 := by
  obtain ⟨d, h1, h2, h3, h4, -⟩ := hi_ok hb Q hF
  rw [← hh] at h2 h3
  obtain ⟨-, s2, -⟩ := sub_near1 h1
  rw [← h2] at s2
  have t4 := Q.t4
  have hFm := Nat.mul_le_mul_right uV (rv_le (p := 23) hF)
  have hB := rv_back hb.1
  have k1 : (rv 23 d + rv 23 (bestW p b)) * rv 23 b ≤ (uV + 384 * gG) * rv 23 b := by
    rw [Nat.add_mul, Nat.add_mul]
    have k2 : 6 * gG * uV ≤ 384 * gG * rv 23 b := by
      have := Nat.mul_le_mul_left (6 * gG) hB
      rw [← Nat.mul_assoc, show 6 * gG * 64 = 384 * gG by omega] at this
      exact this
    have e6 : 6 * gG * uV = 2 * gG * uV + 4 * gG * uV := by rw [← Nat.add_mul]; congr 1 <;> omega
    rw [e6] at k2
    generalize rv 23 d * rv 23 b = v1 at *
    generalize rv 23 (bestW p b) * rv 23 b = v2 at *
    generalize 384 * gG * rv 23 b = v3 at *
    generalize uV * rv 23 b = v4 at *
    generalize 2 * gG * uV = v5 at *
    generalize 4 * gG * uV = v6 at *
    generalize rv 23 F * uV = v7 at *
    generalize rv 23 (mostW p b) * uV = v8 at *
    omega
  have hB0 : 0 < rv 23 b := by have := uV_pos; omega
  have k3 := Nat.le_of_mul_le_mul_right k1 hB0
  have hb4 := L.best
  have ht := ten_k
  have hlo := L.one
  have hfin : rv 23 lo ≤ rv 23 hi + rv 23 953267991 := by
    clear k1 hFm t4 h4 hB hB0
    generalize rv 23 953267991 = c at *
    generalize rv 23 (bestW p b) = v1 at *
    generalize rv 23 d = v2 at *
    generalize gG = g at *
    generalize uV = V at *
    omega
  exact ⟨(add_eq (by omega) (by omega)).1, le_add (by omega) (by omega) (by omega) hfin, add_amt (by omega) (by omega)⟩

/-- both flows at the still share are nearly the flow -/
theorem share_lo {p b F lo : Nat} (hp : 1015021568 ≤ p ∧ p ≤ 1065353216) (hb : 1015021568 ≤ b ∧ b ≤ 1065353216) (Q : RdQ p b) (hF : F ≤ mostW p b) (L : LoOk p b F lo) :
    rv 23 (shareW p b lo) ≤ rv 23 F + 16 * gG ∧ rv 23 F ≤ rv 23 (shareW p b lo) + 16 * gG := by
  obtain ⟨a1, a2⟩ := sends_still (E := 0) hp.2 L L.one (Nat.le_refl _) (Nat.le_refl _)
  have a3 := takes_still (E := 0) hp hb Q hF L L.one (Nat.le_refl _)
  unfold shareW
  exact ⟨min_up (by omega), min_dn (by omega) (by omega)⟩

theorem share_hi {p b F lo hi : Nat} (hp : 1015021568 ≤ p ∧ p ≤ 1065353216) (hb : 1015021568 ≤ b ∧ b ≤ 1065353216) (Q : RdQ p b) (hF : F ≤ mostW p b) (L : LoOk p b F lo) (hh : hi = hiW b F) (hlh : lo ≤ hi) :
    rv 23 (shareW p b hi) ≤ rv 23 F + 16 * gG ∧ rv 23 F ≤ rv 23 (shareW p b hi) + 16 * gG := by
  obtain ⟨d, h1, h2, h3, h4, h5⟩ := hi_ok hb Q hF
  rw [← hh] at h2 h3
  obtain ⟨s1, s2, -⟩ := sub_near1 h1
  rw [← h2] at s1 s2
  obtain ⟨r1, r2, r3⟩ := sub_near1 h3
  obtain ⟨m1, m2⟩ := mul_near1 hb.2 r3
  obtain ⟨n1, n2⟩ := mul_near1 hp.2 h3
  have hB := rv_share hb.2
  have hP := rv_share hp.2
  have hl := rv_le (p := 23) hlh
  have dn := L.dn
  -- b (1 - hi) against b d
  have x1 : rv 23 b * rv 23 (subB 1065353216 hi) ≤ rv 23 d * rv 23 b + 2 * gG * uV := by
    calc rv 23 b * rv 23 (subB 1065353216 hi) ≤ rv 23 b * (rv 23 d + 2 * gG) := Nat.mul_le_mul_left _ (by omega)
      _ = rv 23 d * rv 23 b + 2 * gG * rv 23 b := by rw [Nat.mul_add, Nat.mul_comm (rv 23 b), Nat.mul_comm (rv 23 b)]
      _ ≤ _ := Nat.add_le_add_left (Nat.mul_le_mul_left _ hB) _
  have x2 : rv 23 d * rv 23 b ≤ rv 23 b * rv 23 (subB 1065353216 hi) + 2 * gG * uV := by
    calc rv 23 d * rv 23 b ≤ (rv 23 (subB 1065353216 hi) + 2 * gG) * rv 23 b := Nat.mul_le_mul_right _ (by omega)
      _ = rv 23 b * rv 23 (subB 1065353216 hi) + 2 * gG * rv 23 b := by rw [Nat.add_mul, Nat.mul_comm (rv 23 b)]
      _ ≤ _ := Nat.add_le_add_left (Nat.mul_le_mul_left _ hB) _
  have x3 : rv 23 lo * rv 23 p ≤ rv 23 p * rv 23 hi := by rw [Nat.mul_comm (rv 23 p)]; exact Nat.mul_le_mul_right _ hl
  have up : rv 23 (mulB b (subB 1065353216 hi)) ≤ rv 23 F + 16 * gG := by
    refine Nat.le_of_mul_le_mul_right (c := uV) ?_ uV_pos
    rw [Nat.add_mul]
    have e : 16 * gG * uV = 2 * gG * uV + 2 * gG * uV + gG * uV + 11 * gG * uV := by rw [← Nat.add_mul, ← Nat.add_mul, ← Nat.add_mul]; congr 1 <;> omega
    omega
  have dn1 : rv 23 F ≤ rv 23 (mulB b (subB 1065353216 hi)) + 16 * gG := by
    refine Nat.le_of_mul_le_mul_right (c := uV) ?_ uV_pos
    rw [Nat.add_mul]
    have e : 16 * gG * uV = 2 * gG * uV + 2 * gG * uV + gG * uV + 11 * gG * uV := by rw [← Nat.add_mul, ← Nat.add_mul, ← Nat.add_mul]; congr 1 <;> omega
    omega
  have dn2 : rv 23 F ≤ rv 23 (mulB p hi) + 16 * gG := by
    refine Nat.le_of_mul_le_mul_right (c := uV) ?_ uV_pos
    rw [Nat.add_mul]
    have e : 16 * gG * uV = 6 * gG * uV + gG * uV + 9 * gG * uV := by rw [← Nat.add_mul, ← Nat.add_mul]; congr 1 <;> omega
    omega
  unfold shareW
  refine ⟨?_, min_dn dn2 dn1⟩
  rw [Nat.min_comm]
  exact min_up up

theorem rv_32 : rv 23 914358272 = 32 * gG := by decide +kernel

theorem wave_tab : 32 * gG * 2 ^ 149 ≤ rv 23 981668463 * rv 23 1040187392 := by decide +kernel

theorem dif_small {x y A : Nat} (hx : x ≤ 1065353216) (hy : y ≤ 1065353216) (h1 : rv 23 x ≤ A + 16 * gG) (h2 : A ≤ rv 23 x + 16 * gG) (h3 : rv 23 y ≤ A + 16 * gG) (h4 : A ≤ rv 23 y + 16 * gG) : magB (difB x y) ≤ 914358272 := by
  have key : ∀ {u t : Nat}, u ≤ 1065353216 → t ≤ u → rv 23 u ≤ A + 16 * gG → A ≤ rv 23 t + 16 * gG → subB u t ≤ 914358272 := fun {u t} hu ht k1 k2 => by
    have e := (sub_eq (x := u) (y := t) (by omega) ht).2
    have : RU 23 (rv 23 u - rv 23 t) 0 ≤ 914358272 := RU_le (by rw [Nat.pow_zero, Nat.mul_one, rv_32]; omega)
    rw [e]
    exact Nat.le_trans (Nat.min_le_left _ _) this
  rw [mag_dif (by omega) (by omega)]
  by_cases c : y ≤ x
  · rw [if_pos c]; exact key hx c h1 h4
  · rw [if_neg c]; exact key hy (by omega) h3 h2

/-- between the two shares at which a flow stands, the wave stands too, nearly -/
theorem wave_still {cs : List Nat} {p b l F lo hi : Nat} (ok : OkR cs p b l) (hok : okB cs p b l = true) (Q : RdQ p b) (hF : F ≤ mostW p b) (L : LoOk p b F lo) (hh : hi = hiW b F) (hlh : lo ≤ hi) (hd : 1040187392 < subB hi lo) :
    ∃ s r, vWaveSpeed cs p b l lo hi = (S32.word s r, 0) ∧ r ≤ 981668463 := by
  obtain ⟨d, -, -, h3, -, -⟩ := hi_ok ok.back Q hF
  rw [← hh] at h3
  have hs := sub_le (x := hi) (y := lo) (by omega) hlh
  have hne : lo ≠ hi := fun e => by
    rw [e] at hd hs
    have e2 := (sub_eq (x := hi) (y := hi) (by omega) (Nat.le_refl _)).2
    rw [Nat.sub_self, RU_zero] at e2
    omega
  have hw : waveC (okB cs p b l) lo hi = 0 := by
    unfold waveC shrB
    rw [hok, decide_eq_true L.one, decide_eq_true h3]
    simp [hne]
  obtain ⟨l1, l2⟩ := share_lo ok.pace ok.back Q hF L
  obtain ⟨u1, u2⟩ := share_hi ok.pace ok.back Q hF L hh hlh
  have f1 := (share_facts ok L.one).2.2.2.2.2
  have f2 := (share_facts ok h3).2.2.2.2.2
  have hm := dif_small (x := shareW p b hi) (y := shareW p b lo) (Nat.le_trans f2 h3) (Nat.le_trans f1 L.one) u1 u2 l1 l2
  have ey : difB hi lo = subB hi lo := by unfold difB; rw [if_pos hlh]
  have em : magB (difB hi lo) = subB hi lo := by rw [ey]; unfold magB; exact Nat.mod_eq_of_lt (by omega)
  unfold vWaveSpeed
  rw [if_pos hw]
  refine ⟨_, _, rfl, ?_⟩
  rw [em]
  refine div_le (by omega) (by omega) (by omega) ?_
  have r1 := rv_le (p := 23) hm
  rw [rv_32] at r1
  have r2 := rv_le (p := 23) (Nat.le_of_lt hd)
  exact Nat.le_trans (Nat.mul_le_mul_right _ r1) (Nat.le_trans wave_tab (Nat.mul_le_mul_left _ r2))

end Go.Proofs.Ytiaflomabgnmaaa
