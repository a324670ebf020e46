/-
  HOW FAR A ROUNDING GOES: words up to 1; what is smoothed, and what joins, within a bound.
  No Go text in it. Conditions: those of each theorem.
-/
import Derived.Test.YtiaflomabgnmaaaArith
namespace Go.Proofs.Ytiaflomabgnmaaa
open Go Go.RowKit
set_option maxRecDepth 100000

/-- the greatest gap between neighbours up to 1 (in least places) -/
def gG : Nat := 2 ^ 126
theorem rv_gap {s : Nat} (h : s ≤ 1065353216) : rv 23 (s + 1) ≤ rv 23 s + gG := by
  have hp : ∀ e, e ≤ 127 → 2 ^ (e - 1) ≤ gG := fun e he => Nat.pow_le_pow_right (by decide) (by omega)
  have h23 : (2 : Nat) ^ 23 = 8388608 := by decide
  unfold rv
  rw [h23]
  by_cases c : s + 1 < 8388608
  · rw [if_pos c, if_pos (by omega)]
    have := hp 0 (by omega)
    have : (2 : Nat) ^ (0 - 1) = 1 := rfl
    omega
  · rw [if_neg c]
    by_cases d : s < 8388608
    · rw [if_pos d]
      obtain rfl : s = 8388607 := by omega
      have := hp 0 (by omega)
      have : (2 : Nat) ^ (0 - 1) = 1 := rfl
      show (8388608 + 0) * 2 ^ (1 - 1) ≤ _
      omega
    · rw [if_neg d]
      have he := hp (s / 8388608) (by omega)
      by_cases m : s % 8388608 + 1 < 8388608
      · rw [show (s + 1) % 8388608 = s % 8388608 + 1 from by omega, show (s + 1) / 8388608 = s / 8388608 from by omega]
        generalize 2 ^ (s / 8388608 - 1) = P at he ⊢
        rw [show 8388608 + (s % 8388608 + 1) = (8388608 + s % 8388608) + 1 from by omega, Nat.add_mul]
        omega
      · rw [show (s + 1) % 8388608 = 0 from by omega, show (s + 1) / 8388608 - 1 = (s / 8388608 - 1) + 1 from by omega, show s % 8388608 = 8388607 from by omega, Nat.pow_succ]
        generalize 2 ^ (s / 8388608 - 1) = P at he ⊢
        omega

theorem RU_up {m D : Nat} (h : RU 23 m D ≤ 1065353216) : rv 23 (RU 23 m D) * 2 ^ D ≤ m + gG * 2 ^ D := by
  generalize hr : RU 23 m D = r at h
  cases r with
  | zero => rw [rv_zero]; omega
  | succ s =>
    have h1 : rv 23 s * 2 ^ D < m := by
      rcases Nat.lt_or_ge (rv 23 s * 2 ^ D) m with c | c
      · exact c
      · have := RU_le c; omega
    have h2 := Nat.mul_le_mul_right (2 ^ D) (rv_gap (s := s) (by omega))
    rw [Nat.add_mul] at h2
    omega
theorem RU_dn {m D : Nat} (h : RU 23 m D ≤ 1065353216) : m ≤ rv 23 (RU 23 m D) * 2 ^ D + gG * 2 ^ D := by
  generalize hr : RU 23 m D = r at h
  have h1 : m < rv 23 (r + 1) * 2 ^ D := by
    rcases Nat.lt_or_ge m (rv 23 (r + 1) * 2 ^ D) with c | c
    · exact c
    · have := le_RU c; omega
  have h2 := Nat.mul_le_mul_right (2 ^ D) (rv_gap (s := r) h)
  rw [Nat.add_mul] at h2
  omega

/-- the whole, a half, a quarter, three quarters: so many least places -/
def u4 : Nat := 2 ^ 147
theorem rv_q1 : rv 23 1048576000 = u4 := by decide
theorem rv_q2 : rv 23 1056964608 = 2 * u4 := by decide
theorem rv_q3 : rv 23 1061158912 = 3 * u4 := by decide
theorem rv_q4 : rv 23 1065353216 = 4 * u4 := by decide
theorem rv_tenk : 8 * gG ≤ rv 23 953267991 := by decide
theorem u4_scale : (2 : Nat) ^ 149 = 4 * u4 := by decide

theorem nearQ {a : Nat} (ha : a ≤ 1065353216) : mulB 1048576000 a ≤ 1048576000 ∧ 4 * rv 23 (mulB 1048576000 a) ≤ rv 23 a + 4 * gG ∧ rv 23 a ≤ 4 * rv 23 (mulB 1048576000 a) + 4 * gG := by
  have e := (mul_eq (x := 1048576000) (y := a) (by omega) (by omega)).2
  rw [rv_q1] at e
  have hr := rv_le (p := 23) ha
  have hle : RU 23 (u4 * rv 23 a) 149 ≤ 1048576000 := RU_le (by
    rw [rv_q1, u4_scale]
    rw [rv_q4] at hr
    exact Nat.mul_le_mul_left _ hr)
  rw [Nat.min_eq_left (by omega)] at e
  have k1 := RU_up (m := u4 * rv 23 a) (D := 149) (by omega)
  have k2 := RU_dn (m := u4 * rv 23 a) (D := 149) (by omega)
  rw [← e] at k1 k2 hle
  refine ⟨hle, ?_, ?_⟩
  · rw [u4_scale] at k1
    have hu : 0 < u4 := by decide
    refine Nat.le_of_mul_le_mul_left (c := u4) ?_ hu
    rw [Nat.mul_add]
    calc u4 * (4 * rv 23 (mulB 1048576000 a)) = rv 23 (mulB 1048576000 a) * (4 * u4) := by ac_rfl
      _ ≤ u4 * rv 23 a + gG * (4 * u4) := k1
      _ = u4 * rv 23 a + u4 * (4 * gG) := by congr 1 <;> ac_rfl
  · rw [u4_scale] at k2
    have hu : 0 < u4 := by decide
    refine Nat.le_of_mul_le_mul_left (c := u4) ?_ hu
    rw [Nat.mul_add]
    calc u4 * rv 23 a ≤ rv 23 (mulB 1048576000 a) * (4 * u4) + gG * (4 * u4) := k2
      _ = u4 * (4 * rv 23 (mulB 1048576000 a)) + u4 * (4 * gG) := by congr 1 <;> ac_rfl
theorem nearH {a : Nat} (ha : a ≤ 1065353216) : mulB 1056964608 a ≤ 1056964608 ∧ 2 * rv 23 (mulB 1056964608 a) ≤ rv 23 a + 2 * gG ∧ rv 23 a ≤ 2 * rv 23 (mulB 1056964608 a) + 2 * gG := by
  have e := (mul_eq (x := 1056964608) (y := a) (by omega) (by omega)).2
  rw [rv_q2] at e
  have hr := rv_le (p := 23) ha
  have hle : RU 23 (2 * u4 * rv 23 a) 149 ≤ 1056964608 := RU_le (by
    rw [rv_q2, u4_scale]
    rw [rv_q4] at hr
    exact Nat.mul_le_mul_left _ hr)
  rw [Nat.min_eq_left (by omega)] at e
  have k1 := RU_up (m := 2 * u4 * rv 23 a) (D := 149) (by omega)
  have k2 := RU_dn (m := 2 * u4 * rv 23 a) (D := 149) (by omega)
  rw [← e] at k1 k2 hle
  have hu : 0 < 2 * u4 := by decide
  have h42 : 4 * u4 = 2 * (2 * u4) := by omega
  rw [u4_scale, h42] at k1 k2
  generalize 2 * u4 = U at *
  refine ⟨hle, ?_, ?_⟩
  · refine Nat.le_of_mul_le_mul_left (c := U) ?_ hu
    rw [Nat.mul_add]
    calc U * (2 * rv 23 (mulB 1056964608 a)) = rv 23 (mulB 1056964608 a) * (2 * U) := by ac_rfl
      _ ≤ U * rv 23 a + gG * (2 * U) := k1
      _ = U * rv 23 a + U * (2 * gG) := by congr 1 <;> ac_rfl
  · refine Nat.le_of_mul_le_mul_left (c := U) ?_ hu
    rw [Nat.mul_add]
    calc U * rv 23 a ≤ rv 23 (mulB 1056964608 a) * (2 * U) + gG * (2 * U) := k2
      _ = U * (2 * rv 23 (mulB 1056964608 a)) + U * (2 * gG) := by congr 1 <;> ac_rfl
/-- a sum up to 1 -/
theorem nearP {x y : Nat} (hx : x < 2139095040) (hy : y < 2139095040) (h : rv 23 x + rv 23 y ≤ 4 * u4) : rv 23 (addB x y) ≤ rv 23 x + rv 23 y + gG ∧ rv 23 x + rv 23 y ≤ rv 23 (addB x y) + gG ∧ addB x y ≤ 1065353216 := by
  have e := (add_eq hx hy).2
  have hle : RU 23 (rv 23 x + rv 23 y) 0 ≤ 1065353216 := RU_le (by rw [rv_q4]; simpa using h)
  rw [Nat.min_eq_left (by omega)] at e
  have k1 := RU_up hle
  have k2 := RU_dn hle
  rw [← e] at k1 k2 hle
  simp only [Nat.pow_zero, Nat.mul_one] at k1 k2
  exact ⟨k1, k2, hle⟩
/-- what is smoothed lies between its neighbours, nearly -/
theorem smooth_near {a b c : Nat} (ha : a ≤ 1065353216) (hb : b ≤ 1065353216) (hc : c ≤ 1065353216) {s : Nat} (hs : s = addB (addB (mulB 1048576000 a) (mulB 1056964608 b)) (mulB 1048576000 c)) :
    s ≤ 1065353216 ∧ rv 23 (min (min a b) c) ≤ rv 23 s + 8 * gG ∧ rv 23 s ≤ rv 23 (max (max a b) c) + 8 * gG := by
  obtain ⟨a1, a2, a3⟩ := nearQ ha
  obtain ⟨b1, b2, b3⟩ := nearH hb
  obtain ⟨c1, c2, c3⟩ := nearQ hc
  have ra := rv_le (p := 23) a1
  have rb := rv_le (p := 23) b1
  have rc := rv_le (p := 23) c1
  rw [rv_q1] at ra rc
  rw [rv_q2] at rb
  have e1 : addB (mulB 1048576000 a) (mulB 1056964608 b) ≤ 1061158912 := add_le (by omega) (by omega) (by rw [rv_q3]; omega)
  obtain ⟨s1, s2, -⟩ := nearP (x := mulB 1048576000 a) (y := mulB 1056964608 b) (by omega) (by omega) (by omega)
  have re := rv_le (p := 23) e1
  rw [rv_q3] at re
  obtain ⟨t1, t2, t3⟩ := nearP (x := addB (mulB 1048576000 a) (mulB 1056964608 b)) (y := mulB 1048576000 c) (by omega) (by omega) (by omega)
  rw [← hs] at t1 t2 t3
  have l1 := rv_le (p := 23) (show min (min a b) c ≤ a by omega)
  have l2 := rv_le (p := 23) (show min (min a b) c ≤ b by omega)
  have l3 := rv_le (p := 23) (show min (min a b) c ≤ c by omega)
  have g1 := rv_le (p := 23) (show a ≤ max (max a b) c by omega)
  have g2 := rv_le (p := 23) (show b ≤ max (max a b) c by omega)
  have g3 := rv_le (p := 23) (show c ≤ max (max a b) c by omega)
  refine ⟨t3, ?_, ?_⟩ <;> omega
/-- the upper bound, as the law writes it -/
theorem near_up {x y : Nat} (hx : x ≤ 1065353216) (hy : y ≤ 1065353216) (h : rv 23 x ≤ rv 23 y + 8 * gG) : floatBits .add .f32 y 953267991 = some (addB y 953267991) ∧ (FloatKind.f32.format.order x (addB y 953267991) == some .gt) = false := by
  have k := add_any (x := y) (y := 953267991) (by omega) (by omega)
  refine ⟨k.1, ?_⟩
  rw [gt_amt (by omega) k.2]
  have : x ≤ addB y 953267991 := le_add (by omega) (by omega) (by omega) (by have := rv_tenk; omega)
  exact decide_eq_false (by omega)
/-- the lower bound -/
theorem near_lo {x y : Nat} (hx : x ≤ 1065353216) (hy : y ≤ 1065353216) (h : rv 23 y ≤ rv 23 x + 8 * gG) : ∃ d, floatBits .sub .f32 y 953267991 = some d ∧ (FloatKind.f32.format.order x d == some .lt) = false := by
  by_cases c : 953267991 ≤ y
  · obtain ⟨e1, e2⟩ := sub_eq (x := y) (y := 953267991) (by omega) c
    refine ⟨_, e1, ?_⟩
    have : RU 23 (rv 23 y - rv 23 953267991) 0 ≤ x := RU_le (by have := rv_tenk; simp; omega)
    rw [lt_amt (by omega) (by omega)]
    exact decide_eq_false (by omega)
  · have hs := sub_fin S32 false false (r := y) (q := 953267991) (by rw [s_inf]; omega) (by rw [s_inf]; omega)
    refine ⟨_, hs, ?_⟩
    have hlt : rv S32.fractionBits y < rv S32.fractionBits 953267991 := rv_lt (by omega)
    have hm : RU S32.fractionBits (sg false (rv S32.fractionBits y) - sg false (rv S32.fractionBits 953267991)).natAbs 0 ≤ 953267991 := RU_le (by
      show ((rv 23 y : Int) - (rv 23 953267991 : Int)).natAbs ≤ rv 23 953267991 * 2 ^ 0
      have h' : rv 23 y < rv 23 953267991 := rv_lt (by omega)
      simp only [Nat.pow_zero, Nat.mul_one]
      omega)
    unfold roundInt
    rw [if_neg (by show ((rv S32.fractionBits y : Nat) : Int) - ((rv S32.fractionBits 953267991 : Nat) : Int) ≠ 0; omega), decide_eq_true (show sg false (rv S32.fractionBits y) - sg false (rv S32.fractionBits 953267991) < 0 by show ((rv S32.fractionBits y : Nat) : Int) - ((rv S32.fractionBits 953267991 : Nat) : Int) < 0; omega), Nat.min_eq_left (by rw [s_inf]; omega)]
    generalize RU S32.fractionBits (sg false (rv S32.fractionBits y) - sg false (rv S32.fractionBits 953267991)).natAbs 0 = r at hm ⊢
    have ho := order_fin S32 false true (r := x) (q := r) (by rw [s_inf]; omega) (by rw [s_inf]; omega)
    show (S32.order (S32.word false x) (S32.word true r) == some .lt) = false
    rw [ho]
    have : compare (sg false (rv S32.fractionBits x)) (sg true (rv S32.fractionBits r)) ≠ .lt := by
      intro e
      have e' := Int.compare_eq_lt.1 e
      simp [sg] at e'
      omega
    cases hc : compare (sg false (rv S32.fractionBits x)) (sg true (rv S32.fractionBits r)) <;> simp_all
/-- what is added to f up to t is at most t, nearly -/
theorem join_core {t f jn : Nat} (ht : t ≤ 1065353216) (hf : f ≤ t) (hj : jn ≤ subB t f) :
    floatBits .add .f32 f jn = some (addB f jn) ∧ floatBits .add .f32 t 953267991 = some (addB t 953267991) ∧ (FloatKind.f32.format.order (addB f jn) (addB t 953267991) == some .gt) = false := by
  obtain ⟨-, e2⟩ := sub_eq (x := t) (y := f) (by omega) hf
  have hsl := sub_le (x := t) (y := f) (by omega) hf
  have a1 := add_any (x := f) (y := jn) (by omega) (by omega)
  have a2 := add_any (x := t) (y := 953267991) (by omega) (by omega)
  have b1 := (add_eq (x := f) (y := jn) (by omega) (by omega)).2
  have b2 := (add_eq (x := t) (y := 953267991) (by omega) (by omega)).2
  refine ⟨a1.1, a2.1, ?_⟩
  rw [gt_amt a1.2 a2.2, b1, b2]
  clear a1 a2 b1 b2
  have hten := rv_tenk
  have k0 := rv_le (p := 23) ht
  have k2 := rv_le (p := 23) hj
  have k3 := rv_le (p := 23) hf
  generalize rv 23 953267991 = T at *
  have hle : RU 23 (rv 23 t - rv 23 f) 0 ≤ 1065353216 := RU_le (by rw [Nat.pow_zero, Nat.mul_one]; exact Nat.le_trans (Nat.sub_le _ _) k0)
  have k1 := RU_up hle
  rw [Nat.min_eq_left (Nat.le_trans hle (by omega))] at e2
  rw [← e2] at k1
  rw [Nat.pow_zero, Nat.mul_one, Nat.mul_one] at k1
  clear e2 hle k0
  generalize rv 23 (subB t f) = S at k1 k2
  generalize rv 23 jn = J at *
  generalize rv 23 f = F at *
  generalize rv 23 t = R at *
  have hm := RU_mono 23 0 (show F + J ≤ R + T by omega)
  generalize RU 23 (F + J) 0 = P at hm ⊢
  generalize RU 23 (R + T) 0 = Q at hm ⊢
  exact decide_eq_false (by omega)
end Go.Proofs.Ytiaflomabgnmaaa
