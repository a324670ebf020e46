/-
  FnStill's numbers: products and quotients of shares, nearly; what a road takes and sends at one share; steps at one share.
  No Go text in it but what it imports. Conditions: those of each theorem.
-/
import Derived.Test.YtiaflomabgnmaaaG16
import Derived.Test.YtiaflomabgnmaaaDetF
import Derived.Test.YtiaflomabgnmaaaDrawnR
import Derived.Test.YtiaflomabgnmaaaWaveSpeed
import Derived.Test.YtiaflomabgnmaaaG11
namespace Go.Proofs.Ytiaflomabgnmaaa
open Go Go.RowKit
set_option maxRecDepth 100000

/-- two roundings up to 2 -/
def gC : Nat := 2 ^ 128

theorem rnd2 {m : Nat} (h : RU 23 m 0 ≤ 1073741824) : 2 * rv 23 (RU 23 m 0) ≤ 2 * m + gC ∧ 2 * m ≤ 2 * rv 23 (RU 23 m 0) + gC := by
  have u := RU_upK 128 (m := m) (D := 0) (by omega) (by omega)
  have d := RU_dnK 128 (m := m) (D := 0) (by omega) (by omega)
  simp only [Nat.pow_zero, Nat.mul_one] at u d
  have e : gC = 2 * 2 ^ (128 - 1) := by decide +kernel
  rw [e]
  generalize 2 ^ (128 - 1) = g at u d ⊢
  generalize rv 23 (RU 23 m 0) = R at u d ⊢
  omega

theorem rv_22 : rv 23 1073741824 = 2 * P2 149 := by decide +kernel

/-- one, in least places -/
def uV : Nat := 2 ^ 149

theorem uV_one : rv 23 1065353216 = uV := by decide +kernel

theorem uV_pos : 0 < uV := by decide +kernel

theorem gC_gG : gC = 4 * gG := by decide +kernel

theorem gG_128 : (2 : Nat) ^ 128 = 4 * gG := by decide +kernel

theorem gG_127 : (2 : Nat) ^ (128 - 1) = 2 * gG := by decide +kernel

theorem gG_129 : (2 : Nat) ^ (129 - 1) = 4 * gG := by decide +kernel

theorem rv_share {x : Nat} (h : x ≤ 1065353216) : rv 23 x ≤ uV := by
  have := rv_le (p := 23) h
  rwa [uV_one] at this

theorem mul_near1 {x y : Nat} (hx : x ≤ 1065353216) (hy : y ≤ 1065353216) : rv 23 (mulB x y) * uV ≤ rv 23 x * rv 23 y + gG * uV ∧ rv 23 x * rv 23 y ≤ rv 23 (mulB x y) * uV + gG * uV := by
  have e := (mul_eq (x := x) (y := y) (by omega) (by omega)).2
  have h1 := (mul_one_le hx hy).2
  have e2 : mulB x y = RU 23 (rv 23 x * rv 23 y) 149 := by
    rcases Nat.le_total (RU 23 (rv 23 x * rv 23 y) 149) 2139095040 with c | c
    · exact e.trans (Nat.min_eq_left c)
    · rw [Nat.min_eq_right c] at e; omega
  rw [e2] at h1
  have u := RU_up h1
  have d := RU_dn h1
  rw [← e2] at u d
  exact ⟨u, d⟩

theorem sub_near1 {x : Nat} (hx : x ≤ 1065353216) : rv 23 (subB 1065353216 x) + rv 23 x ≤ uV + gG ∧ uV ≤ rv 23 (subB 1065353216 x) + rv 23 x + gG ∧ subB 1065353216 x ≤ 1065353216 := by
  have e := (sub_eq (x := 1065353216) (y := x) (by omega) hx).2
  have h1 := sub_le (x := 1065353216) (by omega) hx
  have hr := rv_share hx
  rw [uV_one] at e
  have e2 : subB 1065353216 x = RU 23 (uV - rv 23 x) 0 := by
    rcases Nat.le_total (RU 23 (uV - rv 23 x) 0) 2139095040 with c | c
    · exact e.trans (Nat.min_eq_left c)
    · rw [Nat.min_eq_right c] at e; omega
  have h2 := h1
  rw [e2] at h2
  have u := RU_up h2
  have d := RU_dn h2
  rw [← e2] at u d
  simp only [Nat.pow_zero, Nat.mul_one] at u d
  clear e e2 h2
  refine ⟨?_, ?_, h1⟩
  · generalize rv 23 (subB 1065353216 x) = s at *; generalize rv 23 x = a at *; generalize uV = V at *; generalize gG = g at *; omega
  · generalize rv 23 (subB 1065353216 x) = s at *; generalize rv 23 x = a at *; generalize uV = V at *; generalize gG = g at *; omega

/-- a quotient, nearly -/
theorem div_bal {F y : Nat} (hy : 0 < y ∧ y ≤ 1065353216) (hF : F < 2139095040) (hq : divB F y ≤ 1073741824) :
    rv 23 (divB F y) * rv 23 y ≤ rv 23 F * uV + 2 * gG * uV ∧ rv 23 F * uV ≤ rv 23 (divB F y) * rv 23 y + 2 * gG * uV := by
  have hY := rv_share hy.2
  generalize hqq : divB F y = q at hq
  constructor
  · cases q with
    | zero => rw [rv_zero, Nat.zero_mul]; exact Nat.zero_le _
    | succ s =>
      have h2 := rv_gapK 128 (s := s) (by omega) (by omega)
      rw [gG_127] at h2
      have h1 : rv 23 s * rv 23 y ≤ rv 23 F * uV := by
        rcases Nat.le_total (rv 23 s * rv 23 y) (rv 23 F * uV) with c | c
        · exact c
        · have := div_le (x := F) (y := y) (c := s) hF (by omega) hy.1 c
          omega
      calc rv 23 (s + 1) * rv 23 y ≤ (rv 23 s + 2 * gG) * rv 23 y := Nat.mul_le_mul_right _ h2
        _ = rv 23 s * rv 23 y + 2 * gG * rv 23 y := Nat.add_mul _ _ _
        _ ≤ rv 23 F * uV + 2 * gG * uV := Nat.add_le_add h1 (Nat.mul_le_mul_left _ hY)
  · have h2 := rv_gapK 128 (s := q) (by omega) (by omega)
    rw [gG_127] at h2
    have h1 : rv 23 F * uV ≤ rv 23 (q + 1) * rv 23 y := by
      rcases Nat.le_total (rv 23 F * uV) (rv 23 (q + 1) * rv 23 y) with c | c
      · exact c
      · have := le_div (x := F) (y := y) (c := q + 1) hF (by omega) hy.1 (by omega) c
        omega
    calc rv 23 F * uV ≤ rv 23 (q + 1) * rv 23 y := h1
      _ ≤ (rv 23 q + 2 * gG) * rv 23 y := Nat.mul_le_mul_right _ h2
      _ = rv 23 q * rv 23 y + 2 * gG * rv 23 y := Nat.add_mul _ _ _
      _ ≤ rv 23 q * rv 23 y + 2 * gG * uV := Nat.add_le_add_left (Nat.mul_le_mul_left _ hY) _

theorem le_of_rv {x y : Nat} (h : rv 23 x ≤ rv 23 y) : x ≤ y := by
  rcases Nat.lt_or_ge y x with c | c
  · have := rv_lt (p := 23) c; omega
  · exact c

/-- what is true of a drawn road's pace and back -/
structure RdQ (p b : Nat) : Prop where
  t1 : rv 23 (mostW p b) ≤ rv 23 (mulB b (subB 1065353216 (bestW p b))) + 8 * gG
  t3 : mostW p b ≤ b
  t4 : rv 23 (mostW p b) * uV + rv 23 (bestW p b) * rv 23 b ≤ uV * rv 23 b + 4 * gG * uV

theorem still_tab : ∀ m, m < 16 → ∀ n, n < 16 → (rv 23 (mostW (qs (m + 1)) (qs (n + 1))) ≤ rv 23 (mulB (qs (n + 1)) (subB 1065353216 (bestW (qs (m + 1)) (qs (n + 1))))) + 8 * gG) ∧ mostW (qs (m + 1)) (qs (n + 1)) ≤ qs (n + 1) ∧ rv 23 (mostW (qs (m + 1)) (qs (n + 1))) * uV + rv 23 (bestW (qs (m + 1)) (qs (n + 1))) * rv 23 (qs (n + 1)) ≤ uV * rv 23 (qs (n + 1)) + 4 * gG * uV := by decide +kernel

theorem RdQ.of {p b : Nat} (hp : QP p) (hb : QP b) : RdQ p b := by
  obtain ⟨m, hm, rfl⟩ := hp
  obtain ⟨n, hn, rfl⟩ := hb
  obtain ⟨h1, h2, h3⟩ := still_tab m hm n hn
  exact ⟨h1, h2, h3⟩

/-- the share at which a flow stands still -/
def loW (p F : Nat) : Nat := holdB (divB F p)

structure LoOk (p b F lo : Nat) : Prop where
  one : lo ≤ 1065353216
  best : rv 23 lo ≤ rv 23 (bestW p b) + 4 * gG
  up : rv 23 lo * rv 23 p ≤ rv 23 F * uV + 2 * gG * uV
  dn : rv 23 F * uV ≤ rv 23 lo * rv 23 p + 6 * gG * uV

theorem hold_amt {q : Nat} (h : q < 2147483648) : holdB q = min q 1065353216 := by
  unfold holdB posB
  rw [if_neg (by omega)]

theorem lo_ok {p b F : Nat} (hp : 1015021568 ≤ p ∧ p ≤ 1065353216) (hb : 1015021568 ≤ b ∧ b ≤ 1065353216) (hF : F ≤ mostW p b) : LoOk p b F (loW p F) := by
  have hbest := bestW_le hp hb
  have hmost := mostW_le hp hb
  obtain ⟨q1, q2⟩ := quo_back hp hbest hF
  rw [gG_128] at q1
  have hB := rv_share hbest
  have h2 : divB F p ≤ 1073741824 := le_of_rv (by
    rw [rv_22]
    have : 4 * gG ≤ P2 149 := by decide +kernel
    have e : P2 149 = uV := by decide +kernel
    omega)
  obtain ⟨d1, d2⟩ := div_bal (F := F) (y := p) ⟨by omega, hp.2⟩ (by omega) h2
  have hP := rv_share hp.2
  unfold loW
  rw [hold_amt (by omega)]
  rcases Nat.le_total (divB F p) 1065353216 with c | c
  · rw [Nat.min_eq_left c]
    refine ⟨c, q1, d1, Nat.le_trans d2 (Nat.add_le_add_left (Nat.mul_le_mul_right _ (by omega)) _)⟩
  · rw [Nat.min_eq_right c]
    have hle := rv_le (p := 23) c
    rw [uV_one] at hle
    refine ⟨Nat.le_refl _, by rw [uV_one]; omega, by rw [uV_one]; exact Nat.le_trans (Nat.mul_le_mul_right _ hle) d1, ?_⟩
    rw [uV_one]
    calc rv 23 F * uV ≤ rv 23 (divB F p) * rv 23 p + 2 * gG * uV := d2
      _ ≤ (uV + 4 * gG) * rv 23 p + 2 * gG * uV := Nat.add_le_add_right (Nat.mul_le_mul_right _ (by omega)) _
      _ = uV * rv 23 p + 4 * gG * rv 23 p + 2 * gG * uV := by rw [Nat.add_mul]
      _ ≤ uV * rv 23 p + 4 * gG * uV + 2 * gG * uV := Nat.add_le_add_right (Nat.add_le_add_left (Nat.mul_le_mul_left _ hP) _) _
      _ = uV * rv 23 p + 6 * gG * uV := by rw [Nat.add_assoc, ← Nat.add_mul, ← Nat.add_mul]

/-- what a cell near the still share sends -/
theorem sends_still {p b F lo c E : Nat} (hp : p ≤ 1065353216) (L : LoOk p b F lo) (hc : c ≤ 1065353216) (h1 : rv 23 c ≤ rv 23 lo + E) (h2 : rv 23 lo ≤ rv 23 c + E) :
    rv 23 (mulB p c) ≤ rv 23 F + 3 * gG + E ∧ rv 23 F ≤ rv 23 (mulB p c) + 7 * gG + E := by
  obtain ⟨m1, m2⟩ := mul_near1 hp hc
  have hP := rv_share hp
  have a1 : rv 23 p * rv 23 c ≤ rv 23 lo * rv 23 p + E * uV := by
    calc rv 23 p * rv 23 c ≤ rv 23 p * (rv 23 lo + E) := Nat.mul_le_mul_left _ h1
      _ = rv 23 lo * rv 23 p + E * rv 23 p := by rw [Nat.mul_add, Nat.mul_comm (rv 23 p), Nat.mul_comm (rv 23 p)]
      _ ≤ _ := Nat.add_le_add_left (Nat.mul_le_mul_left _ hP) _
  have a2 : rv 23 lo * rv 23 p ≤ rv 23 p * rv 23 c + E * uV := by
    calc rv 23 lo * rv 23 p ≤ (rv 23 c + E) * rv 23 p := Nat.mul_le_mul_right _ h2
      _ = rv 23 p * rv 23 c + E * rv 23 p := by rw [Nat.add_mul, Nat.mul_comm (rv 23 c)]
      _ ≤ _ := Nat.add_le_add_left (Nat.mul_le_mul_left _ hP) _
  have b1 := L.up
  have b2 := L.dn
  constructor
  · refine Nat.le_of_mul_le_mul_right (c := uV) ?_ uV_pos
    rw [Nat.add_mul, Nat.add_mul]
    have e : 3 * gG * uV = 2 * gG * uV + gG * uV := by rw [← Nat.add_mul]; congr 1 <;> omega
    omega
  · refine Nat.le_of_mul_le_mul_right (c := uV) ?_ uV_pos
    rw [Nat.add_mul, Nat.add_mul]
    have e : 7 * gG * uV = 6 * gG * uV + gG * uV := by rw [← Nat.add_mul]; congr 1 <;> omega
    omega

/-- and what it takes -/
theorem takes_still {p b F lo c E : Nat} (hp : 1015021568 ≤ p ∧ p ≤ 1065353216) (hb : 1015021568 ≤ b ∧ b ≤ 1065353216) (Q : RdQ p b) (hF : F ≤ mostW p b) (L : LoOk p b F lo) (hc : c ≤ 1065353216) (h1 : rv 23 c ≤ rv 23 lo + E) :
    rv 23 F ≤ rv 23 (mulB b (subB 1065353216 c)) + 16 * gG + E := by
  have hbest := bestW_le hp hb
  have hB := rv_share hb.2
  obtain ⟨s1, s2, s3⟩ := sub_near1 hc
  obtain ⟨r1, r2, r3⟩ := sub_near1 hbest
  obtain ⟨m1, m2⟩ := mul_near1 hb.2 s3
  obtain ⟨n1, n2⟩ := mul_near1 hb.2 r3
  have t1 := Q.t1
  have hFm := rv_le (p := 23) hF
  have lb := L.best
  -- b ≤ b (1 - c) + b c
  have a1 : rv 23 b * uV ≤ rv 23 b * rv 23 (subB 1065353216 c) + rv 23 b * rv 23 c + gG * uV := by
    calc rv 23 b * uV ≤ rv 23 b * (rv 23 (subB 1065353216 c) + rv 23 c + gG) := Nat.mul_le_mul_left _ s2
      _ = rv 23 b * rv 23 (subB 1065353216 c) + rv 23 b * rv 23 c + rv 23 b * gG := by rw [Nat.mul_add, Nat.mul_add]
      _ ≤ _ := Nat.add_le_add_left (by rw [Nat.mul_comm]; exact Nat.mul_le_mul_left _ hB) _
  have a2 : rv 23 b * rv 23 c ≤ rv 23 b * rv 23 (bestW p b) + 4 * gG * uV + E * uV := by
    calc rv 23 b * rv 23 c ≤ rv 23 b * (rv 23 (bestW p b) + 4 * gG + E) := Nat.mul_le_mul_left _ (by omega)
      _ = rv 23 b * rv 23 (bestW p b) + 4 * gG * rv 23 b + E * rv 23 b := by rw [Nat.mul_add, Nat.mul_add, Nat.mul_comm (rv 23 b) (4 * gG), Nat.mul_comm (rv 23 b) E]
      _ ≤ _ := Nat.add_le_add (Nat.add_le_add_left (Nat.mul_le_mul_left _ hB) _) (Nat.mul_le_mul_left _ hB)
  have a3 : rv 23 b * rv 23 (subB 1065353216 (bestW p b)) + rv 23 b * rv 23 (bestW p b) ≤ rv 23 b * uV + gG * uV := by
    calc rv 23 b * rv 23 (subB 1065353216 (bestW p b)) + rv 23 b * rv 23 (bestW p b) = rv 23 b * (rv 23 (subB 1065353216 (bestW p b)) + rv 23 (bestW p b)) := (Nat.mul_add _ _ _).symm
      _ ≤ rv 23 b * (uV + gG) := Nat.mul_le_mul_left _ r1
      _ = rv 23 b * uV + gG * rv 23 b := by rw [Nat.mul_add, Nat.mul_comm (rv 23 b) gG]
      _ ≤ _ := Nat.add_le_add_left (Nat.mul_le_mul_left _ hB) _
  have a4 : rv 23 (mulB b (subB 1065353216 (bestW p b))) ≤ rv 23 (mulB b (subB 1065353216 c)) + 8 * gG + E := by
    refine Nat.le_of_mul_le_mul_right (c := uV) ?_ uV_pos
    rw [Nat.add_mul, Nat.add_mul]
    have e : 8 * gG * uV = 4 * gG * uV + gG * uV + gG * uV + gG * uV + gG * uV := by
      rw [show 8 * gG = 4 * gG + gG + gG + gG + gG by omega, Nat.add_mul, Nat.add_mul, Nat.add_mul, Nat.add_mul]
    omega
  omega

end Go.Proofs.Ytiaflomabgnmaaa
