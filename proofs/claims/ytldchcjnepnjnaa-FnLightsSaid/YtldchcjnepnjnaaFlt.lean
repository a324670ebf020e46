/-
  FLOATS: WHAT THE MODEL'S ROUNDING, SUMS, PRODUCTS, QUOTIENTS AND COMPARISONS GIVE, IN WHOLE NUMBERS.
  No Go text in it. Conditions: those of each theorem.
-/
import Derived.Laws.FloatArith
namespace Go.Proofs.Ytldchcjnepnjnaa
open Go

/-! ### Rounding to a whole number -/
/-- n / g, to the nearest, ties to even -/
def rne (n g : Nat) : Nat := n / g + (if g < 2 * (n % g) || (g == 2 * (n % g) && n / g % 2 == 1) then 1 else 0)

theorem rne_mul (k g : Nat) (hg : 0 < g) : rne (k * g) g = k := by
  unfold rne
  have h1 : k * g / g = k := Nat.mul_div_cancel _ hg
  have h2 : k * g % g = 0 := Nat.mul_mod_left _ _
  rw [h1, h2]
  simp; omega

theorem rne_le_succ (n g : Nat) : rne n g ≤ n / g + 1 := by unfold rne; split <;> omega
theorem rne_ge (n g : Nat) : n / g ≤ rne n g := by unfold rne; omega

theorem rne_mono {n m g : Nat} (h : n ≤ m) : rne n g ≤ rne m g := by
  have hq : n / g ≤ m / g := Nat.div_le_div_right h
  by_cases e : n / g < m / g
  · have := rne_le_succ n g; have := rne_ge m g; omega
  · have e' : n / g = m / g := by omega
    have hn := Nat.div_add_mod n g; have hm := Nat.div_add_mod m g
    rw [← e'] at hm
    have hr : n % g ≤ m % g := by omega
    unfold rne
    rw [← e']
    by_cases c1 : (g < 2 * (n % g) || (g == 2 * (n % g) && n / g % 2 == 1)) = true
    · rw [if_pos c1]
      have c2 : (g < 2 * (m % g) || (g == 2 * (m % g) && n / g % 2 == 1)) = true := by
        simp only [Bool.or_eq_true, Bool.and_eq_true, decide_eq_true_eq, beq_iff_eq] at c1 ⊢
        omega
      rw [if_pos c2]; omega
    · rw [if_neg c1]; omega

theorem rne_le {n g k : Nat} (hg : 0 < g) (h : n ≤ k * g) : rne n g ≤ k := by
  have := rne_mono (g := g) h; rw [rne_mul _ _ hg] at this; exact this
theorem le_rne {n g k : Nat} (hg : 0 < g) (h : k * g ≤ n) : k ≤ rne n g := by
  have := rne_mono (g := g) h; rw [rne_mul _ _ hg] at this; exact this
theorem rne_one (n : Nat) : rne n 1 = n := by have := rne_mul n 1 (by omega); rwa [Nat.mul_one] at this
theorem rne_scale (n g k : Nat) (hk : 0 < k) : rne (n * k) (g * k) = rne n g := by
  unfold rne
  have h1 : n * k / (g * k) = n / g := Nat.mul_div_mul_right _ _ hk
  have h2 : n * k % (g * k) = (n % g) * k := Nat.mul_mod_mul_right _ _ _
  rw [h1, h2]
  have h3 : (g * k < 2 * (n % g * k)) ↔ (g < 2 * (n % g)) := by
    rw [← Nat.mul_assoc]; exact Nat.mul_lt_mul_right hk
  have h4 : (g * k = 2 * (n % g * k)) ↔ (g = 2 * (n % g)) := by
    rw [← Nat.mul_assoc]; exact Nat.mul_left_inj (by omega)
  have e : (g * k < 2 * (n % g * k) || (g * k == 2 * (n % g * k) && n / g % 2 == 1)) = (g < 2 * (n % g) || (g == 2 * (n % g) && n / g % 2 == 1)) := by
    rw [Bool.eq_iff_iff]
    simp only [Bool.or_eq_true, Bool.and_eq_true, decide_eq_true_eq, beq_iff_eq, h3, h4]
  rw [e]

theorem cut_even (neg : Bool) (n drop : Nat) : Ieee.Toward.even.cut neg n drop = rne n (2 ^ drop) := by
  unfold Ieee.Toward.cut
  simp only [Nat.one_shiftLeft]
  have key : ∀ d, n / 2 ^ d + (decide (2 ^ d < 2 * (n % 2 ^ d)) || 2 ^ d == 2 * (n % 2 ^ d) && n / 2 ^ d % 2 == 1).toNat = rne n (2 ^ d) := by
    intro d
    unfold rne
    congr 1
    cases hb : (decide (2 ^ d < 2 * (n % 2 ^ d)) || 2 ^ d == 2 * (n % 2 ^ d) && n / 2 ^ d % 2 == 1) <;> simp
  have k1 := key (min drop (n.log2 + 2))
  rw [show (n / 2 ^ min drop (n.log2 + 2) + (decide (2 ^ min drop (n.log2 + 2) < 2 * (n % 2 ^ min drop (n.log2 + 2))) || 2 ^ min drop (n.log2 + 2) == 2 * (n % 2 ^ min drop (n.log2 + 2)) && n / 2 ^ min drop (n.log2 + 2) % 2 == 1).toNat) = rne n (2 ^ min drop (n.log2 + 2)) from k1]
  by_cases h : drop ≤ n.log2 + 2
  · rw [Nat.min_eq_left h]
  · rw [Nat.min_eq_right (by omega)]
    have hn : n < 2 ^ (n.log2 + 1) := Nat.lt_log2_self
    have z : ∀ d, n.log2 + 2 ≤ d → rne n (2 ^ d) = 0 := by
      intro d hd
      have h2 : 2 ^ (n.log2 + 2) ≤ 2 ^ d := Nat.pow_le_pow_right (by omega) hd
      have h3 : 2 ^ (n.log2 + 2) = 2 * 2 ^ (n.log2 + 1) := by rw [Nat.pow_succ]; omega
      unfold rne
      rw [Nat.div_eq_of_lt (by omega), Nat.mod_eq_of_lt (by omega), if_neg]
      simp only [Bool.or_eq_true, Bool.and_eq_true, decide_eq_true_eq, beq_iff_eq]
      omega
    rw [z _ (Nat.le_refl _), z _ (by omega)]

/-! ### Rounding to a rung: mag / 2^D units of the least place, p fraction bits -/
def lastE (p mag D : Nat) : Nat := mag.log2 - (p + D)
def RU (p mag D : Nat) : Nat := lastE p mag D * 2 ^ p + rne mag (2 ^ (lastE p mag D + D))

theorem log2_mul_pow (m k : Nat) (h : m ≠ 0) : (m * 2 ^ k).log2 = m.log2 + k := by
  have h1 := Nat.log2_self_le h
  have h2 : m < 2 ^ (m.log2 + 1) := Nat.lt_log2_self
  have hp : 0 < 2 ^ k := Nat.two_pow_pos k
  have hne : m * 2 ^ k ≠ 0 := Nat.mul_ne_zero h (by omega)
  have a1 : 2 ^ (m.log2 + k) ≤ m * 2 ^ k := by rw [Nat.pow_add]; exact Nat.mul_le_mul_right _ h1
  have a2 : m * 2 ^ k < 2 ^ (m.log2 + k + 1) := by
    rw [show m.log2 + k + 1 = (m.log2 + 1) + k from by omega, Nat.pow_add]; exact (Nat.mul_lt_mul_right hp).2 h2
  rw [Nat.log2_eq_iff hne]
  exact ⟨a1, a2⟩

theorem RU_zero (p D : Nat) : RU p 0 D = 0 := by
  unfold RU lastE rne
  have : (0 : Nat).log2 = 0 := by decide
  rw [this]
  simp

theorem RU_scale (p mag D k : Nat) : RU p (mag * 2 ^ k) (D + k) = RU p mag D := by
  by_cases h : mag = 0
  · subst h; rw [Nat.zero_mul, RU_zero, RU_zero]
  · unfold RU
    have e : lastE p (mag * 2 ^ k) (D + k) = lastE p mag D := by unfold lastE; rw [log2_mul_pow _ _ h]; omega
    rw [e, show lastE p mag D + (D + k) = (lastE p mag D + D) + k from by omega, Nat.pow_add (2) (lastE p mag D + D) k, rne_scale _ _ _ (Nat.two_pow_pos _)]

theorem RU_hi (p mag D : Nat) : rne mag (2 ^ (lastE p mag D + D)) ≤ 2 * 2 ^ p := by
  refine rne_le (Nat.two_pow_pos _) ?_
  have h2 : mag < 2 ^ (mag.log2 + 1) := Nat.lt_log2_self
  have h3 : 2 ^ (mag.log2 + 1) ≤ 2 ^ (p + 1 + (lastE p mag D + D)) := Nat.pow_le_pow_right (by omega) (by unfold lastE; omega)
  have h4 : 2 ^ (p + 1 + (lastE p mag D + D)) = 2 * 2 ^ p * 2 ^ (lastE p mag D + D) := by rw [Nat.pow_add, Nat.pow_succ]; congr 1; omega
  omega

theorem RU_lo (p mag D : Nat) (h : 0 < lastE p mag D) : 2 ^ p ≤ rne mag (2 ^ (lastE p mag D + D)) := by
  refine le_rne (Nat.two_pow_pos _) ?_
  have hne : mag ≠ 0 := by intro e; subst e; unfold lastE at h; have : (0 : Nat).log2 = 0 := by decide
                           rw [this] at h; omega
  have h1 := Nat.log2_self_le hne
  have h3 : 2 ^ (p + (lastE p mag D + D)) ≤ 2 ^ mag.log2 := Nat.pow_le_pow_right (by omega) (by unfold lastE at *; omega)
  rw [← Nat.pow_add]; omega

theorem log2_mono {a b : Nat} (h : a ≤ b) : a.log2 ≤ b.log2 := by
  by_cases ha : a = 0
  · subst ha; have : (0 : Nat).log2 = 0 := by decide
    omega
  · exact (Nat.le_log2 (by omega)).2 (Nat.le_trans (Nat.log2_self_le ha) h)

theorem RU_mono (p D : Nat) {a b : Nat} (h : a ≤ b) : RU p a D ≤ RU p b D := by
  have hl := log2_mono h
  have he : lastE p a D ≤ lastE p b D := by unfold lastE; omega
  by_cases e : lastE p a D = lastE p b D
  · unfold RU; rw [← e]; have := rne_mono (g := 2 ^ (lastE p a D + D)) h; omega
  · have h1 := RU_hi p a D
    have h2 := RU_lo p b D (by omega)
    unfold RU
    have : (lastE p a D + 1) * 2 ^ p ≤ lastE p b D * 2 ^ p := Nat.mul_le_mul_right _ (by omega)
    rw [Nat.add_mul, Nat.one_mul] at this
    omega

/-- the value of a rung in units of the least place -/
def rv (p r : Nat) : Nat := if r < 2 ^ p then r else (2 ^ p + r % 2 ^ p) * 2 ^ (r / 2 ^ p - 1)

theorem log2_of {n k : Nat} (h1 : 2 ^ k ≤ n) (h2 : n < 2 ^ (k + 1)) : n.log2 = k := by
  have : n ≠ 0 := by have := Nat.two_pow_pos k; omega
  exact (Nat.log2_eq_iff this).2 ⟨h1, h2⟩

theorem RU_rv0 (p r : Nat) : RU p (rv p r) 0 = r := by
  have hp : 0 < 2 ^ p := Nat.two_pow_pos p
  by_cases h : r < 2 ^ p
  · have hl : r.log2 - p = 0 := by
      by_cases h0 : r = 0
      · subst h0; have : (0 : Nat).log2 = 0 := by decide
        omega
      · have := Nat.log2_self_le h0
        by_cases c : p < r.log2
        · have : 2 ^ p ≤ 2 ^ r.log2 := Nat.pow_le_pow_right (by omega) (by omega)
          omega
        · omega
    unfold RU rv lastE
    rw [if_pos h]
    simp only [Nat.add_zero]
    rw [hl]; simp only [Nat.zero_mul, Nat.zero_add, Nat.pow_zero]
    exact rne_one r
  · have hr : r % 2 ^ p < 2 ^ p := Nat.mod_lt _ hp
    have hq : 1 ≤ r / 2 ^ p := (Nat.one_le_div_iff hp).2 (by omega)
    have hl : (rv p r).log2 = p + (r / 2 ^ p - 1) := by
      unfold rv; rw [if_neg h]
      rw [log2_mul_pow _ _ (by omega), log2_of (k := p) (by omega) (by rw [Nat.pow_succ]; omega)]
    unfold RU lastE
    rw [hl]
    simp only [Nat.add_zero]
    rw [show p + (r / 2 ^ p - 1) - p = r / 2 ^ p - 1 from by omega]
    unfold rv; rw [if_neg h, rne_mul _ _ (Nat.two_pow_pos _)]
    have := Nat.div_add_mod r (2 ^ p)
    have e : (r / 2 ^ p - 1) * 2 ^ p + (2 ^ p + r % 2 ^ p) = ((r / 2 ^ p - 1) * 2 ^ p + 2 ^ p) + r % 2 ^ p := by omega
    rw [e, ← Nat.succ_mul, Nat.succ_eq_add_one, Nat.sub_add_cancel hq, Nat.mul_comm]; exact this

theorem RU_rv (p r D : Nat) : RU p (rv p r * 2 ^ D) D = r := by
  have := RU_scale p (rv p r) 0 D
  rw [Nat.zero_add] at this
  rw [this, RU_rv0]

theorem rv_zero (p : Nat) : rv p 0 = 0 := by unfold rv; rw [if_pos (Nat.two_pow_pos p)]

theorem rv_lt {p r s : Nat} (h : r < s) : rv p r < rv p s := by
  refine Nat.lt_of_not_le fun hle => ?_
  have := RU_mono p 0 hle
  rw [RU_rv0, RU_rv0] at this
  omega
theorem rv_le {p r s : Nat} (h : r ≤ s) : rv p r ≤ rv p s := by
  by_cases e : r = s
  · subst e; exact Nat.le_refl _
  · exact Nat.le_of_lt (rv_lt (by omega))
theorem rv_lt_iff {p r s : Nat} : rv p r < rv p s ↔ r < s :=
  ⟨fun h => Nat.lt_of_not_le fun hle => by have := rv_le (p := p) hle; omega, rv_lt⟩
theorem rv_pos {p r : Nat} (h : 0 < r) : 0 < rv p r := by have := rv_lt (p := p) h; rw [rv_zero] at this; exact this

theorem RU_le {p mag D r : Nat} (h : mag ≤ rv p r * 2 ^ D) : RU p mag D ≤ r := by
  have := RU_mono p D h; rw [RU_rv] at this; exact this
theorem le_RU {p mag D r : Nat} (h : rv p r * 2 ^ D ≤ mag) : r ≤ RU p mag D := by
  have := RU_mono p D h; rw [RU_rv] at this; exact this

/-- 'nearest' in these words -/
theorem nearest_eq (f : Ieee.Format) (neg : Bool) (mag : Nat) (place : Int) :
    f.nearest neg mag place = f.word neg (min (RU f.fractionBits (mag * 2 ^ (place - f.leastPlace).toNat) (f.leastPlace - place).toNat) f.infRung) := by
  unfold Ieee.Format.nearest
  by_cases h : mag = 0
  · subst h
    rw [if_pos rfl, Nat.zero_mul, RU_zero, Nat.zero_min]
  · rw [if_neg h]
    dsimp only
    congr 2
    unfold RU Ieee.Format.binade
    generalize hL : f.leastPlace = L
    generalize f.fractionBits = p
    rw [cut_even, Nat.shiftLeft_eq]
    generalize hp : 2 ^ p = P
    rcases Int.le_total L place with c | c
    · obtain ⟨k, hk⟩ := Int.eq_ofNat_of_zero_le (Int.sub_nonneg_of_le c)
      obtain rfl : place = L + k := by omega
      rw [show (L + (k : Int) - L).toNat = k from by omega, show (L - (L + (k : Int))).toNat = 0 from by omega]
      have hle : lastE p (mag * 2 ^ k) 0 = mag.log2 + k - p := by unfold lastE; rw [log2_mul_pow _ _ h, Nat.add_zero]
      rw [hle]
      generalize hq : mag.log2 = q
      simp only [Nat.add_zero]
      have e1 : (max (L + (k : Int) + (q : Int) - (p : Int)) L - L).toNat = q + k - p := by omega
      rw [e1]
      congr 1
      by_cases c2 : q ≤ p
      · have a1 : (L + (k : Int) - max (L + (k : Int) + (q : Int) - (p : Int)) L).toNat = k - (q + k - p) := by omega
        have a2 : (max (L + (k : Int) + (q : Int) - (p : Int)) L - (L + (k : Int))).toNat = 0 := by omega
        rw [a1, a2, Nat.pow_zero, rne_one]
        rw [show mag * 2 ^ k = mag * 2 ^ (k - (q + k - p)) * 2 ^ (q + k - p) from by rw [Nat.mul_assoc, ← Nat.pow_add]; congr 2; omega]
        rw [rne_mul _ _ (Nat.two_pow_pos _)]
      · have a1 : (L + (k : Int) - max (L + (k : Int) + (q : Int) - (p : Int)) L).toNat = 0 := by omega
        have a2 : (max (L + (k : Int) + (q : Int) - (p : Int)) L - (L + (k : Int))).toNat = q - p := by omega
        rw [a1, a2, Nat.pow_zero, Nat.mul_one]
        rw [show q + k - p = (q - p) + k from by omega, Nat.pow_add, rne_scale _ _ _ (Nat.two_pow_pos _)]
    · obtain ⟨k, hk⟩ := Int.eq_ofNat_of_zero_le (Int.sub_nonneg_of_le c)
      obtain rfl : place = L - k := by omega
      rw [show (L - (k : Int) - L).toNat = 0 from by omega, show (L - (L - (k : Int))).toNat = k from by omega]
      rw [Nat.pow_zero, Nat.mul_one]
      unfold lastE
      generalize hq : mag.log2 = q
      have e1 : (max (L - (k : Int) + (q : Int) - (p : Int)) L - L).toNat = q - (p + k) := by omega
      rw [e1]
      congr 1
      have a1 : (L - (k : Int) - max (L - (k : Int) + (q : Int) - (p : Int)) L).toNat = 0 := by omega
      have a2 : (max (L - (k : Int) + (q : Int) - (p : Int)) L - (L - (k : Int))).toNat = q - (p + k) + k := by omega
      rw [a1, a2, Nat.pow_zero, Nat.mul_one]
end Go.Proofs.Ytldchcjnepnjnaa
