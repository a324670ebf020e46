/-
  FLOATS: READING A WORD; ORDER, SUM, DIFFERENCE, PRODUCT OF FINITE WORDS, IN WHOLE NUMBERS.
  No Go text in it. Conditions: those of each theorem.
-/
import Derived.Test.YtldchcjnepnjnaaFlt
namespace Go.Proofs.Ytldchcjnepnjnaa
open Go

variable (f : Ieee.Format)

def sg (neg : Bool) (n : Nat) : Int := if neg then -(n : Int) else n

theorem word_false (r : Nat) : f.word false r = r := rfl
theorem word_true (r : Nat) : f.word true r = f.signWeight + r := rfl
theorem infRung_lt' : f.infRung < f.signWeight := f.infRung_lt

theorem sw_pos : 0 < f.signWeight := Nat.two_pow_pos _

theorem word_split (neg : Bool) {r : Nat} (h : r < f.signWeight) : f.word neg r % f.signWeight = r ∧ (f.word neg r / f.signWeight % 2 == 1) = neg := by
  cases neg
  · rw [word_false, Nat.mod_eq_of_lt h, Nat.div_eq_of_lt h]; exact ⟨rfl, rfl⟩
  · rw [word_true, Nat.add_mod_left, Nat.mod_eq_of_lt h, Nat.add_div_left _ (sw_pos f), Nat.div_eq_of_lt h]; exact ⟨rfl, rfl⟩

theorem read_fin (neg : Bool) {r : Nat} (h : r < f.infRung) : ∃ m i, f.read (f.word neg r) = .number neg m i ∧ f.leastPlace ≤ i ∧ m * 2 ^ (i - f.leastPlace).toNat = rv f.fractionBits r := by
  have hs : r < f.signWeight := Nat.lt_trans h f.infRung_lt
  obtain ⟨h1, h2⟩ := word_split f neg hs
  unfold Ieee.Format.read
  simp only [h1, h2]
  by_cases c : r < f.binade
  · rw [if_pos c]
    refine ⟨_, _, rfl, Int.le_refl _, ?_⟩
    rw [show (f.leastPlace - f.leastPlace).toNat = 0 from by omega]
    unfold rv Ieee.Format.binade at *; rw [if_pos c]; omega
  · rw [if_neg c, if_pos h]
    refine ⟨_, _, rfl, by omega, ?_⟩
    rw [show (f.leastPlace + ((r / f.binade - 1 : Nat) : Int) - f.leastPlace).toNat = r / f.binade - 1 from by omega]
    unfold rv Ieee.Format.binade at *; rw [if_neg c]

theorem read_inf (hb : f.binade ≤ f.infRung) (neg : Bool) : f.read (f.word neg f.infRung) = .infinity neg := by
  obtain ⟨h1, h2⟩ := word_split f neg f.infRung_lt
  unfold Ieee.Format.read
  simp only [h1, h2]
  rw [if_neg (by omega), if_neg (Nat.lt_irrefl _), if_pos trivial]

theorem read_nan (hb : f.binade ≤ f.infRung) (neg : Bool) {r : Nat} (h : f.infRung < r) (hs : r < f.signWeight) : f.read (f.word neg r) = .nan neg (r - f.infRung) := by
  obtain ⟨h1, h2⟩ := word_split f neg hs
  unfold Ieee.Format.read
  simp only [h1, h2]
  rw [if_neg (by omega), if_neg (by omega), if_neg (by omega)]

theorem signed_scale (neg : Bool) (m a b : Nat) : Ieee.signed neg m a * (2 ^ b : Nat) = sg neg (m * 2 ^ (a + b)) := by
  unfold Ieee.signed sg
  rw [Nat.shiftLeft_eq, Nat.pow_add, ← Nat.mul_assoc]
  cases neg <;> simp [Int.neg_mul]

theorem cmp_scale (a b : Int) (c : Nat) (hc : 0 < c) : compare (a * c) (b * c) = compare a b := by
  have hc' : (0 : Int) < (c : Int) := by omega
  rcases Int.lt_trichotomy a b with h | h | h
  · have h2 : a * c < b * c := Int.mul_lt_mul_of_pos_right h hc'
    rw [Int.compare_eq_lt.2 h, Int.compare_eq_lt.2 h2]
  · subst h; rw [Int.compare_eq_eq.2 rfl, Int.compare_eq_eq.2 rfl]
  · have h2 : b * c < a * c := Int.mul_lt_mul_of_pos_right h hc'
    rw [Int.compare_eq_gt.2 h, Int.compare_eq_gt.2 h2]

theorem order_fin (s t : Bool) {r q : Nat} (hr : r < f.infRung) (hq : q < f.infRung) :
    f.order (f.word s r) (f.word t q) = some (compare (sg s (rv f.fractionBits r)) (sg t (rv f.fractionBits q))) := by
  obtain ⟨m, i, h1, h2, h3⟩ := read_fin f s hr
  obtain ⟨n, j, k1, k2, k3⟩ := read_fin f t hq
  unfold Ieee.Format.order
  rw [h1, k1]
  simp only [Ieee.Datum.order]
  rw [← h3, ← k3]
  generalize hb : min i j = base
  have hbL : f.leastPlace ≤ base := by omega
  rw [← cmp_scale _ _ (2 ^ (base - f.leastPlace).toNat) (Nat.two_pow_pos _), signed_scale, signed_scale,
    show (i - base).toNat + (base - f.leastPlace).toNat = (i - f.leastPlace).toNat from by omega,
    show (j - base).toNat + (base - f.leastPlace).toNat = (j - f.leastPlace).toNat from by omega]

theorem signed_neg (s : Bool) (m a : Nat) : Ieee.signed (!s) m a = - Ieee.signed s m a := by
  cases s <;> simp [Ieee.signed]
theorem sg_neg (s : Bool) (m : Nat) : sg (!s) m = - sg s m := by
  cases s <;> simp [sg]

/-- the word of an exact whole number of units, rounded; a zero has the sign z -/
def roundInt (z : Bool) (total : Int) : Nat := f.word (if total = 0 then z else decide (total < 0)) (min (RU f.fractionBits total.natAbs 0) f.infRung)

theorem sum_write (s t : Bool) {m n : Nat} {i j : Int} {A B : Nat} (h2 : f.leastPlace ≤ i) (h3 : m * 2 ^ (i - f.leastPlace).toNat = A) (k2 : f.leastPlace ≤ j) (k3 : n * 2 ^ (j - f.leastPlace).toNat = B) :
    ((Ieee.Datum.number s m i).sum (.number t n j)).map f.write = some (roundInt f (s && t) (sg s A + sg t B)) := by
  simp only [Ieee.Datum.sum, Option.map_some, Ieee.Format.write]
  rw [nearest_eq]
  generalize hb : min i j = base
  have hbL : f.leastPlace ≤ base := by omega
  generalize hT : Ieee.signed s m (i - base).toNat + Ieee.signed t n (j - base).toNat = T
  have hsc : T * (2 ^ (base - f.leastPlace).toNat : Nat) = sg s A + sg t B := by
    rw [← hT, Int.add_mul, signed_scale, signed_scale,
      show (i - base).toNat + (base - f.leastPlace).toNat = (i - f.leastPlace).toNat from by omega,
      show (j - base).toNat + (base - f.leastPlace).toNat = (j - f.leastPlace).toNat from by omega, h3, k3]
  have hpos : (0 : Int) < ((2 ^ (base - f.leastPlace).toNat : Nat) : Int) := by have := Nat.two_pow_pos (base - f.leastPlace).toNat; omega
  rw [← hsc]
  unfold roundInt
  rw [show (f.leastPlace - base).toNat = 0 from by omega, Int.natAbs_mul, Int.natAbs_natCast]
  have e0 : (T * (2 ^ (base - f.leastPlace).toNat : Nat) = 0) ↔ T = 0 := by
    constructor
    · intro h
      rcases Int.mul_eq_zero.1 h with h | h
      · exact h
      · omega
    · intro h; rw [h, Int.zero_mul]
  have e1 : (T * (2 ^ (base - f.leastPlace).toNat : Nat) < 0) ↔ T < 0 := by
    constructor
    · intro h
      refine Int.not_le.1 fun hle => ?_
      have := Int.mul_nonneg hle (Int.le_of_lt hpos)
      omega
    · intro h
      have := Int.mul_lt_mul_of_pos_right h hpos
      rwa [Int.zero_mul] at this
  by_cases c : T = 0
  · rw [if_pos c, if_pos (e0.2 c)]
  · rw [if_neg c, if_neg (fun h => c (e0.1 h))]
    congr 2
    simp only [e1]

theorem add_fin (s t : Bool) {r q : Nat} (hr : r < f.infRung) (hq : q < f.infRung) :
    f.add (f.word s r) (f.word t q) = some (roundInt f (s && t) (sg s (rv f.fractionBits r) + sg t (rv f.fractionBits q))) := by
  obtain ⟨m, i, h1, h2, h3⟩ := read_fin f s hr
  obtain ⟨n, j, k1, k2, k3⟩ := read_fin f t hq
  unfold Ieee.Format.add
  rw [h1, k1]
  exact sum_write f s t h2 h3 k2 k3

theorem sub_fin (s t : Bool) {r q : Nat} (hr : r < f.infRung) (hq : q < f.infRung) :
    f.sub (f.word s r) (f.word t q) = some (roundInt f (s && !t) (sg s (rv f.fractionBits r) - sg t (rv f.fractionBits q))) := by
  obtain ⟨m, i, h1, h2, h3⟩ := read_fin f s hr
  obtain ⟨n, j, k1, k2, k3⟩ := read_fin f t hq
  unfold Ieee.Format.sub
  rw [h1, k1]
  have := sum_write f s (!t) h2 h3 k2 k3
  rw [sg_neg] at this
  exact this

theorem mul_fin (hL : f.leastPlace ≤ 0) (s t : Bool) {r q : Nat} (hr : r < f.infRung) (hq : q < f.infRung) :
    f.mul (f.word s r) (f.word t q) = some (f.word (s ^^ t) (min (RU f.fractionBits (rv f.fractionBits r * rv f.fractionBits q) (-f.leastPlace).toNat) f.infRung)) := by
  obtain ⟨m, i, h1, h2, h3⟩ := read_fin f s hr
  obtain ⟨n, j, k1, k2, k3⟩ := read_fin f t hq
  unfold Ieee.Format.mul
  rw [h1, k1]
  simp only [Ieee.Datum.product, Option.map_some, Ieee.Format.write]
  rw [nearest_eq, ← h3, ← k3]
  generalize f.leastPlace = L at *
  generalize f.fractionBits = p
  congr 3
  obtain ⟨a, ha⟩ := Int.eq_ofNat_of_zero_le (Int.sub_nonneg_of_le h2)
  obtain ⟨b, hb⟩ := Int.eq_ofNat_of_zero_le (Int.sub_nonneg_of_le k2)
  obtain ⟨K, hK⟩ := Int.eq_ofNat_of_zero_le (Int.neg_nonneg_of_nonpos hL)
  obtain rfl : i = L + a := by omega
  obtain rfl : j = L + b := by omega
  obtain rfl : L = -(K : Int) := by omega
  rw [show (-(K : Int) + (a : Int) + (-(K : Int) + (b : Int)) - -(K : Int)).toNat = a + b - K from by omega,
    show (-(K : Int) - (-(K : Int) + (a : Int) + (-(K : Int) + (b : Int)))).toNat = K - (a + b) from by omega,
    show (-(K : Int) + (a : Int) - -(K : Int)).toNat = a from by omega,
    show (-(K : Int) + (b : Int) - -(K : Int)).toNat = b from by omega, show (- -(K : Int)).toNat = K from by omega]
  have e : m * 2 ^ a * (n * 2 ^ b) = m * n * 2 ^ (a + b) := by rw [Nat.pow_add]; ac_rfl
  rw [e]
  by_cases c : a + b ≤ K
  · rw [show a + b - K = 0 from by omega, Nat.pow_zero, Nat.mul_one]
    rw [show RU p (m * n * 2 ^ (a + b)) K = RU p (m * n * 2 ^ (a + b)) ((K - (a + b)) + (a + b)) from by congr 1; omega, RU_scale]
  · rw [show K - (a + b) = 0 from by omega]
    have := RU_scale p (m * n * 2 ^ (a + b - K)) 0 K
    rw [Nat.zero_add, Nat.mul_assoc, ← Nat.pow_add, show a + b - K + K = a + b from by omega] at this
    exact this.symm
end Go.Proofs.Ytldchcjnepnjnaa
