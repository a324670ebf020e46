/-
  NARROW FLOATS: SUMS, DIFFERENCES, PRODUCTS, QUOTIENTS OF AMOUNTS: that they are none NaN, and where they lie.
  No Go text in it. Conditions: those of each theorem.
-/
import Derived.Test.YtiaflomabgnmaaaG1
namespace Go.Proofs.Ytiaflomabgnmaaa
open Go

def addB (x y : Nat) : Nat := (S32.add x y).getD 0
def subB (x y : Nat) : Nat := (S32.sub x y).getD 0
def mulB (x y : Nat) : Nat := (S32.mul x y).getD 0
def divB (x y : Nat) : Nat := (S32.div x y).getD 0

theorem roundInt_nat (n : Nat) : roundInt S32 false (n : Int) = min (RU 23 n 0) 2139095040 := by
  unfold roundInt
  have : (if (n : Int) = 0 then false else decide ((n : Int) < 0)) = false := by
    split
    · rfl
    · simp
  rw [this, word_false, s_inf, s_fb, Int.natAbs_natCast]

theorem add_eq {x y : Nat} (hx : x < 2139095040) (hy : y < 2139095040) : floatBits .add .f32 x y = some (addB x y) ∧ addB x y = min (RU 23 (rv 23 x + rv 23 y) 0) 2139095040 := by
  have h := add_fin S32 false false (r := x) (q := y) (by rw [s_inf]; exact hx) (by rw [s_inf]; exact hy)
  rw [word_false, word_false] at h
  have e : sg false (rv S32.fractionBits x) + sg false (rv S32.fractionBits y) = ((rv 23 x + rv 23 y : Nat) : Int) := by simp [sg, s_fb]
  rw [e, Bool.and_self, roundInt_nat] at h
  refine ⟨?_, ?_⟩
  · show S32.add x y = _
    unfold addB
    rw [h, Option.getD_some]
  · unfold addB
    rw [h, Option.getD_some]

theorem sub_eq {x y : Nat} (hx : x < 2139095040) (hy : y ≤ x) : floatBits .sub .f32 x y = some (subB x y) ∧ subB x y = min (RU 23 (rv 23 x - rv 23 y) 0) 2139095040 := by
  have h := sub_fin S32 false false (r := x) (q := y) (by rw [s_inf]; exact hx) (by rw [s_inf]; omega)
  rw [word_false, word_false] at h
  have hle := rv_le (p := 23) hy
  have e : sg false (rv S32.fractionBits x) - sg false (rv S32.fractionBits y) = ((rv 23 x - rv 23 y : Nat) : Int) := by simp [sg, s_fb]; omega
  rw [e, show (false && !false) = false from rfl, roundInt_nat] at h
  refine ⟨?_, ?_⟩
  · show S32.sub x y = _
    unfold subB
    rw [h, Option.getD_some]
  · unfold subB
    rw [h, Option.getD_some]

theorem mul_eq {x y : Nat} (hx : x < 2139095040) (hy : y < 2139095040) : floatBits .mul .f32 x y = some (mulB x y) ∧ mulB x y = min (RU 23 (rv 23 x * rv 23 y) 149) 2139095040 := by
  have h := mul_fin S32 (by rw [s_L]; omega) false false (r := x) (q := y) (by rw [s_inf]; exact hx) (by rw [s_inf]; exact hy)
  rw [word_false, word_false, s_L, s_fb, s_inf, Bool.xor_self, word_false, show (- -149 : Int).toNat = 149 from rfl] at h
  refine ⟨?_, ?_⟩
  · show S32.mul x y = _
    unfold mulB
    rw [h, Option.getD_some]
  · unfold mulB
    rw [h, Option.getD_some]

/-- the quotient's whole number with its sticky digit lies where the quotient lies -/
theorem sticky_le {D n t : Nat} (hn : 0 < n) (h : 2 * D ≤ t * n) : 2 * (D / n) + (D % n != 0).toNat ≤ t := by
  have hd := Nat.div_add_mod D n
  have hr := Nat.mod_lt D hn
  by_cases c : D % n = 0
  · rw [c]
    simp only [bne_self_eq_false, Bool.toNat_false, Nat.add_zero]
    rw [c, Nat.add_zero] at hd
    refine Nat.le_of_mul_le_mul_left (c := n) ?_ hn
    rw [Nat.mul_left_comm, hd, Nat.mul_comm n t]; exact h
  · have e : (D % n != 0) = true := by simp [c]
    rw [e, Bool.toNat_true]
    refine Nat.lt_of_mul_lt_mul_left (a := n) ?_
    rw [Nat.mul_left_comm, Nat.mul_comm n t]
    omega
theorem le_sticky {D n t : Nat} (hn : 0 < n) (h : t * n ≤ 2 * D) : t ≤ 2 * (D / n) + (D % n != 0).toNat := by
  have hd := Nat.div_add_mod D n
  have hr := Nat.mod_lt D hn
  by_cases c : D % n = 0
  · rw [c]
    simp only [bne_self_eq_false, Bool.toNat_false, Nat.add_zero]
    rw [c, Nat.add_zero] at hd
    refine Nat.le_of_mul_le_mul_left (c := n) ?_ hn
    rw [Nat.mul_left_comm, hd, Nat.mul_comm n t]; exact h
  · have e : (D % n != 0) = true := by simp [c]
    rw [e, Bool.toNat_true]
    refine Nat.le_of_lt_succ (Nat.lt_of_mul_lt_mul_left (a := n) ?_)
    have e2 : n * (2 * (D / n) + 1).succ = 2 * (n * (D / n)) + 2 * n := by
      rw [Nat.succ_eq_add_one, Nat.mul_add, Nat.mul_add, Nat.mul_left_comm]; omega
    rw [e2, Nat.mul_comm n t]
    omega

theorem div_some {x y : Nat} (hx : x < 2139095040) (hy : y < 2139095040) (h0 : 0 < y) : floatBits .quo .f32 x y = some (divB x y) ∧ divB x y ≤ 2139095040 := by
  obtain ⟨m, i, h1, h2, h3⟩ := read_fin S32 false (r := x) (by rw [s_inf]; exact hx)
  obtain ⟨n, j, k1, k2, k3⟩ := read_fin S32 false (r := y) (by rw [s_inf]; exact hy)
  rw [word_false] at h1 k1
  have hn : n ≠ 0 := by
    intro e; subst e
    rw [Nat.zero_mul] at k3
    have := rv_pos (p := S32.fractionBits) h0
    omega
  have hd : S32.div x y = some (S32.write (.number false (2 * ((m <<< (25 + n.log2 - m.log2)) / n) + ((m <<< (25 + n.log2 - m.log2)) % n != 0).toNat) (i - j - ((25 + n.log2 - m.log2 : Nat) : Int) - 1))) := by
    unfold Ieee.Format.div
    rw [h1, k1]
    simp only [Ieee.Datum.quotient]
    rw [if_neg hn]
    simp only [Option.map_some, Bool.xor_self, s_fb]
  refine ⟨?_, ?_⟩
  · show S32.div x y = _
    unfold divB
    rw [hd, Option.getD_some]
  · unfold divB
    rw [hd, Option.getD_some]
    simp only [Ieee.Format.write]
    rw [nearest_eq, word_false, s_inf]
    exact Nat.min_le_right _ _

/-- the quotient of two amounts, as it is written -/
theorem div_form {x y : Nat} (hx : x < 2139095040) (hy : y < 2139095040) (h0 : 0 < y) : ∃ m a n b M : Nat, n ≠ 0 ∧ m * 2 ^ a = rv 23 x ∧ n * 2 ^ b = rv 23 y ∧ (m ≠ 0 → 2 ^ (25 + n.log2) ≤ m * 2 ^ M) ∧
    divB x y = min (RU 23 ((2 * (m * 2 ^ M / n) + (m * 2 ^ M % n != 0).toNat) * 2 ^ (a + 148 - (b + M))) (b + M - (a + 148))) 2139095040 := by
  obtain ⟨m, i, h1, h2, h3⟩ := read_fin S32 false (r := x) (by rw [s_inf]; exact hx)
  obtain ⟨n, j, k1, k2, k3⟩ := read_fin S32 false (r := y) (by rw [s_inf]; exact hy)
  rw [word_false] at h1 k1
  rw [s_L] at h2 h3 k2 k3
  rw [s_fb] at h3 k3
  have hn : n ≠ 0 := by
    intro e; subst e
    rw [Nat.zero_mul] at k3
    have := rv_pos (p := 23) h0
    omega
  refine ⟨m, (i - -149).toNat, n, (j - -149).toNat, 25 + n.log2 - m.log2, hn, h3, k3, ?_, ?_⟩
  · intro hm
    have e1 := Nat.log2_self_le hm
    have e2 : 2 ^ (m.log2 + (25 + n.log2 - m.log2)) ≤ m * 2 ^ (25 + n.log2 - m.log2) := by rw [Nat.pow_add]; exact Nat.mul_le_mul_right _ e1
    exact Nat.le_trans (Nat.pow_le_pow_right (by omega) (by omega)) e2
  · have hd : S32.div x y = some (S32.write (.number false (2 * ((m <<< (25 + n.log2 - m.log2)) / n) + ((m <<< (25 + n.log2 - m.log2)) % n != 0).toNat) (i - j - ((25 + n.log2 - m.log2 : Nat) : Int) - 1))) := by
      unfold Ieee.Format.div
      rw [h1, k1]
      simp only [Ieee.Datum.quotient]
      rw [if_neg hn]
      simp only [Option.map_some, Bool.xor_self, s_fb]
    unfold divB
    rw [hd, Option.getD_some]
    simp only [Ieee.Format.write]
    rw [nearest_eq, word_false, s_inf, s_L, s_fb, Nat.shiftLeft_eq]
    generalize 25 + n.log2 - m.log2 = M
    rw [show (i - j - (M : Int) - 1 - -149).toNat = (i - -149).toNat + 148 - ((j - -149).toNat + M) from by omega, show (-149 - (i - j - (M : Int) - 1)).toNat = (j - -149).toNat + M - ((i - -149).toNat + 148) from by omega]

/-- a rung's value as a whole number times a power, with few digits -/
theorem rv_form (c : Nat) : ∃ T E, rv 23 c = T * 2 ^ E ∧ T < 2 ^ 24 := by
  unfold rv
  by_cases h : c < 2 ^ 23
  · rw [if_pos h]; exact ⟨c, 0, by omega, by omega⟩
  · rw [if_neg h]
    exact ⟨2 ^ 23 + c % 2 ^ 23, c / 2 ^ 23 - 1, rfl, by have := Nat.mod_lt c (show 0 < 2 ^ 23 by decide); omega⟩

theorem pow_cut {a b : Nat} (h : b ≤ a) : 2 ^ a = 2 ^ (a - b) * 2 ^ b := by rw [← Nat.pow_add]; congr 1; omega

/-- the arithmetic of a quotient's bound, over any least place -/
theorem div_le_arith {m a n b M c K P : Nat} (hn : 0 < n) (h3 : m ≠ 0 → 2 ^ (25 + n.log2) ≤ m * 2 ^ M) (hP : P = 2 * 2 ^ K) (h : m * 2 ^ a * P ≤ rv 23 c * (n * 2 ^ b)) :
    RU 23 ((2 * (m * 2 ^ M / n) + (m * 2 ^ M % n != 0).toNat) * 2 ^ (a + K - (b + M))) (b + M - (a + K)) ≤ c := by
  subst hP
  refine RU_le ?_
  rcases Nat.le_total (b + M) (a + K) with k | k
  · rw [show b + M - (a + K) = 0 from by omega, Nat.pow_zero, Nat.mul_one]
    obtain ⟨d, hd⟩ := Nat.exists_eq_add_of_le k
    rw [show a + K - (b + M) = d from by omega]
    have h' : 2 * (m * 2 ^ M) * 2 ^ d ≤ rv 23 c * n := by
      refine Nat.le_of_mul_le_mul_right (c := 2 ^ b) ?_ (Nat.two_pow_pos b)
      have e1 : 2 * (m * 2 ^ M) * 2 ^ d * 2 ^ b = m * 2 ^ a * (2 * 2 ^ K) := by
        have e2 : (2 : Nat) ^ M * 2 ^ d * 2 ^ b = 2 ^ a * 2 ^ K := by rw [← Nat.pow_add, ← Nat.pow_add, ← Nat.pow_add]; congr 1; omega
        calc 2 * (m * 2 ^ M) * 2 ^ d * 2 ^ b = 2 * m * (2 ^ M * 2 ^ d * 2 ^ b) := by ac_rfl
          _ = 2 * m * (2 ^ a * 2 ^ K) := by rw [e2]
          _ = m * 2 ^ a * (2 * 2 ^ K) := by ac_rfl
      rw [e1, Nat.mul_assoc (rv 23 c)]; exact h
    obtain ⟨T, E, hT, hTl⟩ := rv_form c
    rcases Nat.le_total d E with e | e
    · rw [hT, pow_cut e, ← Nat.mul_assoc]
      refine Nat.mul_le_mul_right _ (sticky_le hn ?_)
      rw [hT, pow_cut e] at h'
      refine Nat.le_of_mul_le_mul_right (c := 2 ^ d) ?_ (Nat.two_pow_pos d)
      have : T * (2 ^ (E - d) * 2 ^ d) * n = T * 2 ^ (E - d) * n * 2 ^ d := by ac_rfl
      rw [← this]; exact h'
    · by_cases hm : m = 0
      · subst hm
        rw [Nat.zero_mul, Nat.zero_div, Nat.zero_mod, show (2 * 0 + ((0 : Nat) != 0).toNat) = 0 from rfl, Nat.zero_mul]
        exact Nat.zero_le _
      · exfalso
        have h5 := h3 hm
        have h6 : n < 2 ^ (n.log2 + 1) := Nat.lt_log2_self
        have h7 : rv 23 c < 2 ^ (24 + d) := by
          rw [hT, Nat.pow_add]
          exact Nat.lt_of_lt_of_le ((Nat.mul_lt_mul_right (Nat.two_pow_pos E)).2 hTl) (Nat.mul_le_mul_left _ (Nat.pow_le_pow_right (by omega) e))
        have h8 : 2 * 2 ^ (25 + n.log2) * 2 ^ d ≤ 2 * (m * 2 ^ M) * 2 ^ d := Nat.mul_le_mul_right _ (Nat.mul_le_mul_left _ h5)
        have h9 : rv 23 c * n < 2 ^ (24 + d) * 2 ^ (n.log2 + 1) := Nat.mul_lt_mul_of_lt_of_le h7 (Nat.le_of_lt h6) (Nat.two_pow_pos _)
        have e1 : 2 * 2 ^ (25 + n.log2) * 2 ^ d = 2 * (2 ^ (24 + d) * 2 ^ (n.log2 + 1)) := by
          rw [Nat.mul_assoc, ← Nat.pow_add, ← Nat.pow_add]; congr 2; omega
        omega
  · rw [show a + K - (b + M) = 0 from by omega, Nat.pow_zero, Nat.mul_one]
    obtain ⟨d, hd⟩ := Nat.exists_eq_add_of_le k
    rw [show b + M - (a + K) = d from by omega]
    refine sticky_le hn ?_
    refine Nat.le_of_mul_le_mul_right (c := 2 ^ (a + K)) ?_ (Nat.two_pow_pos _)
    have e1 : 2 * (m * 2 ^ M) * 2 ^ (a + K) = m * 2 ^ a * (2 * 2 ^ K) * 2 ^ M := by
      rw [Nat.pow_add 2 a K]; ac_rfl
    have e2 : rv 23 c * 2 ^ d * n * 2 ^ (a + K) = rv 23 c * (n * 2 ^ b) * 2 ^ M := by
      have e3 : (2 : Nat) ^ d * 2 ^ (a + K) = 2 ^ b * 2 ^ M := by rw [← Nat.pow_add, ← Nat.pow_add]; congr 1; omega
      calc rv 23 c * 2 ^ d * n * 2 ^ (a + K) = rv 23 c * n * (2 ^ d * 2 ^ (a + K)) := by ac_rfl
        _ = rv 23 c * n * (2 ^ b * 2 ^ M) := by rw [e3]
        _ = rv 23 c * (n * 2 ^ b) * 2 ^ M := by ac_rfl
    rw [e1, e2]
    exact Nat.mul_le_mul_right _ h

theorem div_le {x y c : Nat} (hx : x < 2139095040) (hy : y < 2139095040) (h0 : 0 < y) (h : rv 23 x * 2 ^ 149 ≤ rv 23 c * rv 23 y) : divB x y ≤ c := by
  obtain ⟨m, a, n, b, M, hn, h1, h2, h3, h4⟩ := div_form hx hy h0
  rw [h4]
  have hn' : 0 < n := by omega
  rw [← h1, ← h2] at h
  have key := div_le_arith (K := 148) hn' h3 (by decide : (2 : Nat) ^ 149 = 2 * 2 ^ 148) h
  exact Nat.le_trans (Nat.min_le_left _ _) key

/-- amounts, infinity too, and their closure -/
theorem add_amt {x y : Nat} (hx : x < 2139095040) (hy : y < 2139095040) : addB x y ≤ 2139095040 := by rw [(add_eq hx hy).2]; omega
theorem mul_amt {x y : Nat} (hx : x < 2139095040) (hy : y < 2139095040) : mulB x y ≤ 2139095040 := by rw [(mul_eq hx hy).2]; omega

theorem add_le {x y c : Nat} (hx : x < 2139095040) (hy : y < 2139095040) (h : rv 23 x + rv 23 y ≤ rv 23 c) : addB x y ≤ c := by
  rw [(add_eq hx hy).2]
  have := RU_le (p := 23) (mag := rv 23 x + rv 23 y) (D := 0) (r := c) (by simpa using h)
  omega
theorem le_add {x y c : Nat} (hx : x < 2139095040) (hy : y < 2139095040) (hc : c ≤ 2139095040) (h : rv 23 c ≤ rv 23 x + rv 23 y) : c ≤ addB x y := by
  rw [(add_eq hx hy).2]
  have := le_RU (p := 23) (mag := rv 23 x + rv 23 y) (D := 0) (r := c) (by simpa using h)
  omega
theorem sub_le {x y : Nat} (hx : x < 2139095040) (hy : y ≤ x) : subB x y ≤ x := by
  rw [(sub_eq hx hy).2]
  have := RU_le (p := 23) (mag := rv 23 x - rv 23 y) (D := 0) (r := x) (by simp)
  omega
theorem mul_le {x y c : Nat} (hx : x < 2139095040) (hy : y < 2139095040) (h : rv 23 x * rv 23 y ≤ rv 23 c * 2 ^ 149) : mulB x y ≤ c := by
  rw [(mul_eq hx hy).2]
  have := RU_le (p := 23) (D := 149) h
  omega

/-- 1.0 is 2^149 units -/
theorem rv_one : rv 23 1065353216 = 2 ^ 149 := by decide
/-- a product with a share is at most the other number -/
theorem mul_share {x y : Nat} (hx : x ≤ 1065353216) (hy : y < 2139095040) : mulB x y ≤ y := by
  refine mul_le (by omega) hy ?_
  have := rv_le (p := 23) hx
  rw [rv_one] at this
  rw [Nat.mul_comm]
  exact Nat.mul_le_mul_left _ this

/-- the pace and gaps' speed added: at most 2, and more than nothing -/
theorem sum_rule {p b : Nat} (hp : 1015021568 ≤ p ∧ p ≤ 1065353216) (hb : 1015021568 ≤ b ∧ b ≤ 1065353216) : addB p b ≤ 1073741824 ∧ p ≤ addB p b ∧ b ≤ addB p b := by
  refine ⟨?_, ?_, ?_⟩
  · refine add_le (by omega) (by omega) ?_
    have h1 := rv_le (p := 23) hp.2
    have h2 := rv_le (p := 23) hb.2
    have h3 : rv 23 1065353216 + rv 23 1065353216 = rv 23 1073741824 := by decide
    omega
  · exact le_add (by omega) (by omega) (by omega) (by omega)
  · exact le_add (by omega) (by omega) (by omega) (by omega)

/-- the best share: at most 1 -/
theorem best_le {p b : Nat} (hp : 1015021568 ≤ p ∧ p ≤ 1065353216) (hb : 1015021568 ≤ b ∧ b ≤ 1065353216) : divB b (addB p b) ≤ 1065353216 := by
  obtain ⟨h1, h2, h3⟩ := sum_rule hp hb
  refine div_le (by omega) (by omega) (by omega) ?_
  rw [rv_one, Nat.mul_comm]
  exact Nat.mul_le_mul_left _ (rv_le h3)

/-- min of two amounts -/
theorem run_min_amt {P : Program} (w : World) (ts : Array TypeId) (t : TypeId) {x y : Nat} (hx : x ≤ 2139095040) (hy : y ≤ 2139095040) :
    (Builtin.min_ ts t #[.float .f32 x, .float .f32 y]).run P w = .ok (.float .f32 (min x y)) w := by
  have ho := order_amt hx hy
  rcases Nat.lt_trichotomy x y with h | h | h
  · rw [Nat.compare_eq_lt.2 h] at ho
    simp [Builtin.min_, Builtin.min2, ho, Nat.min_eq_left (Nat.le_of_lt h)]
  · subst h
    rw [Nat.compare_eq_eq.2 rfl] at ho
    simp [Builtin.min_, Builtin.min2, ho]
  · rw [Nat.compare_eq_gt.2 h] at ho
    simp [Builtin.min_, Builtin.min2, ho, Nat.min_eq_right (Nat.le_of_lt h)]

/-- 1 less a share -/
theorem one_sub {a : Nat} (h : a ≤ 1065353216) : floatBits .sub .f32 1065353216 a = some (subB 1065353216 a) ∧ subB 1065353216 a ≤ 1065353216 :=
  ⟨(sub_eq (by omega) h).1, sub_le (by omega) h⟩
theorem mul_one_le {x y : Nat} (hx : x ≤ 1065353216) (hy : y ≤ 1065353216) : floatBits .mul .f32 x y = some (mulB x y) ∧ mulB x y ≤ 1065353216 := by
  refine ⟨(mul_eq (by omega) (by omega)).1, ?_⟩
  have := mul_share hx (y := y) (by omega)
  omega

theorem read_amt {x : Nat} (h : x ≤ 2139095040) : (x = 2139095040 ∧ S32.read x = .infinity false) ∨ (x < 2139095040 ∧ ∃ m i, S32.read x = .number false m i ∧ (0 < x → m ≠ 0)) := by
  by_cases c : x = 2139095040
  · subst c; exact .inl ⟨rfl, read_inf_pos⟩
  · obtain ⟨m, i, h1, h2, h3⟩ := read_fin S32 false (r := x) (by rw [s_inf]; omega)
    rw [word_false] at h1
    refine .inr ⟨by omega, m, i, h1, fun h0 e => ?_⟩
    subst e
    have := rv_pos (p := S32.fractionBits) h0
    omega

/-- sums of amounts, infinity too -/
theorem add_any {x y : Nat} (hx : x ≤ 2139095040) (hy : y ≤ 2139095040) : floatBits .add .f32 x y = some (addB x y) ∧ addB x y ≤ 2139095040 := by
  rcases read_amt hx with ⟨ex, rx⟩ | ⟨lx, m, i, rx, -⟩
  · have : S32.add x y = some 2139095040 := by
      unfold Ieee.Format.add
      rcases read_amt hy with ⟨ey, ry⟩ | ⟨ly, n, j, ry, -⟩ <;> rw [rx, ry] <;> first | decide | (simp only [Ieee.Datum.sum]; decide)
    exact ⟨by show S32.add x y = _; unfold addB; rw [this, Option.getD_some], by unfold addB; rw [this, Option.getD_some]; omega⟩
  · rcases read_amt hy with ⟨ey, ry⟩ | ⟨ly, n, j, ry, -⟩
    · have : S32.add x y = some 2139095040 := by
        unfold Ieee.Format.add
        rw [rx, ry]
        simp only [Ieee.Datum.sum]
        decide
      exact ⟨by show S32.add x y = _; unfold addB; rw [this, Option.getD_some], by unfold addB; rw [this, Option.getD_some]; omega⟩
    · exact ⟨(add_eq lx ly).1, add_amt lx ly⟩

/-- products of an amount, infinity too, and of a finite number above 0 -/
theorem mul_any {x y : Nat} (hx : x ≤ 2139095040) (hy : y < 2139095040) (h0 : 0 < y) : floatBits .mul .f32 x y = some (mulB x y) ∧ mulB x y ≤ 2139095040 := by
  rcases read_amt hx with ⟨ex, rx⟩ | ⟨lx, m, i, rx, -⟩
  · rcases read_amt (Nat.le_of_lt hy) with ⟨ey, ry⟩ | ⟨ly, n, j, ry, hn⟩
    · omega
    · have : S32.mul x y = some 2139095040 := by
        unfold Ieee.Format.mul
        rw [rx, ry]
        simp only [Ieee.Datum.product]
        rw [if_neg (hn h0)]
        decide
      exact ⟨by show S32.mul x y = _; unfold mulB; rw [this, Option.getD_some], by unfold mulB; rw [this, Option.getD_some]; omega⟩
  · exact ⟨(mul_eq lx hy).1, mul_amt lx hy⟩
end Go.Proofs.Ytiaflomabgnmaaa
