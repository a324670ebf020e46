/-
  NARROW FLOATS: quotients of numbers of either sign, and why the speed of a border is finite.
  No Go text in it. Conditions: those of each theorem.
-/
import Derived.Test.YtiaflomabgnmaaaG11
namespace Go.Proofs.Ytiaflomabgnmaaa
open Go

/-- the digits and the place of a finite number, whatever its sign -/
def mOf (r : Nat) : Nat := if r < 8388608 then r else 8388608 + r % 8388608

def aOf (r : Nat) : Nat := if r < 8388608 then 0 else r / 8388608 - 1

theorem read_at (neg : Bool) {r : Nat} (h : r < 2139095040) : S32.read (S32.word neg r) = .number neg (mOf r) ((aOf r : Int) - 149) := by
  have hs : r < S32.signWeight := by rw [s_sw]; omega
  obtain ⟨h1, h2⟩ := word_split S32 neg hs
  have hb : S32.binade = 8388608 := by decide
  unfold Ieee.Format.read
  simp only [h1, h2]
  rw [s_L, s_inf, hb]
  unfold mOf aOf
  by_cases c : r < 8388608
  · rw [if_pos c, if_pos c, if_pos c]; rfl
  · rw [if_neg c, if_pos h, if_neg c, if_neg c]
    congr 1

theorem mOf_pos {r : Nat} (h : 0 < r) : mOf r ≠ 0 := by unfold mOf; split <;> omega

/-- a quotient's sign and size -/
theorem div_word (s t : Bool) {r q : Nat} (hr : r < 2139095040) (hq : q < 2139095040) (h0 : 0 < q) : S32.div (S32.word s r) (S32.word t q) = some (S32.word (s ^^ t) (divB r q)) := by
  have gen : ∀ s t : Bool, S32.div (S32.word s r) (S32.word t q) = some (S32.write (.number (s ^^ t) (2 * ((mOf r <<< (25 + (mOf q).log2 - (mOf r).log2)) / mOf q) + ((mOf r <<< (25 + (mOf q).log2 - (mOf r).log2)) % mOf q != 0).toNat) (((aOf r : Int) - 149) - ((aOf q : Int) - 149) - ((25 + (mOf q).log2 - (mOf r).log2 : Nat) : Int) - 1))) := by
    intro s t
    unfold Ieee.Format.div
    rw [read_at s hr, read_at t hq]
    simp only [Ieee.Datum.quotient]
    rw [if_neg (mOf_pos h0)]
    simp only [Option.map_some, s_fb]
  have h1 := gen false false
  rw [word_false, word_false] at h1
  rw [gen s t]
  unfold divB
  rw [h1, Option.getD_some]
  simp only [Ieee.Format.write, Bool.xor_self]
  rw [nearest_eq, nearest_eq, word_false]

def magB (v : Nat) : Nat := v % 2147483648

def negB (v : Nat) : Bool := decide (2147483648 ≤ v)

/-- the quotient of two numbers of either sign -/
def quoB (x y : Nat) : Nat := S32.word (negB x ^^ negB y) (divB (magB x) (magB y))

theorem quo_eq {x y : Nat} (hx : x < 4294967296) (hy : y < 4294967296) (fx : magB x < 2139095040) (fy : magB y < 2139095040) (h0 : 0 < magB y) : floatBits .quo .f32 x y = some (quoB x y) := by
  have e := div_word (negB x) (negB y) fx fy h0
  show S32.div x y = _
  unfold quoB
  rw [← e]
  unfold negB magB
  rw [← split32 hx, ← split32 hy]

theorem word_lt (s : Bool) {r : Nat} (h : r ≤ 2139095040) : S32.word s r < 4294967296 ∧ S32.word s r % 2147483648 = r := by
  have hs : r < S32.signWeight := by rw [s_sw]; omega
  have := (word_split S32 s hs).1
  rw [s_sw] at this
  refine ⟨?_, this⟩
  cases s
  · rw [word_false]; omega
  · rw [word_true, s_sw]; omega

theorem quo_fin {x y : Nat} (h : divB (magB x) (magB y) < 2139095040) : quoB x y < 4294967296 ∧ nanB (quoB x y) = false ∧ finB (quoB x y) = true := by
  obtain ⟨h1, h2⟩ := word_lt (negB x ^^ negB y) (Nat.le_of_lt h)
  refine ⟨h1, ?_, ?_⟩
  · unfold nanB quoB; rw [h2]; exact decide_eq_false (by omega)
  · unfold finB quoB; rw [h2]; exact decide_eq_true h

theorem mag_dif {x y : Nat} (hx : x < 2139095040) (hy : y < 2139095040) : magB (difB x y) = if y ≤ x then subB x y else subB y x := by
  unfold magB difB
  by_cases c : y ≤ x
  · rw [if_pos c, if_pos c]; have := sub_le hx c; exact Nat.mod_eq_of_lt (by omega)
  · rw [if_neg c, if_neg c]; have := sub_le hy (show x ≤ y by omega)
    rw [Nat.add_mod_left]; exact Nat.mod_eq_of_lt (by omega)

/-- the next number up is a rung's width away -/
theorem rv_succ {r : Nat} (h : 8388608 ≤ r) : rv 23 (r + 1) = rv 23 r + 2 ^ (r / 8388608 - 1) := by
  unfold rv
  rw [if_neg (by omega), if_neg (by omega), show (2 : Nat) ^ 23 = 8388608 from rfl]
  by_cases c : (r + 1) % 8388608 = 0
  · have e1 : (r + 1) / 8388608 = r / 8388608 + 1 := by omega
    have e2 : r % 8388608 = 8388607 := by omega
    obtain ⟨q, hq⟩ : ∃ q, r / 8388608 = q + 1 := ⟨r / 8388608 - 1, by omega⟩
    rw [c, e1, e2, hq, show q + 1 + 1 - 1 = q + 1 from rfl, show q + 1 - 1 = q from rfl, Nat.pow_succ]
    omega
  · have e1 : (r + 1) / 8388608 = r / 8388608 := by omega
    have e2 : (r + 1) % 8388608 = r % 8388608 + 1 := by omega
    rw [e1, e2, ← Nat.add_assoc, Nat.add_mul _ 1, Nat.one_mul]

theorem rv_gapQ {x y : Nat} (hxy : x < y) (h : 226492416 < y) : rv 23 x + 2 ^ 26 ≤ rv 23 y := by
  obtain ⟨z, hz1, hz2, hz3⟩ : ∃ z, x ≤ z ∧ 226492416 ≤ z ∧ z + 1 ≤ y := by
    rcases Nat.le_total x 226492416 with c | c
    · exact ⟨226492416, c, Nat.le_refl _, h⟩
    · exact ⟨x, Nat.le_refl _, c, hxy⟩
  have h1 := rv_le (p := 23) hz1
  have h2 := rv_le (p := 23) hz3
  rw [rv_succ (by omega)] at h2
  have h3 : (2 : Nat) ^ 26 ≤ 2 ^ (z / 8388608 - 1) := Nat.pow_le_pow_right (by omega) (by omega)
  omega

/-- the quotient of what flows differently by what two shares differ is finite -/
theorem wave_fin {a b f g : Nat} (ha : a ≤ 1065353216) (hb : b ≤ 1065353216) (hf : f ≤ a) (hg : g ≤ b) (hne : a ≠ b) :
    magB (difB g f) < 2139095040 ∧ magB (difB b a) < 2139095040 ∧ 0 < magB (difB b a) ∧ divB (magB (difB g f)) (magB (difB b a)) < 2139095040 := by
  rw [mag_dif (by omega) (by omega), mag_dif (by omega) (by omega)]
  obtain ⟨M, hM, hM1, hM2⟩ : ∃ M, (if f ≤ g then subB g f else subB f g) = M ∧ M ≤ max a b ∧ M ≤ 1065353216 := by
    refine ⟨_, rfl, ?_⟩
    by_cases c : f ≤ g
    · rw [if_pos c]; have := sub_le (show g < 2139095040 by omega) c; omega
    · rw [if_neg c]; have := sub_le (show f < 2139095040 by omega) (show g ≤ f by omega); omega
  obtain ⟨D, hD, hD1, hD2, hD3⟩ : ∃ D, (if a ≤ b then subB b a else subB a b) = D ∧ 0 < D ∧ D ≤ 1065353216 ∧ (226492416 < max a b → 33554432 ≤ D) := by
    refine ⟨_, rfl, ?_⟩
    have big : ∀ x y : Nat, x < y → y ≤ 1065353216 → 226492416 < y → 33554432 ≤ subB y x := by
      intro x y h1 h2 h3
      rw [(sub_eq (by omega) (Nat.le_of_lt h1)).2]
      have h4 := rv_gapQ h1 h3
      have e : rv 23 33554432 = 2 ^ 26 := by decide
      have := le_RU (p := 23) (mag := rv 23 y - rv 23 x) (D := 0) (r := 33554432) (by rw [e]; clear e; omega)
      clear e h4
      generalize RU 23 (rv 23 y - rv 23 x) 0 = z at this ⊢
      omega
    by_cases c : a ≤ b
    · rw [if_pos c]
      refine ⟨sub_pos (by omega) (by omega), ?_, fun h => big a b (by omega) hb (by omega)⟩
      have := sub_le (show b < 2139095040 by omega) c; omega
    · rw [if_neg c]
      refine ⟨sub_pos (by omega) (by omega), ?_, fun h => big b a (by omega) ha (by omega)⟩
      have := sub_le (show a < 2139095040 by omega) (show b ≤ a by omega); omega
  rw [hM, hD]
  clear hM hD
  refine ⟨by omega, by omega, hD1, ?_⟩
  rcases Nat.lt_or_ge 226492416 (max a b) with c | c
  · have hd := hD3 c
    have h1 : divB M D ≤ 2097152000 := by
      refine div_le (by omega) (by omega) hD1 ?_
      have e1 : rv 23 M ≤ 2 ^ 149 := by have := rv_le (p := 23) hM2; rwa [rv_one] at this
      have e2 : rv 23 33554432 ≤ rv 23 D := rv_le hd
      have e3 : rv 23 33554432 = 2 ^ 26 := by decide
      have e4 : rv 23 2097152000 = 2 ^ 136 * 2 ^ 136 := by decide
      rw [e3] at e2
      rw [e4]
      calc rv 23 M * 2 ^ 149 ≤ 2 ^ 149 * 2 ^ 149 := Nat.mul_le_mul_right _ e1
        _ = 2 ^ 136 * 2 ^ 136 * 2 ^ 26 := by decide
        _ ≤ 2 ^ 136 * 2 ^ 136 * rv 23 D := Nat.mul_le_mul_left _ e2
    exact Nat.lt_of_le_of_lt h1 (by decide)
  · have h1 : divB M D ≤ 1476395008 := by
      refine div_le (by omega) (by omega) hD1 ?_
      have e1 : rv 23 M ≤ rv 23 226492416 := rv_le (by omega)
      have e3 : rv 23 226492416 = 2 ^ 49 := by decide
      have e4 : rv 23 1476395008 = 2 ^ 198 := by decide
      have e5 := rv_pos (p := 23) hD1
      rw [e3] at e1
      rw [e4]
      calc rv 23 M * 2 ^ 149 ≤ 2 ^ 49 * 2 ^ 149 := Nat.mul_le_mul_right _ e1
        _ = 2 ^ 198 * 1 := by decide
        _ ≤ 2 ^ 198 * rv 23 D := Nat.mul_le_mul_left _ e5
    exact Nat.lt_of_le_of_lt h1 (by decide)
end Go.Proofs.Ytiaflomabgnmaaa
