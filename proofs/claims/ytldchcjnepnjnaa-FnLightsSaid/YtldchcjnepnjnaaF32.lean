/-
  NARROW FLOATS AS WORDS: which words are amounts, how they stand to each other; wide ones out of narrow ones.
  No Go text in it. Conditions: those of each theorem.
-/
import Derived.Test.YtldchcjnepnjnaaFltOps
namespace Go.Proofs.Ytldchcjnepnjnaa
open Go

abbrev S32 : Ieee.Format := FloatKind.f32.format
abbrev S64 : Ieee.Format := FloatKind.f64.format
def INF : Nat := 2139095040
def SW : Nat := 2147483648

theorem s_inf : S32.infRung = 2139095040 := by decide
theorem s_sw : S32.signWeight = 2147483648 := by decide
theorem s_fb : S32.fractionBits = 23 := rfl
theorem s_L : S32.leastPlace = -149 := by decide
theorem s_bin : S32.binade ≤ S32.infRung := by decide
theorem d_inf : S64.infRung = 9218868437227405312 := by decide
theorem d_sw : S64.signWeight = 9223372036854775808 := by decide
theorem d_fb : S64.fractionBits = 52 := rfl
theorem d_L : S64.leastPlace = -1074 := by decide
theorem d_bin : S64.binade ≤ S64.infRung := by decide

/-- a word is its sign and its rung -/
theorem split32 {x : Nat} (h : x < 4294967296) : x = S32.word (decide (2147483648 ≤ x)) (x % 2147483648) := by
  by_cases c : 2147483648 ≤ x
  · rw [decide_eq_true c, word_true, s_sw]; omega
  · rw [decide_eq_false c, word_false]; omega

/-- is it a NaN? -/
def nanB (x : Nat) : Bool := decide (2139095040 < x % 2147483648)

theorem order_self (x : Nat) (h : x < 4294967296) : (FloatKind.f32.format.order x x == some .eq) = !nanB x := by
  have hs := split32 h
  have hm : x % 2147483648 < 2147483648 := Nat.mod_lt _ (by omega)
  unfold nanB
  generalize decide (2147483648 ≤ x) = s at hs
  generalize x % 2147483648 = r at hs hm
  subst hs
  by_cases c : 2139095040 < r
  · rw [decide_eq_true c]
    show (S32.order _ _ == some .eq) = _
    unfold Ieee.Format.order
    rw [read_nan S32 s_bin s (by rw [s_inf]; exact c) (by rw [s_sw]; exact hm)]
    rfl
  · rw [decide_eq_false c]
    by_cases c2 : r = 2139095040
    · subst c2
      show (S32.order (S32.word s S32.infRung) (S32.word s S32.infRung) == some .eq) = _
      unfold Ieee.Format.order
      rw [read_inf S32 s_bin s]
      cases s <;> rfl
    · have hf : r < S32.infRung := by rw [s_inf]; omega
      rw [show FloatKind.f32.format = S32 from rfl, order_fin S32 s s hf hf, Int.compare_eq_eq.2 rfl]
      rfl

theorem order_self_ne (x : Nat) (h : x < 4294967296) : (FloatKind.f32.format.order x x != some .eq) = nanB x := by
  show (!(FloatKind.f32.format.order x x == some .eq)) = _
  rw [order_self x h, Bool.not_not]

theorem order_nanL {x y : Nat} (h : x < 4294967296) (c : nanB x = true) : FloatKind.f32.format.order x y = none := by
  have hs := split32 h
  have hm : x % 2147483648 < 2147483648 := Nat.mod_lt _ (by omega)
  unfold nanB at c
  generalize decide (2147483648 ≤ x) = s at hs
  generalize x % 2147483648 = r at hs hm c
  subst hs
  show S32.order _ _ = none
  unfold Ieee.Format.order
  rw [read_nan S32 s_bin s (by rw [s_inf]; simpa using c) (by rw [s_sw]; exact hm)]
  rfl

theorem order_nanR {x y : Nat} (h : y < 4294967296) (c : nanB y = true) : FloatKind.f32.format.order x y = none := by
  have hs := split32 h
  have hm : y % 2147483648 < 2147483648 := Nat.mod_lt _ (by omega)
  unfold nanB at c
  generalize decide (2147483648 ≤ y) = s at hs
  generalize y % 2147483648 = r at hs hm c
  subst hs
  show S32.order _ _ = none
  unfold Ieee.Format.order
  rw [read_nan S32 s_bin s (by rw [s_inf]; simpa using c) (by rw [s_sw]; exact hm)]
  cases S32.read x <;> rfl

theorem compare_nat_int (a b : Nat) : compare (a : Int) (b : Int) = compare a b := by
  rcases Nat.lt_trichotomy a b with h | h | h
  · rw [Nat.compare_eq_lt.2 h, Int.compare_eq_lt.2 (by omega)]
  · subst h; rw [Nat.compare_eq_eq.2 rfl, Int.compare_eq_eq.2 rfl]
  · rw [Nat.compare_eq_gt.2 h, Int.compare_eq_gt.2 (by omega)]

theorem compare_rv (p a b : Nat) : compare (rv p a) (rv p b) = compare a b := by
  rcases Nat.lt_trichotomy a b with h | h | h
  · rw [Nat.compare_eq_lt.2 h, Nat.compare_eq_lt.2 (rv_lt h)]
  · subst h; rw [Nat.compare_eq_eq.2 rfl, Nat.compare_eq_eq.2 rfl]
  · rw [Nat.compare_eq_gt.2 h, Nat.compare_eq_gt.2 (rv_lt h)]

theorem read_inf_pos : S32.read 2139095040 = .infinity false := read_inf S32 s_bin false

/-- amounts (infinity too) stand to each other as their words do -/
theorem order_amt {x y : Nat} (hx : x ≤ 2139095040) (hy : y ≤ 2139095040) : FloatKind.f32.format.order x y = some (compare x y) := by
  show S32.order x y = _
  by_cases cx : x = 2139095040
  · by_cases cy : y = 2139095040
    · subst cx; subst cy
      unfold Ieee.Format.order; rw [read_inf_pos, Nat.compare_eq_eq.2 rfl]; rfl
    · subst cx
      obtain ⟨m, i, h1, -, -⟩ := read_fin S32 false (r := y) (by rw [s_inf]; omega)
      rw [word_false] at h1
      unfold Ieee.Format.order; rw [read_inf_pos, h1, Nat.compare_eq_gt.2 (by omega)]; rfl
  · by_cases cy : y = 2139095040
    · subst cy
      obtain ⟨m, i, h1, -, -⟩ := read_fin S32 false (r := x) (by rw [s_inf]; omega)
      rw [word_false] at h1
      unfold Ieee.Format.order; rw [read_inf_pos, h1, Nat.compare_eq_lt.2 (by omega)]; rfl
    · have := order_fin S32 false false (r := x) (q := y) (by rw [s_inf]; omega) (by rw [s_inf]; omega)
      rw [word_false, word_false] at this
      rw [this]
      show some (compare ((rv S32.fractionBits x : Nat) : Int) ((rv S32.fractionBits y : Nat) : Int)) = _
      rw [compare_nat_int, compare_rv]

/-- a word below 0, against an amount -/
theorem order_neg {r y : Nat} (hr : r ≤ 2139095040) (h0 : 0 < r) (hy : y ≤ 2139095040) : FloatKind.f32.format.order (2147483648 + r) y = some .lt := by
  show S32.order (2147483648 + r) y = _
  by_cases cx : r = 2139095040
  · subst cx
    have h0 := read_inf S32 s_bin true
    rw [word_true, s_sw, s_inf] at h0
    by_cases cy : y = 2139095040
    · subst cy
      unfold Ieee.Format.order; rw [read_inf_pos, h0]; rfl
    · obtain ⟨m, i, h1, -, -⟩ := read_fin S32 false (r := y) (by rw [s_inf]; omega)
      rw [word_false] at h1
      unfold Ieee.Format.order; rw [h0, h1]; rfl
  · by_cases cy : y = 2139095040
    · subst cy
      obtain ⟨m, i, h1, -, -⟩ := read_fin S32 true (r := r) (by rw [s_inf]; omega)
      rw [word_true, s_sw] at h1
      unfold Ieee.Format.order; rw [read_inf_pos, h1]; rfl
    · have := order_fin S32 true false (r := r) (q := y) (by rw [s_inf]; omega) (by rw [s_inf]; omega)
      rw [word_true, word_false, s_sw] at this
      rw [this]
      have hp := rv_pos (p := S32.fractionBits) h0
      rw [Int.compare_eq_lt.2]
      show -((rv S32.fractionBits r : Nat) : Int) < ((rv S32.fractionBits y : Nat) : Int)
      omega

theorem order_negzero {y : Nat} (hy : y ≤ 2139095040) : FloatKind.f32.format.order 2147483648 y = some (compare 0 y) := by
  show S32.order 2147483648 y = _
  by_cases cy : y = 2139095040
  · subst cy
    obtain ⟨m, i, h1, -, -⟩ := read_fin S32 true (r := 0) (by rw [s_inf]; omega)
    rw [word_true, s_sw] at h1
    unfold Ieee.Format.order; rw [read_inf_pos, h1, Nat.compare_eq_lt.2 (by omega)]; rfl
  · have := order_fin S32 true false (r := 0) (q := y) (by rw [s_inf]; omega) (by rw [s_inf]; omega)
    rw [word_true, word_false, s_sw] at this
    rw [this]
    show some (compare (-((rv S32.fractionBits 0 : Nat) : Int)) ((rv S32.fractionBits y : Nat) : Int)) = _
    rw [rv_zero, show (-((0 : Nat) : Int)) = ((0 : Nat) : Int) from rfl, compare_nat_int, show compare 0 (rv S32.fractionBits y) = compare (rv S32.fractionBits 0) (rv S32.fractionBits y) from by rw [rv_zero], compare_rv]

/-! ### wide out of narrow -/
def wideB (x : Nat) : Nat := S64.write (S32.read x)

/-- a power of two that is not reckoned out -/
def P2 (k : Nat) : Nat := 2 ^ k
theorem P2_pos (k : Nat) : 0 < P2 k := Nat.two_pow_pos _
theorem P2_add (a b : Nat) : P2 a * P2 b = P2 (a + b) := (Nat.pow_add 2 a b).symm
theorem P2_mono {a b : Nat} (h : a ≤ b) : P2 a ≤ P2 b := Nat.pow_le_pow_right (by omega) h

theorem rv_pow (p k : Nat) (hk : 1 ≤ k) : rv p (k * 2 ^ p) = P2 p * P2 (k - 1) := by
  have hp : 0 < 2 ^ p := Nat.two_pow_pos p
  have h1 : ¬ k * 2 ^ p < 2 ^ p := by
    have := Nat.mul_le_mul_right (2 ^ p) hk
    omega
  unfold rv
  rw [if_neg h1, Nat.mul_mod_left, Nat.mul_div_cancel _ hp, Nat.add_zero]; rfl

/-- how many of the wide format's least units one of the narrow format's is -/
def P925 : Nat := P2 925
theorem P925_pos : 0 < P925 := P2_pos _
/-- the wide rung of a narrow rung -/
def wideR (r : Nat) : Nat := RU 52 (rv 23 r * P925) 0

theorem wideR_lt {r : Nat} (h : r < 2139095040) : wideR r < 9218868437227405312 := by
  have h1 : rv 23 r ≤ rv 23 (255 * 2 ^ 23) := rv_le (by omega)
  rw [rv_pow 23 255 (by omega), P2_add] at h1
  have h2 : RU 52 (rv 23 r * P925) 0 ≤ 1203 * 2 ^ 52 := by
    refine RU_le ?_
    rw [rv_pow 52 1203 (by omega), Nat.pow_zero, Nat.mul_one, P2_add]
    refine Nat.le_trans (Nat.mul_le_mul_right _ h1) ?_
    rw [show P925 = P2 925 from rfl, P2_add]
    exact P2_mono (by omega)
  have : 1203 * 2 ^ 52 < 9218868437227405312 := by decide
  unfold wideR
  omega

theorem wideR_pos {r : Nat} (h : 0 < r) : 0 < wideR r := by
  have h1 : 1 ≤ RU 52 (rv 23 r * P925) 0 := by
    refine le_RU ?_
    have hv : rv 52 1 = 1 := by unfold rv; rw [if_pos (by decide)]
    rw [hv]
    have := rv_pos (p := 23) h
    have hp := P925_pos
    have := Nat.mul_pos this hp
    omega
  exact h1

theorem wide_fin (s : Bool) {r : Nat} (h : r < 2139095040) : wideB (S32.word s r) = S64.word s (wideR r) := by
  obtain ⟨m, i, h1, h2, h3⟩ := read_fin S32 s (r := r) (by rw [s_inf]; exact h)
  unfold wideB
  rw [h1]
  show S64.nearest s m i = _
  rw [nearest_eq]
  rw [s_L] at h2 h3
  rw [s_fb] at h3
  rw [d_L, d_fb, d_inf]
  have e : m * 2 ^ (i - -1074).toNat = rv 23 r * P925 := by
    rw [← h3, Nat.mul_assoc, show (i - -1074).toNat = (i - -149).toNat + 925 from by omega]
    exact congrArg (m * ·) (P2_add _ _).symm
  rw [e, show (-1074 - i).toNat = 0 from by omega]
  have := wideR_lt h
  unfold wideR at this ⊢
  rw [Nat.min_eq_left (by omega)]

theorem wide_inf (s : Bool) : wideB (S32.word s 2139095040) = S64.word s 9218868437227405312 := by
  unfold wideB
  have := read_inf S32 s_bin s
  rw [s_inf] at this
  rw [this]
  show S64.word s S64.infRung = _
  rw [d_inf]

/-- what a narrow word that is no NaN becomes -/
theorem wide_form {x : Nat} (h : x < 4294967296) (hn : nanB x = false) :
    ∃ R, wideB x = S64.word (decide (2147483648 ≤ x)) R ∧ R ≤ 9218868437227405312 ∧ (R = 0 ↔ x % 2147483648 = 0) := by
  have hs := split32 h
  unfold nanB at hn
  generalize decide (2147483648 ≤ x) = s at hs ⊢
  generalize x % 2147483648 = r at hs hn ⊢
  subst hs
  have hr : r ≤ 2139095040 := by simpa using hn
  by_cases c : r = 2139095040
  · subst c
    exact ⟨_, wide_inf s, Nat.le_refl _, by omega⟩
  · refine ⟨_, wide_fin s (r := r) (by omega), Nat.le_of_lt (wideR_lt (by omega)), ?_⟩
    constructor
    · intro h0
      rcases Nat.eq_zero_or_pos r with z | z
      · exact z
      · have := wideR_pos z; omega
    · intro h0; subst h0; unfold wideR; rw [rv_zero, Nat.zero_mul, RU_zero]

theorem isInf_word (s : Bool) {R : Nat} (h : R < 9218868437227405312) : (S64.read (S64.word s R)).isInfinity = false := by
  obtain ⟨m, i, h1, -, -⟩ := read_fin S64 s (r := R) (by rw [d_inf]; exact h)
  rw [h1]; rfl

theorem widen {x : Nat} (h : x < 4294967296) (hn : nanB x = false) : floatToFloatBits .f32 x .f64 = some (wideB x) := by
  have hs := split32 h
  unfold nanB at hn
  generalize decide (2147483648 ≤ x) = s at hs
  generalize x % 2147483648 = r at hs hn
  subst hs
  have hr : r ≤ 2139095040 := by simpa using hn
  unfold floatToFloatBits
  rw [if_neg (by decide)]
  by_cases c : r = 2139095040
  · subst c
    have := read_inf S32 s_bin s
    rw [s_inf] at this
    show (match S32.read (S32.word s 2139095040) with | _ => _) = _
    unfold wideB
    rw [show FloatKind.f32.decode (S32.word s 2139095040) = S32.read (S32.word s 2139095040) from rfl, this]
    rfl
  · obtain ⟨m, i, h1, -, -⟩ := read_fin S32 s (r := r) (by rw [s_inf]; omega)
    have hw := wide_fin s (r := r) (by omega)
    unfold wideB at hw ⊢
    rw [show FloatKind.f32.decode (S32.word s r) = S32.read (S32.word s r) from rfl]
    rw [h1] at hw ⊢
    simp only
    rw [show FloatKind.f64.encode (.number s m i) = S64.write (.number s m i) from rfl, hw]
    rw [show FloatKind.f64.decode (S64.word s (wideR r)) = S64.read (S64.word s (wideR r)) from rfl, isInf_word s (wideR_lt (by omega))]
    rfl

theorem order64_self (s : Bool) {R : Nat} (h : R ≤ 9218868437227405312) : FloatKind.f64.format.order (S64.word s R) (S64.word s R) = some .eq := by
  show S64.order _ _ = _
  by_cases c : R = 9218868437227405312
  · subst c
    have := read_inf S64 d_bin s
    rw [d_inf] at this
    unfold Ieee.Format.order
    rw [this]
    cases s <;> rfl
  · rw [order_fin S64 s s (r := R) (q := R) (by rw [d_inf]; omega) (by rw [d_inf]; omega), Int.compare_eq_eq.2 rfl]

theorem order64_wide {x : Nat} (h : x < 4294967296) (hn : nanB x = false) : FloatKind.f64.format.order (wideB x) (wideB x) = some .eq := by
  obtain ⟨R, h1, h2, -⟩ := wide_form h hn
  rw [h1]; exact order64_self _ h2

/-! ### comparisons of amounts, as Bools -/
section
variable {x y : Nat} (hx : x ≤ 2139095040) (hy : y ≤ 2139095040)
include hx hy
theorem ge_amt : (FloatKind.f32.format.order x y == some .gt || FloatKind.f32.format.order x y == some .eq) = decide (y ≤ x) := by
  rw [order_amt hx hy]
  rcases Nat.lt_trichotomy x y with h | h | h
  · rw [Nat.compare_eq_lt.2 h, decide_eq_false (by omega)]; rfl
  · rw [Nat.compare_eq_eq.2 h, decide_eq_true (by omega)]; rfl
  · rw [Nat.compare_eq_gt.2 h, decide_eq_true (by omega)]; rfl
theorem le_amt : (FloatKind.f32.format.order x y == some .lt || FloatKind.f32.format.order x y == some .eq) = decide (x ≤ y) := by
  rw [order_amt hx hy]
  rcases Nat.lt_trichotomy x y with h | h | h
  · rw [Nat.compare_eq_lt.2 h, decide_eq_true (by omega)]; rfl
  · rw [Nat.compare_eq_eq.2 h, decide_eq_true (by omega)]; rfl
  · rw [Nat.compare_eq_gt.2 h, decide_eq_false (by omega)]; rfl
theorem gt_amt : (FloatKind.f32.format.order x y == some .gt) = decide (y < x) := by
  rw [order_amt hx hy]
  rcases Nat.lt_trichotomy x y with h | h | h
  · rw [Nat.compare_eq_lt.2 h, decide_eq_false (by omega)]; rfl
  · rw [Nat.compare_eq_eq.2 h, decide_eq_false (by omega)]; rfl
  · rw [Nat.compare_eq_gt.2 h, decide_eq_true (by omega)]; rfl
theorem lt_amt : (FloatKind.f32.format.order x y == some .lt) = decide (x < y) := by
  rw [order_amt hx hy]
  rcases Nat.lt_trichotomy x y with h | h | h
  · rw [Nat.compare_eq_lt.2 h, decide_eq_true (by omega)]; rfl
  · rw [Nat.compare_eq_eq.2 h, decide_eq_false (by omega)]; rfl
  · rw [Nat.compare_eq_gt.2 h, decide_eq_false (by omega)]; rfl
theorem eq_amt : (FloatKind.f32.format.order x y == some .eq) = decide (x = y) := by
  rw [order_amt hx hy]
  rcases Nat.lt_trichotomy x y with h | h | h
  · rw [Nat.compare_eq_lt.2 h, decide_eq_false (by omega)]; rfl
  · rw [Nat.compare_eq_eq.2 h, decide_eq_true (by omega)]; rfl
  · rw [Nat.compare_eq_gt.2 h, decide_eq_false (by omega)]; rfl
end

/-- which words are finite; amounts; shares -/
def finB (x : Nat) : Bool := decide (x % 2147483648 < 2139095040)
def amtB (x : Nat) : Bool := decide (x < 2139095040)
def shrB (x : Nat) : Bool := decide (x ≤ 1065353216)

theorem sub_self_fin {x : Nat} (h : x < 4294967296) (c : finB x = true) : floatBits .sub .f32 x x = some 0 := by
  have hs := split32 h
  unfold finB at c
  generalize decide (2147483648 ≤ x) = s at hs
  generalize x % 2147483648 = r at hs c
  have hr : r < S32.infRung := by rw [s_inf]; simpa using c
  subst hs
  show S32.sub _ _ = _
  rw [sub_fin S32 s s hr hr, Int.sub_self]
  unfold roundInt
  rw [if_pos rfl, Int.natAbs_zero, RU_zero, Nat.zero_min]
  cases s <;> rfl

theorem sub_self_none {x : Nat} (h : x < 4294967296) (c : finB x = false) : floatBits .sub .f32 x x = none := by
  have hs := split32 h
  have hm : x % 2147483648 < 2147483648 := Nat.mod_lt _ (by omega)
  unfold finB at c
  generalize decide (2147483648 ≤ x) = s at hs
  generalize x % 2147483648 = r at hs c hm
  have hr : 2139095040 ≤ r := by simpa using c
  subst hs
  show S32.sub _ _ = _
  unfold Ieee.Format.sub
  by_cases e : r = 2139095040
  · subst e
    have := read_inf S32 s_bin s
    rw [s_inf] at this
    rw [this]
    cases s <;> rfl
  · rw [read_nan S32 s_bin s (r := r) (by rw [s_inf]; omega) (by rw [s_sw]; exact hm)]
    rfl

/-- the sign of a wide word, as an integer below 0 -/
theorem wide_sign {x : Nat} (h : x < 4294967296) (hn : nanB x = false) : (wideB x < 9223372036854775808 ↔ x < 2147483648) ∧ wideB x < 18446744073709551616 := by
  obtain ⟨R, h1, h2, -⟩ := wide_form h hn
  rw [h1]
  by_cases c : 2147483648 ≤ x
  · rw [decide_eq_true c, word_true, d_sw]; omega
  · rw [decide_eq_false c, word_false]; omega
end Go.Proofs.Ytldchcjnepnjnaa
