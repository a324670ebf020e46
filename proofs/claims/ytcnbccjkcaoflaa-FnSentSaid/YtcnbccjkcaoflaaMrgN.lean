/-
  SIXTEENTHS: sums, products and differences of drawn amounts are exact; what two streams merge to.
  No Go text in it. Conditions: those of each theorem.
-/
import Derived.Test.YtcnbccjkcaoflaaG2
import Derived.Test.YtcnbccjkcaoflaaMergeL
namespace Go.Proofs.Ytcnbccjkcaoflaa
open Go Go.RowKit
set_option maxRecDepth 100000

/-- a sixteenth, so many times -/
def qs (a : Nat) : Nat := divB (fN a) 1098907648

/-- a 256th, so many times -/
def hb (a : Nat) : Nat := divB (fN a) 1132462080

theorem qs_op {a : Nat} (h : a ≤ 1048576) : floatBits .quo .f32 (fN a) 1098907648 = some (qs a) :=
  (div_some (by have := fN_le h; omega) (by omega) (by omega)).1

theorem qs_lt : ∀ a, a < 33 → qs a < 2139095040 := by decide +kernel

theorem qs_zero : qs 0 = 0 := by decide +kernel

theorem qs_shr : ∀ a, a < 17 → qs a ≤ 1065353216 := by decide +kernel

theorem hb_lt : ∀ a, a < 1025 → hb a < 2139095040 := by decide +kernel

theorem hb_step : ∀ a, a < 1024 → hb a < hb (a + 1) := by decide +kernel

theorem qs_hb : ∀ a, a < 33 → qs a = hb (16 * a) := by decide +kernel

theorem hb_add : ∀ i, i < 33 → ∀ j, j < 33 → addB (hb (16 * i)) (hb (16 * j)) = hb (16 * (i + j)) := by decide +kernel

theorem hb_mul : ∀ l, l < 17 → ∀ k, k < 33 → mulB (hb (16 * l)) (hb (16 * k)) = hb (l * k) := by decide +kernel

theorem hb_sub : ∀ k, k < 33 → ∀ i, i < k + 1 → subB (hb (16 * k)) (hb (16 * i)) = hb (16 * k - 16 * i) ∧ addB (hb (16 * i)) (hb (16 * k - 16 * i)) = hb (16 * k) := by decide +kernel

theorem hb_rest : ∀ l, l < 17 → ∀ k, k < 33 → subB (hb (16 * k)) (hb (l * k)) = hb (16 * k - l * k) ∧ addB (hb (l * k)) (hb (16 * k - l * k)) = hb (16 * k) := by decide +kernel

theorem qs_slack : ∀ a, a < 33 → qs a ≤ addB (qs a) 981668463 ∧ addB (qs a) 981668463 < 2139095040 := by decide +kernel

theorem hb_mono : ∀ {a b : Nat}, a < b → b ≤ 1024 → hb a < hb b
  | a, 0, h, _ => by omega
  | a, b + 1, h, hb' => by
    have h1 := hb_step b (by omega)
    by_cases c : a = b
    · subst c; exact h1
    · have := hb_mono (a := a) (b := b) (by omega) (by omega)
      omega

theorem hb_le {a b : Nat} (h : a ≤ b) (hb' : b ≤ 1024) : hb a ≤ hb b := by
  rcases Nat.lt_or_ge a b with c | c
  · exact Nat.le_of_lt (hb_mono c hb')
  · obtain rfl : a = b := by omega
    exact Nat.le_refl _

theorem ltB_hb {a b : Nat} (ha : a ≤ 1024) (hb' : b ≤ 1024) : ltB (hb a) (hb b) = decide (a < b) := by
  rw [ltB_amt (Nat.le_of_lt (hb_lt a (by omega))) (Nat.le_of_lt (hb_lt b (by omega)))]
  by_cases c : a < b
  · rw [decide_eq_true c, decide_eq_true (hb_mono c hb')]
  · rw [decide_eq_false c, decide_eq_false]
    have := hb_le (a := b) (b := a) (by omega) ha
    omega

theorem mid_hb {i j k q : Nat} (hi : i < 33) (hj : j < 33) (hk : k < 33) (hq : q ≤ 16 * k) (c : k < i + j) :
    ∃ n, midW (hb (16 * i)) (dW (hb (16 * k)) (hb (16 * j))) (hb q) = hb n ∧ n ≤ 16 * i ∧ n ≤ 16 * k ∧ 16 * k ≤ n + 16 * j ∧ ((∃ m, n = 16 * m ∧ m ≤ k) ∨ n = q) := by
  unfold dW
  by_cases cj : j ≤ k
  · rw [if_pos (hb_le (by omega) (by omega)), (hb_sub k hk j (by omega)).1]
    unfold midW
    rw [ltB_hb (a := 16 * k - 16 * j) (b := 16 * i) (by omega) (by omega), decide_eq_true (by omega), if_pos rfl, ltB_hb (a := q) (b := 16 * k - 16 * j) (by omega) (by omega), ltB_hb (a := q) (b := 16 * i) (by omega) (by omega)]
    by_cases c1 : q < 16 * k - 16 * j
    · rw [decide_eq_true c1, if_pos rfl]
      exact ⟨_, rfl, by omega, by omega, by omega, Or.inl ⟨k - j, by omega, by omega⟩⟩
    · rw [decide_eq_false c1, if_neg (by decide)]
      by_cases c2 : q < 16 * i
      · rw [decide_eq_true c2, if_pos rfl]
        exact ⟨_, rfl, by omega, by omega, by omega, Or.inr rfl⟩
      · rw [decide_eq_false c2, if_neg (by decide)]
        exact ⟨_, rfl, by omega, by omega, by omega, Or.inl ⟨i, rfl, by omega⟩⟩
  · have hm := hb_mono (a := 16 * k) (b := 16 * j) (by omega) (by omega)
    rw [if_neg (by omega)]
    obtain ⟨p0, p1⟩ := sub_pos (hb_lt (16 * j) (by omega)) hm
    unfold midW
    rw [ltB_negL p1 p0 (Nat.le_of_lt (hb_lt _ (by omega))), if_pos rfl, ltB_negR p1 p0 (Nat.le_of_lt (hb_lt _ (by omega))), if_neg (by decide), ltB_hb (a := q) (b := 16 * i) (by omega) (by omega)]
    by_cases c2 : q < 16 * i
    · rw [decide_eq_true c2, if_pos rfl]
      exact ⟨_, rfl, by omega, by omega, by omega, Or.inr rfl⟩
    · rw [decide_eq_false c2, if_neg (by decide)]
      exact ⟨_, rfl, by omega, by omega, by omega, Or.inl ⟨i, rfl, by omega⟩⟩

theorem merge_good {i j k l : Nat} (hi : i < 33) (hj : j < 33) (hk : k < 33) (hl : l < 17) :
    ∃ x y, vMerge (qs i) (qs j) (qs k) (qs l) = (x, y, 0) ∧ x ≤ qs i ∧ y ≤ qs j ∧ x < 2139095040 ∧ y < 2139095040 ∧ addB x y = min (addB (qs i) (qs j)) (qs k) ∧ addB (qs i) (qs j) < 2139095040 := by
  have hsh := qs_shr l hl
  rw [qs_hb l (by omega)] at hsh
  rw [qs_hb i hi, qs_hb j hj, qs_hb k hk, qs_hb l (by omega)]
  have ok : okMerge (hb (16 * i)) (hb (16 * j)) (hb (16 * k)) (hb (16 * l)) = true := by
    unfold okMerge amtB shrB
    rw [decide_eq_true (hb_lt _ (by omega)), decide_eq_true (hb_lt _ (by omega)), decide_eq_true (hb_lt _ (by omega)), decide_eq_true hsh]
    rfl
  have S := hb_rest l hl k hk
  have hlk : l * k ≤ 16 * k := Nat.mul_le_mul_right k (by omega)
  unfold vMerge
  rw [if_pos ok, hb_add i hi j hj, hb_mul l hl k hk]
  generalize l * k = q at S hlk
  by_cases c : i + j ≤ k
  · rw [if_pos (hb_le (by omega) (by omega))]
    refine ⟨_, _, rfl, Nat.le_refl _, Nat.le_refl _, hb_lt _ (by omega), hb_lt _ (by omega), ?_, hb_lt _ (by omega)⟩
    rw [hb_add i hi j hj, Nat.min_eq_left (hb_le (by omega) (by omega))]
  · rw [if_neg (by have := hb_mono (a := 16 * k) (b := 16 * (i + j)) (by omega) (by omega); omega)]
    obtain ⟨n, hn, h1, h2, h3, h4⟩ := mid_hb (i := i) (j := j) (k := k) (q := q) hi hj hk hlk (by omega)
    rw [hn]
    have hs : subB (hb (16 * k)) (hb n) = hb (16 * k - n) ∧ addB (hb n) (hb (16 * k - n)) = hb (16 * k) := by
      rcases h4 with ⟨m, rfl, hm⟩ | rfl
      · exact hb_sub k hk m (by omega)
      · exact S
    rw [hs.1]
    refine ⟨_, _, rfl, hb_le (by omega) (by omega), hb_le (by omega) (by omega), hb_lt _ (by omega), hb_lt _ (by omega), ?_, hb_lt _ (by omega)⟩
    rw [hs.2, Nat.min_eq_right (hb_le (by omega) (by omega))]

end Go.Proofs.Ytcnbccjkcaoflaa
