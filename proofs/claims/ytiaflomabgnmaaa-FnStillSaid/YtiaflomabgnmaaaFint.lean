/-
  WHOLE NUMBERS MADE NARROW FLOATS.
  No Go text in it. Conditions: those of each theorem.
-/
import Derived.Test.YtiaflomabgnmaaaG1
import Derived.Test.YtiaflomabgnmaaaArith
import Derived.Laws.Cover2
namespace Go.Proofs.Ytiaflomabgnmaaa
open Go

/-- a whole number from 0 on, as a narrow float -/
def fN (n : Nat) : Nat := min (RU 23 (n * P2 149) 0) 2139095040
theorem floatOfInt_nat (n : Nat) : floatOfInt .f32 (n : Int) = fN n := by
  unfold floatOfInt FloatKind.nearest
  show S32.write (.number (decide ((n : Int) < 0)) (n : Int).natAbs 0) = _
  rw [decide_eq_false (by omega), Int.natAbs_natCast]
  show S32.nearest false n 0 = _
  rw [nearest_eq, s_L, s_fb, s_inf, word_false]
  rfl
theorem fN_le {n : Nat} (h : n ≤ 1048576) : fN n ≤ 1233125376 := by
  unfold fN
  have e : rv 23 1233125376 = P2 169 := by decide
  have h2 : n * P2 149 ≤ 1048576 * P2 149 := Nat.mul_le_mul_right _ h
  have h3 : 1048576 * P2 149 = P2 169 := by decide
  have := RU_le (p := 23) (mag := n * P2 149) (D := 0) (r := 1233125376) (by rw [Nat.pow_zero, Nat.mul_one, e]; omega)
  omega
theorem fN_pos {n : Nat} (h : 0 < n) : 0 < fN n := by
  unfold fN
  have e : rv 23 1 = 1 := by decide
  have hp := P2_pos 149
  have h2 : 1 * 1 ≤ n * P2 149 := Nat.mul_le_mul h hp
  have := le_RU (p := 23) (mag := n * P2 149) (D := 0) (r := 1) (by rw [Nat.pow_zero, Nat.mul_one, e]; omega)
  omega
end Go.Proofs.Ytiaflomabgnmaaa
