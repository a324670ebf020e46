/-
  FLOATS IN A RUN: what a sum, a difference, a product, a quotient of floats gives (a NaN out of the tape too), what a narrow float made wide gives.
  No Go text in it. Conditions: those of each theorem.
-/
import Derived.Test.YtldchcjnepnjnaaF32
import Derived.WalkKit
import Derived.WalkLawsBesides
namespace Go.Proofs.Ytldchcjnepnjnaa
open Go

/-- the bits of a NaN that the tape gives -/
def tapeNan (q : Question) (w : World) : Nat := q.cut (w.tape w.drawn q)

variable {P : Program}

theorem run_arith_nan (w : World) (op : BinOp) (hop : op = .add ∨ op = .sub ∨ op = .mul ∨ op = .quo) (t : TypeId) (k : FloatKind) (x y : Nat) (h : floatBits op k x y = none) :
    (binOp op t (.float k x) (.float k y)).run P w = .ok (.float k (tapeNan (.nanBits k x y) w)) w.drew := by
  unfold floatBits at h
  rcases hop with rfl | rfl | rfl | rfl <;> simp only at h <;> simp [binOp, Op.floatArith, h, tapeNan, Question.forced]

theorem tapeNan32 (w : World) (x y : Nat) : tapeNan (.nanBits .f32 x y) w < 4294967296 ∧ nanB (tapeNan (.nanBits .f32 x y) w) = true := by
  unfold tapeNan Question.cut nanB
  simp only [decide_eq_true_eq]
  generalize w.tape w.drawn _ = t
  have h2 : t / 2 % (2 ^ 23 - 1) < 8388607 := Nat.mod_lt _ (by decide)
  generalize t / 2 % (2 ^ 23 - 1) = u at *
  rcases (by omega : t % 2 = 0 ∨ t % 2 = 1) with e | e <;> rw [e] <;> omega

theorem tapeNan64 (w : World) (d : Nat) : tapeNan (.nanConv .f64 d) w < 18446744073709551616 ∧ 9218868437227405312 < tapeNan (.nanConv .f64 d) w % 9223372036854775808 := by
  unfold tapeNan Question.cut
  simp only
  generalize w.tape w.drawn _ = t
  have h2 : t / 2 % (2 ^ 52 - 1) < 4503599627370495 := Nat.mod_lt _ (by decide)
  generalize t / 2 % (2 ^ 52 - 1) = u at *
  rcases (by omega : t % 2 = 0 ∨ t % 2 = 1) with e | e <;> rw [e] <;> omega

/-- a wide NaN stands to nothing -/
theorem order64_nan {x : Nat} (h : x < 18446744073709551616) (c : 9218868437227405312 < x % 9223372036854775808) (y : Nat) : FloatKind.f64.format.order x y = none := by
  have hm : x % 9223372036854775808 < 9223372036854775808 := Nat.mod_lt _ (by omega)
  have hs : x = S64.word (decide (9223372036854775808 ≤ x)) (x % 9223372036854775808) := by
    by_cases c : 9223372036854775808 ≤ x
    · rw [decide_eq_true c, word_true, d_sw]; omega
    · rw [decide_eq_false c, word_false]; omega
  generalize decide (9223372036854775808 ≤ x) = s at hs
  generalize x % 9223372036854775808 = r at hs hm c
  subst hs
  show S64.order _ _ = none
  unfold Ieee.Format.order
  rw [read_nan S64 d_bin s (by rw [d_inf]; exact c) (by rw [d_sw]; exact hm)]
  rfl

theorem run_wide_nan (w : World) (src dst : TypeId) (x : Nat) (hs : (P.underlying src).isSome = true) (hd : P.underlying dst = some (.float .f64)) (h : x < 4294967296) (hn : nanB x = true) :
    (convert src dst (.float .f32 x)).run P w = .ok (.float .f64 (tapeNan (.nanConv .f64 x) w)) w.drew := by
  obtain ⟨u, hs'⟩ := Option.isSome_iff_exists.1 hs
  have hsx := split32 h
  have hm : x % 2147483648 < 2147483648 := Nat.mod_lt _ (by omega)
  have hr : FloatKind.f32.decode x = .nan (decide (2147483648 ≤ x)) (x % 2147483648 - 2139095040) := by
    unfold nanB at hn
    have := read_nan S32 s_bin (decide (2147483648 ≤ x)) (r := x % 2147483648) (by rw [s_inf]; simpa using hn) (by rw [s_sw]; exact hm)
    rw [← hsx, s_inf] at this
    exact this
  cases u <;> simp [convert, run_underlying hs', run_underlying hd, Conv.floatToFloat, hr, tapeNan, Question.forced]

theorem run_wide (w : World) (src dst : TypeId) (x : Nat) (hs : (P.underlying src).isSome = true) (hd : P.underlying dst = some (.float .f64)) (h : x < 4294967296) (hn : nanB x = false) :
    (convert src dst (.float .f32 x)).run P w = .ok (.float .f64 (wideB x)) w :=
  run_convert_float_float w src dst .f32 .f64 x _ hs hd (widen h hn)
end Go.Proofs.Ytldchcjnepnjnaa
