/-
  SEVERAL TEXTS IN ONE.
-/
import Derived.Test.YtejbaoakpkpciaaFltRun
import Derived.Test.YtejbaoakpkpciaaArith
import Derived.Laws.Cover2
import Derived.Test.YtejbaoakpkpciaaG1

/-
  WHOLE NUMBERS MADE NARROW FLOATS.
  No Go text in it. Conditions: those of each theorem.
-/
namespace Go.Proofs.Ytejbaoakpkpciaa
open Go

/-- a whole number from 0 on, as a narrow float -/
def fN (n : Nat) : Nat := min (RU 23 (n * P2 149) 0) 2139095040
theorem floatOfInt_nat (n : Nat) : floatOfInt .f32 (n : Int) = fN n := by
  unfold floatOfInt FloatKind.nearest
  show S32.write (.number (decide ((n : Int) < 0)) (n : Int).natAbs 0) = _
  rw [decide_eq_false (by omega), Int.natAbs_natCast]
  show S32.nearest false n 0 = _
  rw [nearest_eq, s_L, s_fb, s_inf, word_false]
  rfl
theorem fN_le {n : Nat} (h : n ≤ 1048576) : fN n ≤ 1233125376 := by
  unfold fN
  have e : rv 23 1233125376 = P2 169 := by decide
  have h2 : n * P2 149 ≤ 1048576 * P2 149 := Nat.mul_le_mul_right _ h
  have h3 : 1048576 * P2 149 = P2 169 := by decide
  have := RU_le (p := 23) (mag := n * P2 149) (D := 0) (r := 1233125376) (by rw [Nat.pow_zero, Nat.mul_one, e]; omega)
  omega
theorem fN_pos {n : Nat} (h : 0 < n) : 0 < fN n := by
  unfold fN
  have e : rv 23 1 = 1 := by decide
  have hp := P2_pos 149
  have h2 : 1 * 1 ≤ n * P2 149 := Nat.mul_le_mul h hp
  have := le_RU (p := 23) (mag := n * P2 149) (D := 0) (r := 1) (by rw [Nat.pow_zero, Nat.mul_one, e]; omega)
  omega
end Go.Proofs.Ytejbaoakpkpciaa

/-
  SMOOTHED COUNTS, in words of narrow floats.
  No Go text in it. Conditions: those of each theorem.
-/
namespace Go.Proofs.Ytejbaoakpkpciaa
open Go

/-- 32768 times a power of two -/
def wd (k : Nat) : Nat := (142 + k) * 2 ^ 23
theorem wd_rv (k : Nat) : rv 23 (wd k) = P2 23 * P2 (141 + k) := by
  unfold wd
  rw [rv_pow 23 (142 + k) (by omega), show 142 + k - 1 = 141 + k from by omega]
theorem wd_two (k : Nat) : rv 23 (wd k) + rv 23 (wd k) = rv 23 (wd (k + 1)) := by
  rw [wd_rv, wd_rv, show 141 + (k + 1) = (141 + k) + 1 from by omega]
  have : P2 (141 + k + 1) = P2 (141 + k) * 2 := Nat.pow_succ 2 (141 + k)
  rw [this, ← Nat.mul_assoc]; omega
theorem wd_lt {k : Nat} (h : k ≤ 100) : wd k < 2139095040 := by unfold wd; omega
theorem wd_mono {k m : Nat} (h : k ≤ m) : wd k ≤ wd m := by unfold wd; omega
theorem fN_wd {n : Nat} (h : n ≤ 32768) : fN n ≤ wd 0 := by
  have e : 32768 * P2 149 = P2 23 * P2 141 := by decide
  have h2 : n * P2 149 ≤ 32768 * P2 149 := Nat.mul_le_mul_right _ h
  have := RU_le (p := 23) (mag := n * P2 149) (D := 0) (r := wd 0) (by rw [Nat.pow_zero, Nat.mul_one, wd_rv, Nat.add_zero]; omega)
  unfold fN
  omega
/-- a product with a share -/
theorem mul_by_share {v q : Nat} (hv : v < 2139095040) (hq : q ≤ 1065353216) : floatBits .mul .f32 v q = some (mulB v q) ∧ mulB v q ≤ v := by
  refine ⟨(mul_eq hv (by omega)).1, mul_le hv (by omega) ?_⟩
  have : rv 23 q ≤ rv 23 1065353216 := rv_le hq
  rw [rv_one] at this
  exact Nat.mul_le_mul_left _ this

/-- the smoothed count of the tally i -/
def smN (xs : Ts) (s : Nat) : Nat → Nat
  | 0 => fN (tc xs 0).toNat
  | i + 1 => addB (mulB (smN xs s i) (subB 1065353216 s)) (mulB (fN (tc xs (i + 1)).toNat) s)
section
variable {xs : Ts} {s : Nat}
theorem cnt_wd (h : okT xs = true) (hW : TW xs) {i : Nat} (hi : i < xs.length) : 0 ≤ tc xs i ∧ fN (tc xs i).toNat ≤ wd 0 := by
  have h1 := (okT_at h hi).2.1
  have h2 := (hW.at hi).2.1
  unfold I16 at h2
  exact ⟨h1, fN_wd (by omega)⟩
theorem sm_le (h : okT xs = true) (hW : TW xs) (hs : s ≤ 1065353216) : ∀ i, i < xs.length → smN xs s i ≤ wd i
  | 0, hi => (cnt_wd h hW hi).2
  | i + 1, hi => by
    have h96 := okT_len h
    have hv := sm_le h hW hs i (by omega)
    have hc := (cnt_wd h hW hi).2
    have hw := wd_lt (k := i) (by omega)
    have hw0 := wd_mono (k := 0) (m := i) (by omega)
    have hq := (one_sub hs).2
    have m1 := (mul_by_share (v := smN xs s i) (by omega) hq).2
    have m2 := (mul_by_share (v := fN (tc xs (i + 1)).toNat) (by omega) hs).2
    show addB _ _ ≤ _
    refine add_le (by omega) (by omega) ?_
    rw [← wd_two]
    have r1 : rv 23 (mulB (smN xs s i) (subB 1065353216 s)) ≤ rv 23 (wd i) := rv_le (by omega)
    have r2 : rv 23 (mulB (fN (tc xs (i + 1)).toNat) s) ≤ rv 23 (wd i) := rv_le (by omega)
    omega
theorem sm_lt (h : okT xs = true) (hW : TW xs) (hs : s ≤ 1065353216) {i : Nat} (hi : i < xs.length) : smN xs s i < 2139095040 := by
  have := sm_le h hW hs i hi
  have := wd_lt (k := i) (by have := okT_len h; omega)
  omega
/-- what a step of it gives -/
theorem sm_ops (h : okT xs = true) (hW : TW xs) (hs : s ≤ 1065353216) {i : Nat} (hi : i + 1 < xs.length) :
    floatBits .sub .f32 1065353216 s = some (subB 1065353216 s) ∧ floatBits .mul .f32 (smN xs s i) (subB 1065353216 s) = some (mulB (smN xs s i) (subB 1065353216 s)) ∧
    floatBits .mul .f32 (fN (tc xs (i + 1)).toNat) s = some (mulB (fN (tc xs (i + 1)).toNat) s) ∧
    floatBits .add .f32 (mulB (smN xs s i) (subB 1065353216 s)) (mulB (fN (tc xs (i + 1)).toNat) s) = some (smN xs s (i + 1)) := by
  have hv := sm_lt h hW hs (i := i) (by omega)
  have hc := (cnt_wd h hW hi).2
  have hw := wd_lt (k := 0) (by omega)
  have hq := one_sub hs
  obtain ⟨m1, m1'⟩ := mul_by_share (v := smN xs s i) hv hq.2
  obtain ⟨m2, m2'⟩ := mul_by_share (v := fN (tc xs (i + 1)).toNat) (by omega) hs
  exact ⟨hq.1, m1, m2, (add_eq (by omega) (by omega)).1⟩
end
/-- the first k smoothed counts -/
def smL (xs : Ts) (s k : Nat) : List Nat := (List.range k).map (smN xs s)
theorem smL_len (xs : Ts) (s k : Nat) : (smL xs s k).length = k := by simp [smL]
theorem smL_next (xs : Ts) (s k : Nat) : smL xs s (k + 1) = smL xs s k ++ [smN xs s k] := by simp [smL, List.range_succ]
theorem smL_nth {xs : Ts} {s k i : Nat} (h : i < k) : nth (smL xs s k) i = smN xs s i := by
  unfold nth smL
  rw [List.getD_eq_getElem?_getD, List.getElem?_map, List.getElem?_range h]; rfl
def vSmooth (xs : Ts) (s : Nat) : List Nat × Int := if okT xs then (if shrB s then (smL xs s xs.length, 0) else ([], 2)) else ([], 1)
section
variable {xs : Ts} {s : Nat}
theorem vSmooth_1 (h : okT xs = false) : vSmooth xs s = ([], 1) := by unfold vSmooth; rw [h]; rfl
theorem vSmooth_2 (h : okT xs = true) (h2 : shrB s = false) : vSmooth xs s = ([], 2) := by unfold vSmooth; rw [if_pos h, h2]; rfl
theorem vSmooth_0 (h : okT xs = true) (h2 : shrB s = true) : vSmooth xs s = (smL xs s xs.length, 0) := by unfold vSmooth; rw [if_pos h, if_pos h2]
theorem vSmooth_w (hW : TW xs) (s : Nat) : (∀ x ∈ (vSmooth xs s).1, x < 2139095040) ∧ (vSmooth xs s).1.length ≤ 96 := by
  cases h : okT xs
  · rw [vSmooth_1 h]; exact ⟨by simp, Nat.zero_le _⟩
  · cases h2 : shrB s
    · rw [vSmooth_2 h h2]; exact ⟨by simp, Nat.zero_le _⟩
    · rw [vSmooth_0 h h2]
      refine ⟨fun x hx => ?_, by rw [smL_len]; exact okT_len h⟩
      obtain ⟨i, hi, rfl⟩ := List.mem_map.1 hx
      exact sm_lt h hW (of_decide_eq_true h2) (by simpa using hi)
end
end Go.Proofs.Ytejbaoakpkpciaa
