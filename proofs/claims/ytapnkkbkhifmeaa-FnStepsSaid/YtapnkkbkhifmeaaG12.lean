/-
  SEVERAL TEXTS IN ONE.
-/
import Derived.Test.YtapnkkbkhifmeaaStepS
import Derived.Test.YtapnkkbkhifmeaaFluxesS
import Derived.Test.YtapnkkbkhifmeaaDetN

/-
  SEVERAL STEPS: the shares behind n of them, and the sums of what has flowed in and out: of numbers, no Go text. What is offered and the room may be other at each step.
-/
namespace Go.Proofs.Ytapnkkbkhifmeaa
open Go Go.RowKit

/-- the flows of the step from these shares -/
def nextL (p b : Nat) (cs : List Nat) (o m : Nat) : List Nat := stepL cs (intoL (fluxL p b cs o m)) (outL (fluxL p b cs o m))
theorem nextL_len (p b : Nat) (cs : List Nat) (o m : Nat) : (nextL p b cs o m).length = 16 := stepL_len _ _ _
theorem nextL_ok {cs : List Nat} {p b l : Nat} (ok : OkR cs p b l) (o m : Nat) : OkR (nextL p b cs o m) p b l :=
  ⟨nextL_len _ _ _ _ _, stepL_le _ _ _, ok.pace, ok.back, ok.lanes⟩
/-- the shares behind k steps -/
def itL (p b : Nat) (cs : List Nat) (oo mm : Nat → Nat) : Nat → List Nat
  | 0 => cs
  | k + 1 => nextL p b (itL p b cs oo mm k) (oo k) (mm k)
theorem itL_succ (p b : Nat) (cs : List Nat) (oo mm : Nat → Nat) (k : Nat) : itL p b cs oo mm (k + 1) = nextL p b (itL p b cs oo mm k) (oo k) (mm k) := rfl
theorem itL_ok {cs : List Nat} {p b l : Nat} (ok : OkR cs p b l) (oo mm : Nat → Nat) : ∀ k, OkR (itL p b cs oo mm k) p b l
  | 0 => ok
  | k + 1 => nextL_ok (itL_ok ok oo mm k) _ _
/-- the flows of step k + 1 -/
def itF (p b : Nat) (cs : List Nat) (oo mm : Nat → Nat) (k : Nat) : List Nat := fluxL p b (itL p b cs oo mm k) (oo k) (mm k)
theorem itF_len (p b : Nat) (cs : List Nat) (oo mm : Nat → Nat) (k : Nat) : (itF p b cs oo mm k).length = 17 := fluxL_len _ _ _ _ _
theorem itF_le {cs : List Nat} {p b l : Nat} (ok : OkR cs p b l) (oo mm : Nat → Nat) (k : Nat) : ∀ x ∈ itF p b cs oo mm k, x ≤ 1065353216 := fluxL_le (itL_ok ok oo mm k) _ _
theorem itL_next (p b : Nat) (cs : List Nat) (oo mm : Nat → Nat) (k : Nat) : itL p b cs oo mm (k + 1) = stepL (itL p b cs oo mm k) (intoL (itF p b cs oo mm k)) (outL (itF p b cs oo mm k)) := rfl
/-- what has flowed through border i in k steps -/
def itS (p b : Nat) (cs : List Nat) (oo mm : Nat → Nat) (i : Nat) : Nat → Nat
  | 0 => 0
  | k + 1 => addB (itS p b cs oo mm i k) (nth (itF p b cs oo mm k) i)
theorem itS_succ (p b : Nat) (cs : List Nat) (oo mm : Nat → Nat) (i k : Nat) : itS p b cs oo mm i (k + 1) = addB (itS p b cs oo mm i k) (nth (itF p b cs oo mm k) i) := rfl
theorem itS_facts {cs : List Nat} {p b l : Nat} (ok : OkR cs p b l) (oo mm : Nat → Nat) (i : Nat) : ∀ k, itS p b cs oo mm i k ≤ 2139095040
  | 0 => by unfold itS; omega
  | k + 1 => by rw [itS_succ]; exact (add_any (itS_facts ok oo mm i k) (Nat.le_trans (nth_le (itF_le ok oo mm k) i) (by omega))).2
theorem itS_add {cs : List Nat} {p b l : Nat} (ok : OkR cs p b l) (oo mm : Nat → Nat) (i k : Nat) : floatBits .add .f32 (itS p b cs oo mm i k) (nth (itF p b cs oo mm k) i) = some (itS p b cs oo mm i (k + 1)) :=
  (add_any (itS_facts ok oo mm i k) (Nat.le_trans (nth_le (itF_le ok oo mm k) i) (by omega))).1

/-- the code of several steps -/
def stepsC (ok : Bool) (o m : Nat) (n : Int) : Int := if givenC ok o m = 0 then (if 0 ≤ n ∧ n ≤ 400 then 0 else 2) else givenC ok o m
end Go.Proofs.Ytapnkkbkhifmeaa

/-
  FnSteps' numbers: what sixteen cells sum to before and behind a step, nearly.
  No Go text in it. Conditions: those of each theorem.
-/
namespace Go.Proofs.Ytapnkkbkhifmeaa
open Go Go.RowKit
set_option maxRecDepth 100000

/-- the sum of the first k cells, from 0 on -/
def sumW (L : List Nat) : Nat → Nat
  | 0 => 0
  | k + 1 => addB (sumW L k) (nth L k)

/-- the same, exactly, in least places -/
def sumR (L : List Nat) : Nat → Nat
  | 0 => 0
  | k + 1 => sumR L k + rv 23 (nth L k)

theorem fN_16 : fN 16 = 131 * 8388608 := by decide +kernel

theorem fN_mono16 : ∀ k, k < 17 → fN k ≤ fN 16 := by decide +kernel

theorem sum_near {L : List Nat} (h : ∀ i, nth L i ≤ 1065353216) : ∀ k, k ≤ 16 → sumW L k ≤ fN k ∧ rv 23 (sumW L k) ≤ sumR L k + k * 2 ^ 130 ∧ sumR L k ≤ rv 23 (sumW L k) + k * 2 ^ 130
  | 0, _ => ⟨by show 0 ≤ _; exact Nat.zero_le _, by show rv 23 0 ≤ _; rw [rv_zero]; exact Nat.zero_le _, by show 0 ≤ _; exact Nat.zero_le _⟩
  | k + 1, hk => by
    obtain ⟨h1, h2, h3⟩ := sum_near h k (by omega)
    have f16 := fN_16
    have f1 := fN_mono16 k (by omega)
    have f2 := fN_mono16 (k + 1) (by omega)
    have hc := h k
    obtain ⟨e1, e2⟩ := add_eq (x := sumW L k) (y := nth L k) (by omega) (by omega)
    have hR := rv_le (p := 23) h1
    have hC := rv_le (p := 23) hc
    rw [fN_rv2 (by omega)] at hR
    rw [rv_11] at hC
    have hle : RU 23 (rv 23 (sumW L k) + rv 23 (nth L k)) 0 ≤ fN (k + 1) := RU_le (by rw [Nat.pow_zero, Nat.mul_one, fN_rv2 (by omega), Nat.add_mul, Nat.one_mul]; omega)
    have e3 : addB (sumW L k) (nth L k) = RU 23 (rv 23 (sumW L k) + rv 23 (nth L k)) 0 := by omega
    have u := RU_upK 131 (m := rv 23 (sumW L k) + rv 23 (nth L k)) (D := 0) (by omega) (by omega)
    have d := RU_dnK 131 (m := rv 23 (sumW L k) + rv 23 (nth L k)) (D := 0) (by omega) (by omega)
    simp only [Nat.pow_zero, Nat.mul_one] at u d
    rw [← e3] at u d hle
    show addB (sumW L k) (nth L k) ≤ _ ∧ rv 23 (addB (sumW L k) (nth L k)) ≤ sumR L k + rv 23 (nth L k) + _ ∧ sumR L k + rv 23 (nth L k) ≤ rv 23 (addB (sumW L k) (nth L k)) + _
    rw [Nat.add_mul, Nat.one_mul]
    rw [show 131 - 1 = 130 from rfl] at u d
    generalize 2 ^ 130 = g at *
    generalize k * g = kg at *
    omega

/-- two roundings up to 2 -/
def gC : Nat := 2 ^ 128

theorem rnd2 {m : Nat} (h : RU 23 m 0 ≤ 1073741824) : 2 * rv 23 (RU 23 m 0) ≤ 2 * m + gC ∧ 2 * m ≤ 2 * rv 23 (RU 23 m 0) + gC := by
  have u := RU_upK 128 (m := m) (D := 0) (by omega) (by omega)
  have d := RU_dnK 128 (m := m) (D := 0) (by omega) (by omega)
  simp only [Nat.pow_zero, Nat.mul_one] at u d
  have e : gC = 2 * 2 ^ (128 - 1) := by decide +kernel
  rw [e]
  generalize 2 ^ (128 - 1) = g at u d ⊢
  generalize rv 23 (RU 23 m 0) = R at u d ⊢
  omega

theorem rv_22 : rv 23 1073741824 = 2 * P2 149 := by decide +kernel

/-- a cell behind a step at which nothing is held -/
theorem cell_near {c f f' : Nat} (hc : c ≤ 1065353216) (hf : f ≤ 1065353216) (hf' : f' ≤ addB c f) (h1 : subB (addB c f) f' ≤ 1065353216) :
    rv 23 (subB (addB c f) f') + rv 23 f' ≤ rv 23 c + rv 23 f + gC ∧ rv 23 c + rv 23 f ≤ rv 23 (subB (addB c f) f') + rv 23 f' + gC := by
  have hC := rv_le (p := 23) hc
  have hF := rv_le (p := 23) hf
  rw [rv_11] at hC hF
  have a := (add_eq (x := c) (y := f) (by omega) (by omega)).2
  have hle : RU 23 (rv 23 c + rv 23 f) 0 ≤ 1073741824 := RU_le (by rw [Nat.pow_zero, Nat.mul_one, rv_22]; omega)
  have a2 : addB c f = RU 23 (rv 23 c + rv 23 f) 0 := by rw [a]; exact Nat.min_eq_left (by omega)
  have r1 := rnd2 hle
  rw [← a2] at r1 hle
  have s := (sub_eq (x := addB c f) (y := f') (by omega) hf').2
  have s2 : subB (addB c f) f' = RU 23 (rv 23 (addB c f) - rv 23 f') 0 := by
    rw [s]; refine Nat.min_eq_left ?_
    rcases Nat.lt_or_ge (RU 23 (rv 23 (addB c f) - rv 23 f') 0) 2139095040 with k | k
    · omega
    · rw [s, Nat.min_eq_right k] at h1; omega
  have hle2 : RU 23 (rv 23 (addB c f) - rv 23 f') 0 ≤ 1073741824 := Nat.le_trans (Nat.le_of_eq s2.symm) (Nat.le_trans h1 (by decide))
  have r2 := rnd2 hle2
  rw [← s2] at r2
  have hf2 := rv_le (p := 23) hf'
  clear a s s2 a2 h1 hle hle2 hC hF hf' hc hf
  generalize rv 23 (subB (addB c f) f') = v1 at *
  generalize rv 23 (addB c f) = v2 at *
  generalize rv 23 f' = v3 at *
  generalize rv 23 c = v4 at *
  generalize rv 23 f = v5 at *
  generalize gC = g at *
  omega

/-- nothing held: what comes in and goes out is all that changes, nearly -/
theorem cells_near {L S F : List Nat} (h : ∀ i, i < 16 → rv 23 (nth S i) + rv 23 (nth F (i + 1)) ≤ rv 23 (nth L i) + rv 23 (nth F i) + gC ∧ rv 23 (nth L i) + rv 23 (nth F i) ≤ rv 23 (nth S i) + rv 23 (nth F (i + 1)) + gC) :
    ∀ k, k ≤ 16 → sumR S k + rv 23 (nth F k) ≤ sumR L k + rv 23 (nth F 0) + k * gC ∧ sumR L k + rv 23 (nth F 0) ≤ sumR S k + rv 23 (nth F k) + k * gC
  | 0, _ => ⟨by show 0 + _ ≤ 0 + _ + _; omega, by show 0 + _ ≤ 0 + _ + _; omega⟩
  | k + 1, hk => by
    obtain ⟨h1, h2⟩ := cells_near h k (by omega)
    obtain ⟨g1, g2⟩ := h k (by omega)
    show sumR S k + rv 23 (nth S k) + _ ≤ sumR L k + rv 23 (nth L k) + _ + _ ∧ sumR L k + rv 23 (nth L k) + _ ≤ sumR S k + rv 23 (nth S k) + _ + _
    rw [Nat.add_mul, Nat.one_mul]
    generalize k * gC = kg at *
    generalize gC = g at *
    omega

end Go.Proofs.Ytapnkkbkhifmeaa
