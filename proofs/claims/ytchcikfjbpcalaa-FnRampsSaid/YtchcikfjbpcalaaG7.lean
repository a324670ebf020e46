/-
  SEVERAL TEXTS IN ONE.
-/
import Derived.Test.YtchcikfjbpcalaaStep
import Derived.Test.YtchcikfjbpcalaaFluxesS

/-
  CONTRACTS: a step, the model's.
-/
namespace Go.Proofs.Ytchcikfjbpcalaa
open Go Go.RowKit
set_option maxRecDepth 100000

end Go.Proofs.Ytchcikfjbpcalaa

/-
  SEVERAL STEPS: the shares behind n of them, and the sums of what has flowed in and out: of numbers, no Go text. What is offered and the room may be other at each step.
-/
namespace Go.Proofs.Ytchcikfjbpcalaa
open Go Go.RowKit

/-- the flows of the step from these shares -/
def nextL (p b : Nat) (cs : List Nat) (o m : Nat) : List Nat := stepL cs (intoL (fluxL p b cs o m)) (outL (fluxL p b cs o m))
theorem nextL_len (p b : Nat) (cs : List Nat) (o m : Nat) : (nextL p b cs o m).length = 16 := stepL_len _ _ _
theorem nextL_ok {cs : List Nat} {p b l : Nat} (ok : OkR cs p b l) (o m : Nat) : OkR (nextL p b cs o m) p b l :=
  ⟨nextL_len _ _ _ _ _, stepL_le _ _ _, ok.pace, ok.back, ok.lanes⟩
/-- the shares behind k steps -/
def itL (p b : Nat) (cs : List Nat) (oo mm : Nat → Nat) : Nat → List Nat
  | 0 => cs
  | k + 1 => nextL p b (itL p b cs oo mm k) (oo k) (mm k)
theorem itL_succ (p b : Nat) (cs : List Nat) (oo mm : Nat → Nat) (k : Nat) : itL p b cs oo mm (k + 1) = nextL p b (itL p b cs oo mm k) (oo k) (mm k) := rfl
theorem itL_ok {cs : List Nat} {p b l : Nat} (ok : OkR cs p b l) (oo mm : Nat → Nat) : ∀ k, OkR (itL p b cs oo mm k) p b l
  | 0 => ok
  | k + 1 => nextL_ok (itL_ok ok oo mm k) _ _
/-- the flows of step k + 1 -/
def itF (p b : Nat) (cs : List Nat) (oo mm : Nat → Nat) (k : Nat) : List Nat := fluxL p b (itL p b cs oo mm k) (oo k) (mm k)
theorem itF_len (p b : Nat) (cs : List Nat) (oo mm : Nat → Nat) (k : Nat) : (itF p b cs oo mm k).length = 17 := fluxL_len _ _ _ _ _
theorem itF_le {cs : List Nat} {p b l : Nat} (ok : OkR cs p b l) (oo mm : Nat → Nat) (k : Nat) : ∀ x ∈ itF p b cs oo mm k, x ≤ 1065353216 := fluxL_le (itL_ok ok oo mm k) _ _
theorem itL_next (p b : Nat) (cs : List Nat) (oo mm : Nat → Nat) (k : Nat) : itL p b cs oo mm (k + 1) = stepL (itL p b cs oo mm k) (intoL (itF p b cs oo mm k)) (outL (itF p b cs oo mm k)) := rfl
/-- what has flowed through border i in k steps -/
def itS (p b : Nat) (cs : List Nat) (oo mm : Nat → Nat) (i : Nat) : Nat → Nat
  | 0 => 0
  | k + 1 => addB (itS p b cs oo mm i k) (nth (itF p b cs oo mm k) i)
theorem itS_succ (p b : Nat) (cs : List Nat) (oo mm : Nat → Nat) (i k : Nat) : itS p b cs oo mm i (k + 1) = addB (itS p b cs oo mm i k) (nth (itF p b cs oo mm k) i) := rfl
theorem itS_facts {cs : List Nat} {p b l : Nat} (ok : OkR cs p b l) (oo mm : Nat → Nat) (i : Nat) : ∀ k, itS p b cs oo mm i k ≤ 2139095040
  | 0 => by unfold itS; omega
  | k + 1 => by rw [itS_succ]; exact (add_any (itS_facts ok oo mm i k) (Nat.le_trans (nth_le (itF_le ok oo mm k) i) (by omega))).2
theorem itS_add {cs : List Nat} {p b l : Nat} (ok : OkR cs p b l) (oo mm : Nat → Nat) (i k : Nat) : floatBits .add .f32 (itS p b cs oo mm i k) (nth (itF p b cs oo mm k) i) = some (itS p b cs oo mm i (k + 1)) :=
  (add_any (itS_facts ok oo mm i k) (Nat.le_trans (nth_le (itF_le ok oo mm k) i) (by omega))).1

/-- the code of several steps -/
def stepsC (ok : Bool) (o m : Nat) (n : Int) : Int := if givenC ok o m = 0 then (if 0 ≤ n ∧ n ≤ 400 then 0 else 2) else givenC ok o m
end Go.Proofs.Ytchcikfjbpcalaa
