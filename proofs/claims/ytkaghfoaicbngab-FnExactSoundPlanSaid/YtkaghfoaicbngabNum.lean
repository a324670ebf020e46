/-
  CONTRACTS: numbers that are the same, amounts, shares.
-/
import Derived.Test.YtkaghfoaicbngabFltRun
import Derived.Test.YtkaghfoaicbngabProg
import Derived.WalkSpells
import Derived.Deep.QuietTactic
import Derived.BigQuiet
import Derived.Outline
import Derived.KernelRfl
namespace Go.Proofs.Ytkaghfoaicbngab
open Go Go.RowKit

/-- 'returns v; the world has at most drawn' -/
def Rd (v : Value) (w : World) (e : Ending) (w' : World) : Prop := e = .returned v ∧ ∃ n, w' = w.drewN n
theorem Rd.mk0 {v : Value} {w : World} : Rd v w (.returned v) w := ⟨rfl, 0, rfl⟩
theorem Rd.mk1 {v : Value} {w : World} : Rd v w (.returned v) w.drew := ⟨rfl, 1, rfl⟩
theorem Rd.mkN {v : Value} {w : World} {n : Nat} : Rd v w (.returned v) (w.drewN n) := ⟨rfl, n, rfl⟩
theorem Grown.drewN {W w' : World} (h : Grown W w') (n : Nat) : Grown W (w'.drewN n) := h

/-- the same number? -/
def sameB (a b : Nat) : Bool := if nanB a || nanB b then nanB a && nanB b else (a : Int) == (b : Int)

/-- the bits of a number, one pattern for each NaN -/
def nbits (a : Nat) : Nat := if nanB a then 2143289344 else a

theorem sameB_nbits (a b : Nat) : ((nbits a : Int) == (nbits b : Int)) = sameB a b := by
  unfold nbits sameB nanB
  by_cases h1 : 2139095040 < a % 2147483648 <;> by_cases h2 : 2139095040 < b % 2147483648 <;> simp [h1, h2] <;> omega

/-- is a finite word greater than 0? -/
theorem gt0_word {a : Nat} (ha : a < 4294967296) (h : finB a = true) : (FloatKind.f32.format.order a 0 == some .gt) = decide (0 < a ∧ a < 2147483648) := by
  unfold finB at h
  have h' : a % 2147483648 < 2139095040 := by simpa using h
  by_cases c : a < 2147483648
  · rw [gt_amt (x := a) (y := 0) (by omega) (by omega)]; simp [c]
  · rw [decide_eq_false (by omega)]
    obtain ⟨r, rfl⟩ : ∃ r, a = 2147483648 + r := ⟨a - 2147483648, by omega⟩
    by_cases z : r = 0
    · subst z; rw [Nat.add_zero, order_negzero (by omega)]; rfl
    · rw [order_neg (by omega) (by omega) (by omega)]; rfl

/-- 'at least 0' and 'at most the greatest', of any word -/
theorem ge0_word {a : Nat} (ha : a < 4294967296) : (FloatKind.f32.format.order a 0 == some .gt || FloatKind.f32.format.order a 0 == some .eq) = decide (a ≤ 2139095040 ∨ a = 2147483648) := by
  by_cases n : nanB a = true
  · rw [order_nanL ha n, decide_eq_false (by unfold nanB at n; simp at n; omega)]; rfl
  · have n' : a % 2147483648 ≤ 2139095040 := by unfold nanB at n; simp at n; omega
    by_cases c : a < 2147483648
    · rw [ge_amt (x := a) (y := 0) (by omega) (by omega), decide_eq_true (by omega), decide_eq_true (by omega)]
    · obtain ⟨r, rfl⟩ : ∃ r, a = 2147483648 + r := ⟨a - 2147483648, by omega⟩
      by_cases z : r = 0
      · subst z; rw [Nat.add_zero, order_negzero (by omega)]; rfl
      · rw [order_neg (by omega) (by omega) (by omega), decide_eq_false (by omega)]; rfl

end Go.Proofs.Ytkaghfoaicbngab
