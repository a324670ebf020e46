/-
  SEVERAL TEXTS IN ONE.
-/
import Derived.Test.YtlpbehokcogcpaaCyc

/-
  CONTRACTS: valid plans, as the model asks it.
-/
namespace Go.Proofs.Ytlpbehokcogcpaa
open Go Go.ChangeShapes Go.WideShapes Go.ChangeAt Go.RowKit
set_option maxRecDepth 100000

/-- has a plan a right cycle? -/
def cOk (xs : Slots) (b : Int) : Bool := btw b && (tkOk xs xs.length && decide (cyc xs b ≤ 240))

/-- what the model's cycle is -/
def CycS (xs : Slots) (b s : Int) : Prop := (cOk xs b = true → s = cyc xs b) ∧ (cOk xs b = false → 240 < s) ∧ 0 ≤ s ∧ s ≤ 1000

theorem cOk_btw {xs : Slots} {b : Int} (h : btw b = false) : cOk xs b = false := by unfold cOk; rw [h]; rfl

theorem cOk_tk {xs : Slots} {b : Int} {k : Nat} (hk : k < xs.length) (h : tkOne (st xs k) = false) : cOk xs b = false := by unfold cOk; rw [tkOk_no hk h]; simp

theorem tks_mono {xs : Slots} : ∀ {n m : Nat}, m ≤ n → tkOk xs n = true → tks xs m ≤ tks xs n
  | 0, m, hm, _ => by obtain rfl : m = 0 := by omega
                      exact Int.le_refl _
  | n + 1, m, hm, h => by
    by_cases c : m = n + 1
    · subst c; exact Int.le_refl _
    · have h1 := tkOk_at (k := n) (by omega) h
      have h2 : tkOk xs n = true := by unfold tkOk at h; rw [Bool.and_eq_true] at h; exact h.1
      have := tks_mono (m := m) (n := n) (by omega) h2
      show _ ≤ tks xs n + st xs n
      omega

theorem mul_mono {n m : Nat} {b : Int} (h : m ≤ n) (hb : 0 ≤ b) : (m : Int) * b ≤ (n : Int) * b := Int.mul_le_mul_of_nonneg_right (by omega) hb

theorem cOk_big {xs : Slots} {b s : Int} {k : Nat} (hk : k ≤ xs.length) (hb : btw b = true) (hs : s = (k : Int) * b + tks xs k) (h : 240 < s) : cOk xs b = false := by
  have hb' : 0 ≤ b ∧ b ≤ 240 := by simpa [btw] using hb
  cases h2 : tkOk xs xs.length
  · unfold cOk; rw [h2]; simp
  · have h3 := tks_mono hk h2
    have h4 := mul_mono (b := b) hk hb'.1
    unfold cOk
    rw [hb, h2]
    have h5 : 240 < cyc xs b := by unfold cyc; omega
    rw [decide_eq_false (by omega)]; rfl

theorem cOk_end {xs : Slots} {b s : Int} (hb : btw b = true) (ht : tkOk xs xs.length = true) (hs : s = (xs.length : Int) * b + tks xs xs.length) (h : s ≤ 240) : cOk xs b = true ∧ s = cyc xs b := by
  have e : s = cyc xs b := hs
  refine ⟨?_, e⟩
  unfold cOk; rw [hb, ht, decide_eq_true (by omega)]; rfl

end Go.Proofs.Ytlpbehokcogcpaa

/-
  CONTRACTS: valid plans, as the model asks it.
-/
namespace Go.Proofs.Ytlpbehokcogcpaa
open Go Go.ChangeShapes Go.WideShapes Go.ChangeAt Go.RowKit
set_option maxRecDepth 100000

theorem okP_cOk {xs : Slots} {b o : Int} (h : lenOk xs = true) : okP xs b o = (cOk xs b && decide (0 ≤ o ∧ o < cyc xs b)) := by
  unfold okP cOk; rw [h]; cases btw b <;> cases tkOk xs xs.length <;> simp

theorem lenOk_in (xs : Slots) : inB 1 8 ((xs.length : Nat) : Int) = lenOk xs := by unfold inB lenOk; exact decide_eq_decide.2 (by omega)

end Go.Proofs.Ytlpbehokcogcpaa
