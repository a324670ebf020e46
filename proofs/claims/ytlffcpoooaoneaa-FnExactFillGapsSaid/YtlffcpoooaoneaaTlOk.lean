/-
  VALID LISTS OF TALLIES, in whole numbers.
  No Go text in it. Conditions: those of each theorem.
-/
import Derived.Test.YtlffcpoooaoneaaTl
namespace Go.Proofs.Ytlffcpoooaoneaa
open Go

/-- is the tally k one that can stand there -/
def okOne (xs : Ts) (k : Nat) : Bool := ((decide (0 ≤ tn xs k ∧ tn xs k ≤ 65535) && decide (0 ≤ tc xs k)) && (decide (0 ≤ tf xs k) && decide (tf xs k ≤ 1000))) && (decide (k = 0) || decide (tn xs (k - 1) < tn xs k))
def okTk (xs : Ts) : Nat → Bool
  | 0 => true
  | k + 1 => okTk xs k && okOne xs k
/-- is the list valid -/
def okT (xs : Ts) : Bool := decide (xs.length ≤ 96) && okTk xs xs.length
section
variable {xs : Ts} {k : Nat}
theorem okOne_1 (h : ¬ (0 ≤ tn xs k ∧ tn xs k ≤ 65535)) : okOne xs k = false := by unfold okOne; rw [decide_eq_false h]; rfl
theorem okOne_2 (h : ¬ 0 ≤ tc xs k) : okOne xs k = false := by unfold okOne; rw [decide_eq_false h, Bool.and_false]; rfl
theorem okOne_3 (h : ¬ 0 ≤ tf xs k) : okOne xs k = false := by unfold okOne; rw [decide_eq_false h, Bool.false_and, Bool.and_false]; rfl
theorem okOne_4 (h : ¬ tf xs k ≤ 1000) : okOne xs k = false := by unfold okOne; rw [decide_eq_false h, Bool.and_false, Bool.and_false]; rfl
theorem okOne_5 (h0 : 0 < k) (h : ¬ tn xs (k - 1) < tn xs k) : okOne xs k = false := by
  unfold okOne; rw [decide_eq_false h, decide_eq_false (by omega : ¬ k = 0), Bool.or_self, Bool.and_false]
theorem okOne_yes (h1 : 0 ≤ tn xs k ∧ tn xs k ≤ 65535) (h2 : 0 ≤ tc xs k) (h3 : 0 ≤ tf xs k) (h4 : tf xs k ≤ 1000) (h5 : k = 0 ∨ tn xs (k - 1) < tn xs k) : okOne xs k = true := by
  unfold okOne
  rw [decide_eq_true h1, decide_eq_true h2, decide_eq_true h3, decide_eq_true h4, Bool.true_and, Bool.true_and, Bool.true_and]
  rcases h5 with h | h
  · rw [decide_eq_true h, Bool.true_or]
  · rw [decide_eq_true h, Bool.or_true]
theorem okOne_of (h : okOne xs k = true) : (0 ≤ tn xs k ∧ tn xs k ≤ 65535) ∧ 0 ≤ tc xs k ∧ (0 ≤ tf xs k ∧ tf xs k ≤ 1000) ∧ (k = 0 ∨ tn xs (k - 1) < tn xs k) := by
  unfold okOne at h
  simp only [Bool.and_eq_true, Bool.or_eq_true, decide_eq_true_eq] at h
  exact ⟨h.1.1.1, h.1.1.2, h.1.2, h.2⟩
theorem okTk_next (h : okTk xs k = true) (h1 : okOne xs k = true) : okTk xs (k + 1) = true := by
  show (okTk xs k && okOne xs k) = true
  rw [h, h1]; rfl
theorem okTk_no : ∀ {n : Nat}, k < n → okOne xs k = false → okTk xs n = false
  | 0, h, _ => by omega
  | n + 1, h, h1 => by
    show (okTk xs n && okOne xs n) = false
    by_cases c : k = n
    · subst c; rw [h1, Bool.and_false]
    · rw [okTk_no (by omega) h1, Bool.false_and]
theorem okTk_at : ∀ {n : Nat}, okTk xs n = true → k < n → okOne xs k = true
  | 0, _, h => by omega
  | n + 1, h, hk => by
    have h' : (okTk xs n && okOne xs n) = true := h
    rw [Bool.and_eq_true] at h'
    by_cases c : k = n
    · subst c; exact h'.2
    · exact okTk_at h'.1 (by omega)
theorem okT_no (hk : k < xs.length) (h : okOne xs k = false) : okT xs = false := by unfold okT; rw [okTk_no hk h, Bool.and_false]
theorem okT_long (h : ¬ xs.length ≤ 96) : okT xs = false := by unfold okT; rw [decide_eq_false h]; rfl
theorem okT_all (h : okTk xs xs.length = true) : okT xs = decide (xs.length ≤ 96) := by unfold okT; rw [h, Bool.and_true]
theorem okT_yes (hl : xs.length ≤ 96) (h : okTk xs xs.length = true) : okT xs = true := by rw [okT_all h, decide_eq_true hl]
theorem okT_len (h : okT xs = true) : xs.length ≤ 96 := by unfold okT at h; rw [Bool.and_eq_true, decide_eq_true_eq] at h; exact h.1
theorem okT_at (h : okT xs = true) (hk : k < xs.length) : (0 ≤ tn xs k ∧ tn xs k ≤ 65535) ∧ 0 ≤ tc xs k ∧ (0 ≤ tf xs k ∧ tf xs k ≤ 1000) ∧ (k = 0 ∨ tn xs (k - 1) < tn xs k) := by
  unfold okT at h; rw [Bool.and_eq_true] at h; exact okOne_of (okTk_at h.2 hk)
end
end Go.Proofs.Ytlffcpoooaoneaa
