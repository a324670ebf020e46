/-
  SEVERAL TEXTS IN ONE.
-/
import Derived.Test.YtldchcjnepnjnaaSl
import Derived.Test.YtldchcjnepnjnaaAt
import Derived.WalkKit
import Derived.Test.YtldchcjnepnjnaaG1
import Derived.Deep.LoopGhost
import Derived.IntWalk

/-
  PLANS, AS NUMBERS: the cycle of a plan, what a valid plan is.
  No Go text in it. Conditions: those of each theorem.
-/
namespace Go.Proofs.Ytldchcjnepnjnaa
open Go Go.RowKit

/-- the ticks of the first m slots -/
def tks (xs : Slots) : Nat → Int
  | 0 => 0
  | m + 1 => tks xs m + st xs m
def tkOne (t : Int) : Bool := decide (1 ≤ t ∧ t ≤ 240)
/-- the first m slots have 1 to 240 ticks -/
def tkOk (xs : Slots) : Nat → Bool
  | 0 => true
  | m + 1 => tkOk xs m && tkOne (st xs m)
def btw (b : Int) : Bool := decide (0 ≤ b ∧ b ≤ 240)
/-- the cycle -/
def cyc (xs : Slots) (b : Int) : Int := (xs.length : Int) * b + tks xs xs.length
def lenOk (xs : Slots) : Bool := decide (1 ≤ xs.length ∧ xs.length ≤ 8)
/-- a valid plan -/
def okP (xs : Slots) (b o : Int) : Bool := lenOk xs && (btw b && (tkOk xs xs.length && (decide (cyc xs b ≤ 240) && decide (0 ≤ o ∧ o < cyc xs b))))
theorem tkOk_no {xs : Slots} : ∀ {m k : Nat}, k < m → tkOne (st xs k) = false → tkOk xs m = false
  | 0, k, h, _ => by omega
  | m + 1, k, h, e => by
    unfold tkOk
    by_cases c : k = m
    · subst c; rw [e, Bool.and_false]
    · rw [tkOk_no (by omega : k < m) e, Bool.false_and]
theorem tkOk_next {xs : Slots} {m : Nat} (h : tkOk xs m = true) (e : tkOne (st xs m) = true) : tkOk xs (m + 1) = true := by
  unfold tkOk; rw [h, e]; rfl
theorem tkOk_at {xs : Slots} : ∀ {m k : Nat}, k < m → tkOk xs m = true → 1 ≤ st xs k ∧ st xs k ≤ 240
  | 0, k, h, _ => by omega
  | m + 1, k, h, e => by
    unfold tkOk at e
    rw [Bool.and_eq_true] at e
    by_cases c : k = m
    · subst c; simpa [tkOne] using e.2
    · exact tkOk_at (by omega) e.1
theorem tks_bnd {xs : Slots} : ∀ {m n : Nat}, m ≤ n → tkOk xs n = true → (m : Int) ≤ tks xs m ∧ tks xs m ≤ 240 * m
  | 0, n, _, _ => by unfold tks; omega
  | m + 1, n, h, e => by
    have := tks_bnd (m := m) (n := n) (by omega) e
    have := tkOk_at (k := m) (m := n) (by omega) e
    unfold tks
    omega
theorem okP_parts {xs : Slots} {b o : Int} (h : okP xs b o = true) : (1 ≤ xs.length ∧ xs.length ≤ 8) ∧ (0 ≤ b ∧ b ≤ 240) ∧ tkOk xs xs.length = true ∧ cyc xs b ≤ 240 ∧ 0 ≤ o ∧ o < cyc xs b := by
  unfold okP lenOk btw at h
  simpa [and_assoc] using h
theorem okP_len {xs : Slots} {b o : Int} (h : lenOk xs = false) : okP xs b o = false := by unfold okP; rw [h]; rfl
theorem okP_btw {xs : Slots} {b o : Int} (h : btw b = false) : okP xs b o = false := by unfold okP; rw [h]; simp
theorem okP_tk {xs : Slots} {b o : Int} {k : Nat} (hk : k < xs.length) (h : tkOne (st xs k) = false) : okP xs b o = false := by unfold okP; rw [tkOk_no hk h]; simp
theorem okP_rest {xs : Slots} {b o : Int} (h1 : lenOk xs = true) (h2 : btw b = true) (h3 : tkOk xs xs.length = true) : okP xs b o = (decide (cyc xs b ≤ 240) && decide (0 ≤ o ∧ o < cyc xs b)) := by unfold okP; rw [h1, h2, h3]; rfl
end Go.Proofs.Ytldchcjnepnjnaa

/-
  CONTRACTS: is a number one of a range?
-/
namespace Go.Proofs.Ytldchcjnepnjnaa
open Go Go.RowKit
set_option maxRecDepth 100000


theorem l00In_b (k a b : Int) (w : World) : Calls Try.prog 23 #[.int .i64 k, .int .i64 a, .int .i64 b] w (Rd (.bool (inB a b k)) w) := by
  by_cases h : a ≤ k
  · by_cases h2 : k ≤ b
    · rw [show inB a b k = true from decide_eq_true ⟨h, h2⟩]
      go_enter Try.func23, Try.ntmps23
      go_wp2
      go_ret
      exact Rd.mk0
    · rw [show inB a b k = false from decide_eq_false (by omega)]
      go_enter Try.func23, Try.ntmps23
      go_wp2
      go_ret
      exact Rd.mk0
  · rw [show inB a b k = false from decide_eq_false (by omega)]
    go_enter Try.func23, Try.ntmps23
    go_wp2
    go_ret
    exact Rd.mk0

end Go.Proofs.Ytldchcjnepnjnaa
