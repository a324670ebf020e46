/-
  THE FIRST OF SOME NUMBERS WITH A PROPERTY; rows of tallies that are the same.
  No Go text in it. Conditions: those of each theorem.
-/
import Derived.Test.YteoplkhhlligcabTlOk
import Derived.Test.YteoplkhhlligcabIn
namespace Go.Proofs.Yteoplkhhlligcab
open Go

/-- the first number below k with the property -/
def firstHit (p : Nat → Bool) : Nat → Option Nat
  | 0 => none
  | k + 1 => match firstHit p k with
    | some j => some j
    | none => if p k then some k else none
theorem firstHit_miss {p : Nat → Bool} {k : Nat} (h : firstHit p k = none) (hp : p k = false) : firstHit p (k + 1) = none := by unfold firstHit; rw [h, hp]; rfl
theorem firstHit_hit {p : Nat → Bool} {k : Nat} (h : firstHit p k = none) (hp : p k = true) : ∀ n, k < n → firstHit p n = some k
  | 0, hn => by omega
  | n + 1, hn => by
    by_cases c : k = n
    · subst c; unfold firstHit; rw [h, hp]; rfl
    · unfold firstHit; rw [firstHit_hit h hp n (by omega)]

/-- how many tallies have been the same, one behind the other -/
def rowS (xs : Ts) : Nat → Int
  | 0 => 0
  | k + 1 => if tc xs k = 0 then 0 else if 0 < rowS xs k ∧ tc xs (k - 1) = tc xs k ∧ tf xs (k - 1) = tf xs k then rowS xs k + 1 else 1
section
variable {xs : Ts} {k : Nat}
theorem rowS_zero (h : tc xs k = 0) : rowS xs (k + 1) = 0 := by show (if _ then _ else _) = _; rw [if_pos h]
theorem rowS_more (h : tc xs k ≠ 0) (h2 : 0 < rowS xs k ∧ tc xs (k - 1) = tc xs k ∧ tf xs (k - 1) = tf xs k) : rowS xs (k + 1) = rowS xs k + 1 := by show (if _ then _ else _) = _; rw [if_neg h, if_pos h2]
theorem rowS_one (h : tc xs k ≠ 0) (h2 : ¬ (0 < rowS xs k ∧ tc xs (k - 1) = tc xs k ∧ tf xs (k - 1) = tf xs k)) : rowS xs (k + 1) = 1 := by show (if _ then _ else _) = _; rw [if_neg h, if_neg h2]
theorem rowS_bd (xs : Ts) : ∀ k, 0 ≤ rowS xs k ∧ rowS xs k ≤ (k : Int)
  | 0 => ⟨by show (0 : Int) ≤ 0; omega, by show (0 : Int) ≤ ((0 : Nat) : Int); omega⟩
  | k + 1 => by
    have h := rowS_bd xs k
    by_cases z : tc xs k = 0
    · rw [rowS_zero z]; omega
    · by_cases c : 0 < rowS xs k ∧ tc xs (k - 1) = tc xs k ∧ tf xs (k - 1) = tf xs k
      · rw [rowS_more z c]; omega
      · rw [rowS_one z c]; omega
theorem rowS_pos (h0 : 0 < k) (h : tc xs (k - 1) ≠ 0) : 0 < rowS xs k := by
  obtain ⟨j, rfl⟩ : ∃ j, k = j + 1 := ⟨k - 1, by omega⟩
  have hb := rowS_bd xs j
  rw [show j + 1 - 1 = j from rfl] at h
  by_cases c : 0 < rowS xs j ∧ tc xs (j - 1) = tc xs j ∧ tf xs (j - 1) = tf xs j
  · rw [rowS_more h c]; omega
  · rw [rowS_one h c]; omega
end
/-- what FirstStuck tells -/
def hitS (xs : Ts) (tm : Int) (k : Nat) : Bool := decide (rowS xs (k + 1) = tm)
def vStuck (xs : Ts) (tm : Int) : Int × Int := if okT xs then (if inB 1 96 tm then (match firstHit (hitS xs tm) xs.length with | some k => (tn xs k, 0) | none => (0, 6)) else (0, 2)) else (0, 1)
section
variable {xs : Ts} {tm : Int}
theorem vStuck_1 (h : okT xs = false) : vStuck xs tm = (0, 1) := by unfold vStuck; rw [h]; rfl
theorem vStuck_2 (h : okT xs = true) (h2 : inB 1 96 tm = false) : vStuck xs tm = (0, 2) := by unfold vStuck; rw [if_pos h, h2]; rfl
theorem vStuck_6 (h : okT xs = true) (h2 : inB 1 96 tm = true) (h3 : firstHit (hitS xs tm) xs.length = none) : vStuck xs tm = (0, 6) := by unfold vStuck; rw [if_pos h, if_pos h2, h3]
theorem vStuck_0 (h : okT xs = true) (h2 : inB 1 96 tm = true) {k : Nat} (hk : k < xs.length) (h3 : firstHit (hitS xs tm) k = none) (h4 : rowS xs (k + 1) = tm) : vStuck xs tm = (tn xs k, 0) := by
  unfold vStuck; rw [if_pos h, if_pos h2, firstHit_hit h3 (decide_eq_true h4) _ hk]
end
end Go.Proofs.Yteoplkhhlligcab
