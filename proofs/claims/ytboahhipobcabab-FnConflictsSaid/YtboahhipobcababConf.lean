/-
  CONFLICTS, AS NUMBERS: what a valid table is; the first two movements of a phase that conflict; the number of a phase.
  No Go text in it. Conditions: those of each theorem.
-/
import Derived.Test.YtboahhipobcababBl
namespace Go.Proofs.Ytboahhipobcabab
open Go Go.RowKit

/-- a table's entry -/
def tb (ts : List Bool) (i k : Nat) : Bool := bn ts (i * 8 + k)
/-- row i, from its first entry on: m entries agree with the column -/
def rowEq (ts : List Bool) (i : Nat) : Nat → Bool
  | 0 => true
  | m + 1 => rowEq ts i m && (tb ts i m == tb ts m i)
/-- the first m rows are right -/
def rowsT (ts : List Bool) : Nat → Bool
  | 0 => true
  | m + 1 => rowsT ts m && (rowEq ts m m && !tb ts m m)
/-- a valid table -/
def okT (ts : List Bool) : Bool := rowsT ts 8
theorem rowEq_no {ts : List Bool} {i : Nat} : ∀ {m k : Nat}, k < m → (tb ts i k == tb ts k i) = false → rowEq ts i m = false
  | 0, k, h, _ => by omega
  | m + 1, k, h, e => by
    unfold rowEq
    by_cases c : k = m
    · subst c; rw [e, Bool.and_false]
    · rw [rowEq_no (by omega : k < m) e, Bool.false_and]
theorem rowsT_no {ts : List Bool} : ∀ {m k : Nat}, k < m → (rowEq ts k k && !tb ts k k) = false → rowsT ts m = false
  | 0, k, h, _ => by omega
  | m + 1, k, h, e => by
    unfold rowsT
    by_cases c : k = m
    · subst c; rw [e, Bool.and_false]
    · rw [rowsT_no (by omega : k < m) e, Bool.false_and]
theorem okT_off {ts : List Bool} {i k : Nat} (hi : i < 8) (hk : k < i) (h : tb ts i k ≠ tb ts k i) : okT ts = false :=
  rowsT_no hi (by rw [rowEq_no hk (by simpa using h), Bool.false_and])
theorem okT_diag {ts : List Bool} {i : Nat} (hi : i < 8) (h : tb ts i i = true) : okT ts = false :=
  rowsT_no hi (by rw [h]; simp)
theorem rowEq_next {ts : List Bool} {i m : Nat} (h : rowEq ts i m = true) (e : tb ts i m = tb ts m i) : rowEq ts i (m + 1) = true := by
  unfold rowEq; rw [h, e]; simp
theorem rowsT_next {ts : List Bool} {m : Nat} (h : rowsT ts m = true) (e : rowEq ts m m = true) (d : tb ts m m = false) : rowsT ts (m + 1) = true := by
  unfold rowsT; rw [h, e, d]; rfl

/-- two movements with green that conflict -/
def hit (ts ps : List Bool) (i k : Nat) : Bool := bn ps i && (bn ps k && tb ts i k)
/-- the first such k of row i among the last n -/
def rowHit (ts ps : List Bool) (i : Nat) : Nat → Option Nat
  | 0 => none
  | n + 1 => if hit ts ps i (8 - (n + 1)) then some (8 - (n + 1)) else rowHit ts ps i n
/-- the first such pair in the last n rows -/
def hits (ts ps : List Bool) : Nat → Option (Nat × Nat)
  | 0 => none
  | n + 1 => match rowHit ts ps (8 - (n + 1)) n with
    | some k => some (8 - (n + 1), k)
    | none => hits ts ps n
def conf (ts ps : List Bool) : Option (Nat × Nat) := hits ts ps 8
theorem rowHit_yes {ts ps : List Bool} {i k n : Nat} (hk : k < 8) (hn : n = 8 - k) (h : hit ts ps i k = true) : rowHit ts ps i n = some k := by
  subst hn
  obtain ⟨m, hm⟩ : ∃ m, 8 - k = m + 1 := ⟨7 - k, by omega⟩
  have e : 8 - (m + 1) = k := by omega
  rw [hm]; unfold rowHit; rw [e, if_pos h]
theorem rowHit_no {ts ps : List Bool} {i k n m : Nat} (hk : k < 8) (hn : n = 8 - k) (hm : m = 8 - (k + 1)) (h : hit ts ps i k = false) : rowHit ts ps i n = rowHit ts ps i m := by
  subst hn hm
  rw [show 8 - k = (8 - (k + 1)) + 1 from by omega]
  show (if hit ts ps i (8 - ((8 - (k + 1)) + 1)) then _ else _) = _
  rw [show 8 - ((8 - (k + 1)) + 1) = k from by omega, h]; rfl
theorem hits_yes {ts ps : List Bool} {i k n : Nat} (hi : i < 8) (hn : n = 8 - i) (h : rowHit ts ps i (7 - i) = some k) : hits ts ps n = some (i, k) := by
  subst hn
  rw [show 8 - i = (7 - i) + 1 from by omega]
  unfold hits
  rw [show 8 - ((7 - i) + 1) = i from by omega, h]
theorem hits_no {ts ps : List Bool} {i n m : Nat} (hi : i < 8) (hn : n = 8 - i) (hm : m = 8 - (i + 1)) (h : rowHit ts ps i (7 - i) = none) : hits ts ps n = hits ts ps m := by
  subst hn hm
  rw [show 8 - i = (7 - i) + 1 from by omega]
  conv => lhs; unfold hits
  rw [show 8 - ((7 - i) + 1) = i from by omega, h, show 8 - (i + 1) = 7 - i from by omega]
theorem hit_a {ts ps : List Bool} {i k : Nat} (h : bn ps i = false) : hit ts ps i k = false := by unfold hit; rw [h]; rfl
theorem hit_b {ts ps : List Bool} {i k : Nat} (h : bn ps k = false) : hit ts ps i k = false := by unfold hit; rw [h]; simp
theorem hit_c {ts ps : List Bool} {i k : Nat} (h : tb ts i k = false) : hit ts ps i k = false := by unfold hit; rw [h]; simp
theorem hit_y {ts ps : List Bool} {i k : Nat} (ha : bn ps i = true) (hb : bn ps k = true) (h : tb ts i k = true) : hit ts ps i k = true := by unfold hit; rw [ha, hb, h]; rfl
/-- a conflict's words -/
def cfI : Option (Nat × Nat) → Int
  | some (i, _) => i
  | none => 0
def cfK : Option (Nat × Nat) → Int
  | some (_, k) => k
  | none => 0
def cfB (c : Option (Nat × Nat)) : Bool := c.isSome

/-- the number of the first k of a phase -/
def numTo (bs : List Bool) : Nat → Nat
  | 0 => 0
  | k + 1 => numTo bs k + (if bn bs k then 2 ^ k else 0)
theorem numTo_lt (bs : List Bool) : ∀ k, numTo bs k < 2 ^ k
  | 0 => Nat.one_pos
  | k + 1 => by
    have := numTo_lt bs k
    unfold numTo
    rw [Nat.pow_succ]
    split <;> omega
theorem numTo_y {bs : List Bool} {k : Nat} (h : bn bs k = true) : numTo bs (k + 1) = numTo bs k + 2 ^ k := by
  show numTo bs k + _ = _; rw [if_pos h]
theorem numTo_n {bs : List Bool} {k : Nat} (h : bn bs k = false) : numTo bs (k + 1) = numTo bs k := by
  show numTo bs k + _ = _; rw [h]; rfl
def numB (bs : List Bool) : Nat := numTo bs 8
theorem pow_lt8 {k : Nat} (h : k < 8) : 2 ^ k ≤ 128 := by
  rcases (by omega : k = 0 ∨ k = 1 ∨ k = 2 ∨ k = 3 ∨ k = 4 ∨ k = 5 ∨ k = 6 ∨ k = 7) with rfl | rfl | rfl | rfl | rfl | rfl | rfl | rfl <;> decide
theorem numTo_lt8 (bs : List Bool) {k : Nat} (h : k ≤ 8) : numTo bs k < 256 := by
  have := numTo_lt bs k
  have : 2 ^ k ≤ 2 ^ 8 := Nat.pow_le_pow_right (by decide) h
  omega
end Go.Proofs.Ytboahhipobcabab
