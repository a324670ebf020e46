/-
  CONTRACTS: arms, priorities, rows of amounts and of shares.
-/
import Derived.Test.YtcnbccjkcaoflaaG2
namespace Go.Proofs.Ytcnbccjkcaoflaa
open Go Go.RowKit
set_option maxRecDepth 100000

theorem l00In_b (k a b : Int) (w : World) : Calls Try.prog 38 #[.int .i64 k, .int .i64 a, .int .i64 b] w (Rd (.bool (inB a b k)) w) := by
  by_cases h : a ≤ k
  · by_cases h2 : k ≤ b
    · rw [show inB a b k = true from decide_eq_true ⟨h, h2⟩]
      go_enter Try.func38, Try.ntmps38
      go_wp2
      go_ret
      exact Rd.mk0
    · rw [show inB a b k = false from decide_eq_false (by omega)]
      go_enter Try.func38, Try.ntmps38
      go_wp2
      go_ret
      exact Rd.mk0
  · rw [show inB a b k = false from decide_eq_false (by omega)]
    go_enter Try.func38, Try.ntmps38
    go_wp2
    go_ret
    exact Rd.mk0

/-- a priority: 1/64 to 64 -/
def priB (p : Nat) : Bool := decide (1015021568 ≤ p ∧ p ≤ 1115684864)

theorem priB_amt {p : Nat} (h : priB p = true) : 1015021568 ≤ p ∧ p ≤ 1115684864 := by unfold priB at h; simpa using h

/-- an amount that is 0 from arm n on -/
def amtA (n : Int) (k a : Nat) : Bool := amtB a && (decide (a = 0) || decide ((k : Int) < n))

/-- the first m of four numbers are such -/
def amtTo (n : Int) (xs : List Nat) (m : Nat) : Bool := (List.range m).all fun k => amtA n k (nth xs k)

theorem amtTo_succ (n : Int) (xs : List Nat) (m : Nat) : amtTo n xs (m + 1) = (amtTo n xs m && amtA n m (nth xs m)) := by
  unfold amtTo; rw [List.range_succ, List.all_append]; simp

theorem amtTo_no {n : Int} {xs : List Nat} {m k : Nat} (hk : k < m) (h : amtA n k (nth xs k) = false) : amtTo n xs m = false := by
  rw [Bool.eq_false_iff]
  intro h2
  have := List.all_eq_true.1 h2 k (by simpa using hk)
  rw [h] at this; cases this

theorem amtTo_at {n : Int} {xs : List Nat} {m k : Nat} (hk : k < m) (h : amtTo n xs m = true) : amtA n k (nth xs k) = true :=
  List.all_eq_true.1 h k (by simpa using hk)

theorem amtA_zero {n : Int} {k a : Nat} (h : amtB a = true) (z : a = 0) : amtA n k a = true := by unfold amtA; rw [h, decide_eq_true z]; rfl

theorem amtA_in {n : Int} {k a : Nat} (h : amtB a = true) (z : 0 ≤ (k : Int) ∧ (k : Int) < n) : amtA n k a = true := by unfold amtA; rw [h, decide_eq_true z.2]; simp

theorem amtA_out {n : Int} {k a : Nat} (h : a ≠ 0) (z : ¬ (0 ≤ (k : Int) ∧ (k : Int) < n)) : amtA n k a = false := by unfold amtA; rw [decide_eq_false h, decide_eq_false (by omega)]; simp

theorem amtA_bad {n : Int} {k a : Nat} (h : amtB a = false) : amtA n k a = false := by unfold amtA; rw [h]; rfl

theorem ne_amt {x y : Nat} (hx : x ≤ 2139095040) (hy : y ≤ 2139095040) : (FloatKind.f32.format.order x y != some .eq) = !decide (x = y) := congrArg not (eq_amt hx hy)

/-- the first m of four numbers are shares -/
def shrTo (xs : List Nat) (m : Nat) : Bool := (List.range m).all fun k => shrB (nth xs k)

theorem shrTo_succ (xs : List Nat) (m : Nat) : shrTo xs (m + 1) = (shrTo xs m && shrB (nth xs m)) := by
  unfold shrTo; rw [List.range_succ, List.all_append]; simp

theorem shrTo_no {xs : List Nat} {m k : Nat} (hk : k < m) (h : shrB (nth xs k) = false) : shrTo xs m = false := by
  rw [Bool.eq_false_iff]
  intro h2
  have := List.all_eq_true.1 h2 k (by simpa using hk)
  rw [h] at this; cases this

theorem shrTo_at {xs : List Nat} {m k : Nat} (hk : k < m) (h : shrTo xs m = true) : nth xs k ≤ 1065353216 := by
  have := List.all_eq_true.1 h k (by simpa using hk)
  unfold shrB at this; simpa using this

end Go.Proofs.Ytcnbccjkcaoflaa
