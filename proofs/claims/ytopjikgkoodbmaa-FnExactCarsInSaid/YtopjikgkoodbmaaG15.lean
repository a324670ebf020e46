/-
  SEVERAL TEXTS IN ONE.
-/
import Derived.Test.YtopjikgkoodbmaaToPlan
import Derived.Test.YtopjikgkoodbmaaG4
import Derived.Defers
import Derived.Recover
import Derived.WalkLawsBesides
import Derived.Laws.Pointers
import Derived.Test.YtopjikgkoodbmaaVPlanI

/-
  CONTRACTS: checks that refuse by a panic, and what recovers it (plans that are not valid among them).
-/
namespace Go.Proofs.Ytopjikgkoodbmaa
open Go Go.RowKit
set_option maxRecDepth 100000

theorem all_no {q : Nat → Bool} {xs : List Nat} {k : Nat} (hk : k < xs.length) (hs : q (nth xs k) = false) : xs.all q = false := by
  cases h : xs.all q
  · rfl
  · have := List.all_eq_true.1 h (nth xs k) (by
      show (xs[k]?).getD 0 ∈ xs
      rw [List.getElem?_eq_getElem hk, Option.getD_some]; exact List.getElem_mem hk)
    rw [hs] at this; cases this
theorem all_next {q : Nat → Bool} {xs : List Nat} {k : Nat} (h : (xs.take k).all q = true) (hk : k < xs.length) (hs : q (nth xs k) = true) : (xs.take (k + 1)).all q = true := by
  have e : nth xs k = xs[k] := by
    show (xs[k]?).getD 0 = _
    rw [List.getElem?_eq_getElem hk, Option.getD_some]
  rw [List.take_succ_eq_append_getElem hk, List.all_append, h, ← e]
  simp [hs]

end Go.Proofs.Ytopjikgkoodbmaa

/-
  CONTRACTS: plans that are not valid are refused; the cycle of a plan.
-/
namespace Go.Proofs.Ytopjikgkoodbmaa
open Go Go.ChangeShapes Go.WideShapes Go.ChangeAt Go.RowKit
set_option maxRecDepth 100000

/-- the code of a plan -/
def okC (xs : Slots) (b o : Int) : Int := if okP xs b o then 0 else 1

theorem okC_yes {xs : Slots} {b o : Int} (h : okP xs b o = true) : okC xs b o = 0 := by unfold okC; rw [if_pos h]

theorem okC_no {xs : Slots} {b o : Int} (h : okP xs b o = false) : okC xs b o = 1 := by unfold okC; rw [h]; rfl

theorem callFunc_1 (g : Nat) : True := trivial

def vCycleOf (xs : Slots) (b o : Int) : Int × Int := if okP xs b o then (cyc xs b, 0) else (0, 1)

theorem vCycleOf_yes {xs : Slots} {b o : Int} (h : okP xs b o = true) : vCycleOf xs b o = (cyc xs b, 0) := by unfold vCycleOf; rw [if_pos h]

theorem vCycleOf_no {xs : Slots} {b o : Int} (h : okP xs b o = false) : vCycleOf xs b o = (0, 1) := by unfold vCycleOf; rw [h]; rfl

theorem cOk_of {xs : Slots} {b o : Int} (h : okP xs b o = true) : cOk xs b = true := by
  obtain ⟨hl, hb, ht, hc, -⟩ := okP_parts h
  unfold cOk btw
  rw [ht, decide_eq_true hb, decide_eq_true hc]; rfl

end Go.Proofs.Ytopjikgkoodbmaa

/-
  CONTRACTS: ticks, and places of the cycle.
-/
namespace Go.Proofs.Ytopjikgkoodbmaa
open Go Go.ChangeShapes Go.WideShapes Go.ChangeAt Go.RowKit
set_option maxRecDepth 100000

theorem rem_a {n : Int} (hn : 0 < n) (a : Int) : (a.tmod n + n).tmod n = a % n := by
  have h1 : -n < a.tmod n := by
    have := Int.lt_tmod_of_pos a hn
    exact this
  rw [Int.tmod_eq_emod_of_nonneg (by omega), Int.add_emod_right, Int.tmod_def, Int.sub_mul_emod_self_left]
theorem rem_b {n o t : Int} (hn : 0 < n) (ht : 0 ≤ t) (ho : 0 ≤ o ∧ o < n) : (t.tmod n - o + n).tmod n = (t - o) % n := by
  rw [Int.tmod_eq_emod_of_nonneg ht]
  have h1 := Int.emod_nonneg t (show n ≠ 0 by omega)
  rw [Int.tmod_eq_emod_of_nonneg (by omega), Int.add_emod_right, Int.emod_sub_emod]

theorem isTick_b (k : Int) (w : World) : Calls Try.prog 36 #[.int .i64 k] w (Rd (.bool (inB 0 1000000000 k)) w) := by
  by_cases h : 0 ≤ k
  · by_cases h2 : k ≤ 1000000000
    · rw [show inB 0 1000000000 k = true from decide_eq_true ⟨h, h2⟩]
      go_enter Try.func36, Try.ntmps36
      go_wp2
      go_ret
      exact Rd.mk0
    · rw [show inB 0 1000000000 k = false from decide_eq_false (by omega)]
      go_enter Try.func36, Try.ntmps36
      go_wp2
      go_ret
      exact Rd.mk0
  · rw [show inB 0 1000000000 k = false from decide_eq_false (by omega)]
    go_enter Try.func36, Try.ntmps36
    go_wp2
    go_ret
    exact Rd.mk0

theorem modulo_b (a n : Int) (hn : 0 < n ∧ n ≤ 240) (ha : -4000000000 ≤ a ∧ a ≤ 4000000000) (w : World) : Calls Try.prog 191 #[.int .i64 a, .int .i64 n] w (Rd (.int .i64 (a % n)) w) := by
  have e := rem_a hn.1 a
  have h1 : -n < a.tmod n := Int.lt_tmod_of_pos a hn.1
  have h2 : a.tmod n < n := Int.tmod_lt_of_pos a hn.1
  have h0 : ¬ n = 0 := by omega
  have s0 : IntKind.i64.wrap (a.tmod n) = a.tmod n := IntWalk.i64_in _ (by omega)
  have s1 : IntKind.i64.wrap (a.tmod n + n) = a.tmod n + n := IntWalk.i64_in _ (by omega)
  have h3 := Int.emod_nonneg a (show n ≠ 0 by omega)
  have h4 := Int.emod_lt_of_pos a hn.1
  have s2 : IntKind.i64.wrap ((a.tmod n + n).tmod n) = a % n := by rw [e]; exact IntWalk.i64_in _ (by omega)
  go_enter Try.func191, Try.ntmps191
  go_wp2
  go_ret
  exact Rd.mk0

end Go.Proofs.Ytopjikgkoodbmaa
