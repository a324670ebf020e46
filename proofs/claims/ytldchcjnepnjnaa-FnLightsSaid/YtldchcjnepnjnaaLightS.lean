/-
  CONTRACTS: the phase of a light, as the model has it.
-/
import Derived.Test.YtldchcjnepnjnaaLightL
namespace Go.Proofs.Ytldchcjnepnjnaa
open Go Go.ChangeShapes Go.WideShapes Go.ChangeAt Go.RowKit
set_option maxRecDepth 100000

theorem lpB_parts {xs : Slots} {b o s n : Int} {r : Bool} (h : lpB xs b o s n r = true) : okP xs b o = true ∧ 0 ≤ s ∧ s < (xs.length : Int) := by
  unfold lpB liB at h
  simp only [Bool.and_eq_true, decide_eq_true_eq] at h
  exact ⟨h.1, h.2.1.1⟩

/-- the phase of a light -/
def vLp (xs : Slots) (b o s n : Int) (r : Bool) : List Bool × Int := if lpB xs b o s n r then (if r then noes 8 else sb xs s.toNat, 0) else (noes 8, 1)

theorem vLp_no {xs : Slots} {b o s n : Int} {r : Bool} (h : lpB xs b o s n r = false) : vLp xs b o s n r = (noes 8, 1) := by unfold vLp; rw [h]; rfl

theorem vLp_red {xs : Slots} {b o s n : Int} (h : lpB xs b o s n true = true) : vLp xs b o s n true = (noes 8, 0) := by unfold vLp; rw [if_pos h]; rfl

theorem vLp_gr {xs : Slots} {b o n : Int} {k : Nat} (h : lpB xs b o k n false = true) : vLp xs b o k n false = (sb xs k, 0) := by unfold vLp; rw [if_pos h]; rfl

theorem vLp_len {xs : Slots} {b o s n : Int} {r : Bool} (hW : SlW xs) : (vLp xs b o s n r).1.length = 8 := by
  cases h : lpB xs b o s n r
  · rw [vLp_no h]; exact noes_len 8
  · cases r
    · obtain ⟨-, h1, h2⟩ := lpB_parts h
      obtain ⟨k, rfl⟩ : ∃ k : Nat, s = k := ⟨s.toNat, by omega⟩
      rw [vLp_gr h]
      exact (hW.at (by omega)).1
    · rw [vLp_red h]; exact noes_len 8

end Go.Proofs.Ytldchcjnepnjnaa
