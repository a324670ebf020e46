/-
  CONTRACTS: FluxesOf.
-/
import Derived.Test.YtkaghfoaicbngaaFluxesS
import Derived.BigQuiet
namespace Go.Proofs.Ytkaghfoaicbngaa
open Go Go.RowKit
set_option maxRecDepth 100000

def vFluxesOf (cs : List Nat) (p b l o m : Nat) : List Nat × Int := if givenC (okB cs p b l) o m = 0 then (fluxL p b cs o m, 0) else (zeros 17, givenC (okB cs p b l) o m)

theorem given_zero {ok : Bool} {o m : Nat} (h : givenC ok o m = 0) : ok = true ∧ o < 2139095040 ∧ m < 2139095040 := by
  unfold givenC at h
  cases ok
  · simp at h
  · cases c1 : amtB o
    · rw [c1] at h; simp at h
    · cases c2 : amtB m
      · rw [c1, c2] at h; simp at h
      · unfold amtB at c1 c2; simp at c1 c2; exact ⟨rfl, c1, c2⟩

theorem vFluxesOf_good {cs : List Nat} (hl : cs.length = 16) (p b l o m : Nat) : (vFluxesOf cs p b l o m).1.length = 17 ∧ ∀ x ∈ (vFluxesOf cs p b l o m).1, x < 4294967296 ∧ nanB x = false := by
  unfold vFluxesOf
  by_cases h : givenC (okB cs p b l) o m = 0
  · rw [if_pos h]
    have ok := OkR.of hl (given_zero h).1
    exact ⟨fluxL_len _ _ _ _ _, fun x hx => nan_le (fluxL_le ok o m x hx) (by omega)⟩
  · rw [if_neg h]
    exact ⟨zeros_len _, fun x hx => by obtain rfl := List.eq_of_mem_replicate hx; decide⟩

end Go.Proofs.Ytkaghfoaicbngaa
