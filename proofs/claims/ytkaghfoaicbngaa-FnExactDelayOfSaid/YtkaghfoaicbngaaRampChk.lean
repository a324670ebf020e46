/-
  RampStep: its checks, what joins.
-/
import Derived.Test.YtkaghfoaicbngaaStep
import Derived.Test.YtkaghfoaicbngaaRes
import Derived.Test.YtkaghfoaicbngaaCell2
namespace Go.Proofs.Ytkaghfoaicbngaa
open Go Go.RowKit
set_option maxRecDepth 100000

/-- what joins -/
def joinW (p b : Nat) (cs : List Nat) (o m j k : Nat) : Nat := min j (posB (difB (takesW p b (nth cs k)) (nth (fluxL p b cs o m) k)))
/-- the flows into the cells, with what joins -/
def rampIn (p b : Nat) (cs : List Nat) (o m j k : Nat) : List Nat := (intoL (fluxL p b cs o m)).set k (addB (nth (intoL (fluxL p b cs o m)) k) (joinW p b cs o m j k))
theorem rampIn_len (p b : Nat) (cs : List Nat) (o m j k : Nat) : (rampIn p b cs o m j k).length = 16 := by unfold rampIn; rw [List.length_set]; exact intoL_len (fluxL_len _ _ _ _ _)
theorem ramp_facts {cs : List Nat} {p b l : Nat} (ok : OkR cs p b l) (o m : Nat) {j : Nat} (hj : j < 2139095040) {k : Nat} (hk : k < 16) :
    floatBits .sub .f32 (takesW p b (nth cs k)) (nth (fluxL p b cs o m) k) = some (difB (takesW p b (nth cs k)) (nth (fluxL p b cs o m) k)) ∧ Fin (difB (takesW p b (nth cs k)) (nth (fluxL p b cs o m) k)) ∧
    posB (minS j (difB (takesW p b (nth cs k)) (nth (fluxL p b cs o m) k))) = joinW p b cs o m j k ∧ joinW p b cs o m j k ≤ 1065353216 ∧
    floatBits .add .f32 (nth (intoL (fluxL p b cs o m)) k) (joinW p b cs o m j k) = some (addB (nth (intoL (fluxL p b cs o m)) k) (joinW p b cs o m j k)) ∧ addB (nth (intoL (fluxL p b cs o m)) k) (joinW p b cs o m j k) ≤ 1073741824 ∧
    (∀ x ∈ rampIn p b cs o m j k, x ≤ 1073741824) := by
  have h1 := takesW_le (a := nth cs k) ok.pace ok.back
  have h2 := nth_le (fluxL_le ok o m) k
  have h3 := nth_le (fluxL_le ok o m)
  have d1 := dif_fin (show takesW p b (nth cs k) < 2139095040 by omega) (show nth (fluxL p b cs o m) k < 2139095040 by omega)
  have d2 := posB_dif (show takesW p b (nth cs k) < 2139095040 by omega) (show nth (fluxL p b cs o m) k < 2139095040 by omega)
  have h4 : joinW p b cs o m j k ≤ 1065353216 := by unfold joinW; exact Nat.le_trans (Nat.min_le_right _ _) (Nat.le_trans d2 h1)
  have h5 : nth (intoL (fluxL p b cs o m)) k ≤ 1065353216 := by rw [intoL_nth _ hk]; exact h2
  have a1 := (add_eq (show nth (intoL (fluxL p b cs o m)) k < 2139095040 by omega) (show joinW p b cs o m j k < 2139095040 by omega)).1
  have a2 : addB (nth (intoL (fluxL p b cs o m)) k) (joinW p b cs o m j k) ≤ 1073741824 := by
    refine add_le (by omega) (by omega) ?_
    have e1 := rv_le (p := 23) h5
    have e2 := rv_le (p := 23) h4
    have e3 : rv 23 1065353216 + rv 23 1065353216 = rv 23 1073741824 := by decide
    omega
  refine ⟨dif_eq (by omega) (by omega), d1, minS_pos hj d1, h4, a1, a2, fun x hx => ?_⟩
  unfold rampIn at hx
  rcases List.mem_or_eq_of_mem_set hx with h | rfl
  · unfold intoL at h
    have := fluxL_le ok o m x (List.mem_of_mem_take (List.mem_of_mem_drop h))
    omega
  · exact a2
theorem outL_le {cs : List Nat} {p b l : Nat} (ok : OkR cs p b l) (o m : Nat) : ∀ x ∈ outL (fluxL p b cs o m), x ≤ 1065353216 := fun x hx => by
  unfold outL at hx
  exact fluxL_le ok o m x (List.mem_of_mem_take (List.mem_of_mem_drop hx))
theorem intoL_le {cs : List Nat} {p b l : Nat} (ok : OkR cs p b l) (o m : Nat) : ∀ x ∈ intoL (fluxL p b cs o m), x ≤ 1065353216 := fun x hx => by
  unfold intoL at hx
  exact fluxL_le ok o m x (List.mem_of_mem_take (List.mem_of_mem_drop hx))
end Go.Proofs.Ytkaghfoaicbngaa
