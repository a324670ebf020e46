/-
  FnExactNumberOfPhase: the program's NumberOfPhase answers as its model, at every phase. No condition.
-/
import Derived.Test.YtkhnhbmnmciiaaaPhNum
namespace Go.Proofs.Ytkhnhbmnmciiaaa.lawFnExactNumberOfPhase
open Go Go.ChangeShapes Go.WideShapes Go.ChangeAt Go.RowKit

set_option maxRecDepth 100000
theorem walk (bs : List Bool) (hl : bs.length = 8) (w : World) :
    Calls Try.prog 7 #[.agg (bl bs)] w (True? w) := by
  have A0 := At.new w (bl bs) 22
  have SZ : (bl bs).size = 8 := by rw [bl_size, hl]
  go_enter Try.func7, Try.ntmps7
  go_wp2_with (((with_reducible refine is_load 22 _ rfl ?_); refine wpList_load_at rfl 22 _ rfl _ rfl (bl bs) _ (by assumption) 8 (SZ) _ Try.underlying22 rfl (by kernel_rfl) ?_))
  refine (toPhase_any bs hl _).mono ?_
  rintro e w1 ⟨rfl, hb1⟩
  have A1 := A0.step hb1
  go_wp2_with fail
  refine (sNumberOfPhase_any bs hl _).mono ?_
  rintro e w2 ⟨rfl, hb2⟩
  have A2 := A1.step hb2
  go_wp2_with (((with_reducible refine is_load 22 _ rfl ?_); refine wpList_load_at rfl 22 _ rfl _ rfl (bl bs) _ (by assumption) 8 (SZ) _ Try.underlying22 rfl (by kernel_rfl) ?_))
  refine (toPhase_any bs hl _).mono ?_
  rintro e w3 ⟨rfl, hb3⟩
  go_wp2_with fail
  refine (NumberOfPhase_any bs hl _).mono ?_
  rintro e w4 ⟨rfl, hb4⟩
  go_wp2_with fail
  go_ret
  exact ⟨rfl, bthen (bthen (bthen (bthen (b0 _ _) hb1) hb2) hb3) hb4⟩

set_option maxRecDepth 100000 in
theorem lifted (os : Os) (started : os.Started) (H : Type) (enc : TypeId × Value → H) :
    ReturnsInHanded {} Try.checked os 7 .any (Rows.fnExactNumberOfPhaseSpec.pre6 enc Try.prog Try.f7 Rows.fnExactNumberOfPhaseRow.domain false) (Rows.fnExactNumberOfPhaseSpec.post enc Try.prog Try.f7 false true false false) := by
  refine law_lifted enc os started (by kernel_rfl) Try.func7
    (ChangeSpec.witness6 (enc := enc) (C := Try.checked) false ⟨#[], #[.agg (Array.replicate 8 (.bool false))], []⟩ 24 (by kernel_rfl) (by kernel_rfl) (by kernel_rfl) (by kernel_rfl)) rfl (by kernel_rfl) ?_ ?_ ?_
  · rw [Try.params7]
    intro t ht
    have hall : (#[22].toList.all fun u => Try.prog.readableRec u && decide (u < Try.prog.types.size)) = true := by kernel_rfl
    have := List.all_eq_true.1 hall t ht
    simpa using this
  · intro ds h
    rw [Try.params7] at h
    match ds, h with
    | [d0], _ => rfl
  · intro W base args hl hval
    rw [Try.params7] at hl hval
    obtain ⟨v0, rfl⟩ : ∃ v0, args = #[v0] := by
      obtain ⟨l⟩ := args
      match l, hl with
      | [v0], _ => exact ⟨v0, rfl⟩
    obtain ⟨c0, rfl, hl0⟩ := shape_bl (n := 8) Try.underlying22 rfl (by kernel_rfl) (by kernel_rfl) (hval 0 _ _ rfl rfl)
    exact walk c0 hl0 W

/-- THE STATEMENT -/
theorem proved : Rows.FnExactNumberOfPhaseSaid :=
  OpenClaim.holds_of_wide 7 Try.f7 rfl rfl rfl rfl rfl rfl rfl ⟨rfl, rfl, rfl, rfl, rfl⟩ rfl rfl rfl rfl rfl (by kernel_rfl) Try.func7 (by kernel_rfl)
    (of_decide_eq_true (by kernel_rfl)) (by unfold Func.isWrapper; first | (rw [if_pos (by decide +kernel)]; kernel_rfl) | (rw [if_neg (by decide +kernel)]; exact ⟨rfl, rfl⟩))
    (fun os started H enc _ => lifted os started H enc)
#print axioms proved
end Go.Proofs.Ytkhnhbmnmciiaaa.lawFnExactNumberOfPhase
