/-
  FnExactToCount: the program's ToCount answers as its model, at every number, NaNs and infinities too. No condition.
-/
import Derived.Test.YteoplkhhlligcaaCnt
import Derived.Test.YteoplkhhlligcaaLaw
namespace Go.Proofs.Yteoplkhhlligcaa.lawFnExactToCount
open Go Go.ChangeShapes Go.WideShapes Go.ChangeAt Go.RowKit

theorem walk (a : Nat) (ha : a < 4294967296) (w : World) :
    Calls Try.prog 3 #[.float .f32 a] w (True? w) := by
  go_enter Try.func3, Try.ntmps3
  go_wp2_with fail
  refine (sToCount_any a ha _).mono ?_
  rintro e w1 ⟨rfl, n1, rfl⟩
  go_wp2_with fail
  refine (ToCount_any a ha _).mono ?_
  rintro e w2 ⟨rfl, hb2⟩
  go_wp2_with fail
  go_ret
  exact ⟨rfl, bthen (bdrew (Below.refl _ _) n1) hb2⟩

set_option maxRecDepth 100000 in
theorem lifted (os : Os) (started : os.Started) (H : Type) (enc : TypeId × Value → H) :
    ReturnsInHanded {} Try.checked os 3 .any (Rows.fnExactToCountSpec.pre6 enc Try.prog Try.f3 Rows.fnExactToCountRow.domain false) (Rows.fnExactToCountSpec.post enc Try.prog Try.f3 false true false false) := by
  refine law_lifted enc os started (by kernel_rfl) Try.func3
    (ChangeSpec.witness6 (enc := enc) (C := Try.checked) false ⟨#[], #[.float .f32 0], []⟩ 24 (by kernel_rfl) (by kernel_rfl) (by kernel_rfl) (by kernel_rfl)) rfl (by kernel_rfl) ?_ ?_ ?_
  · rw [Try.params3]
    intro t ht
    have hall : (#[22].toList.all fun u => Try.prog.readableRec u && decide (u < Try.prog.types.size)) = true := by kernel_rfl
    have := List.all_eq_true.1 hall t ht
    simpa using this
  · intro ds h
    rw [Try.params3] at h
    match ds, h with
    | [d0], _ => rfl
  · intro W base args hl hval
    rw [Try.params3] at hl hval
    obtain ⟨v0, rfl⟩ : ∃ v0, args = #[v0] := by
      obtain ⟨l⟩ := args
      match l, hl with
      | [v0], _ => exact ⟨v0, rfl⟩
    obtain ⟨x0, rfl, h0⟩ := shape_f32 (hval 0 _ _ rfl rfl)
    exact walk x0 h0 W

/-- THE STATEMENT -/
theorem proved : Rows.FnExactToCountSaid :=
  OpenClaim.holds_of_wide 3 Try.f3 rfl rfl rfl rfl rfl rfl rfl ⟨rfl, rfl, rfl, rfl, rfl⟩ rfl rfl rfl rfl rfl (by kernel_rfl) Try.func3 (by kernel_rfl)
    (of_decide_eq_true (by kernel_rfl)) (by unfold Func.isWrapper; first | (rw [if_pos (by decide +kernel)]; kernel_rfl) | (rw [if_neg (by decide +kernel)]; exact ⟨rfl, rfl⟩))
    (fun os started H enc _ => lifted os started H enc)
#print axioms proved
end Go.Proofs.Yteoplkhhlligcaa.lawFnExactToCount
