/-
  FnExactIsShare: the program's IsShare answers as its model, at every narrow float. No condition.
-/
import Derived.Test.YtcnmjbogfkoecaaNum
import Derived.Test.YtcnmjbogfkoecaaLaw
namespace Go.Proofs.Ytcnmjbogfkoecaa.lawFnExactIsShare
open Go Go.ChangeShapes Go.WideShapes Go.ChangeAt Go.RowKit

theorem walk (a : Nat) (ha : a < 4294967296) (w : World) :
    Calls Try.prog 5 #[.float .f32 a] w (True? w) := by
  go_enter Try.func5, Try.ntmps5
  go_wp2_with (first | (go_at_call 18; refine (sIsShare_any a ha _).mono ?_; rintro e w' ⟨rfl, n, rfl⟩) | (go_at_call 19; refine (IsShare_any a ha _).mono ?_; rintro e w' ⟨rfl, n, rfl⟩))
  go_ret
  exact ⟨rfl, below_drewN (Below.refl _ _) _⟩

set_option maxRecDepth 100000 in
theorem lifted (os : Os) (started : os.Started) (H : Type) (enc : TypeId × Value → H) :
    ReturnsInHanded {} Try.checked os 5 .any (Rows.fnExactIsShareSpec.pre6 enc Try.prog Try.f5 Rows.fnExactIsShareRow.domain false) (Rows.fnExactIsShareSpec.post enc Try.prog Try.f5 false true false false) := by
  refine law_lifted enc os started (by kernel_rfl) Try.func5
    (ChangeSpec.witness6 (enc := enc) (C := Try.checked) false ⟨#[], #[.float .f32 0], []⟩ 24 (by kernel_rfl) (by kernel_rfl) (by kernel_rfl) (by kernel_rfl)) rfl (by kernel_rfl) ?_ ?_ ?_
  · rw [Try.params5]
    intro t ht
    have hall : (#[22].toList.all fun u => Try.prog.readableRec u && decide (u < Try.prog.types.size)) = true := by kernel_rfl
    have := List.all_eq_true.1 hall t ht
    simpa using this
  · intro ds h
    rw [Try.params5] at h
    match ds, h with
    | [d0], _ => rfl
  · intro W base args hl hval
    rw [Try.params5] at hl hval
    obtain ⟨v0, rfl⟩ : ∃ v0, args = #[v0] := by
      obtain ⟨l⟩ := args
      match l, hl with
      | [v0], _ => exact ⟨v0, rfl⟩
    obtain ⟨x0, rfl, h0⟩ := shape_f32 (hval 0 _ _ rfl rfl)
    exact walk x0 h0 W

/-- THE STATEMENT -/
theorem proved : Rows.FnExactIsShareSaid :=
  OpenClaim.holds_of_wide 5 Try.f5 rfl rfl rfl rfl rfl rfl rfl ⟨rfl, rfl, rfl, rfl, rfl⟩ rfl rfl rfl rfl rfl (by kernel_rfl) Try.func5 (by kernel_rfl)
    (of_decide_eq_true (by kernel_rfl)) (by unfold Func.isWrapper; first | (rw [if_pos (by decide +kernel)]; kernel_rfl) | (rw [if_neg (by decide +kernel)]; exact ⟨rfl, rfl⟩))
    (fun os started H enc _ => lifted os started H enc)
#print axioms proved
end Go.Proofs.Ytcnmjbogfkoecaa.lawFnExactIsShare
