/-
  FnExactValidDeed: the program's ValidDeed answers as its model, at every deed. No condition.
-/
import Derived.Test.YtkaghfoaicbngabDeed
import Derived.Test.YtkaghfoaicbngabLaw
namespace Go.Proofs.Ytkaghfoaicbngab.lawFnExactValidDeed
open Go Go.ChangeShapes Go.WideShapes Go.ChangeAt Go.RowKit

set_option maxHeartbeats 400000 in
theorem walk (k a b : Int) (_hk : -9223372036854775808 ≤ k ∧ k ≤ 9223372036854775807) (_ha : -9223372036854775808 ≤ a ∧ a ≤ 9223372036854775807) (_hb : -9223372036854775808 ≤ b ∧ b ≤ 9223372036854775807) (w : World) :
    Calls Try.prog 8 #[.agg (de k a b)] w (True? w) := by
  have A0 := At.new w (de k a b) 71
  go_enter Try.func8, Try.ntmps8
  go_wp2_with (((with_reducible refine is_load 71 _ rfl ?_); refine wpList_load_at rfl 71 _ rfl _ rfl ((de k a b)) _ (by with_reducible assumption) 3 (de_size _ _ _) _ Try.underlying71 rfl (by kernel_rfl) ?_))
  refine (toDeed_any k a b _).mono ?_
  rintro e w1 ⟨rfl, hb1⟩
  have A1 := A0.step hb1
  go_wp2_with fail
  refine (sValidDeed_any k a b _).mono ?_
  rintro e w2 ⟨rfl, hb2⟩
  have A2 := A1.step hb2
  go_wp2_with (((with_reducible refine is_load 71 _ rfl ?_); refine wpList_load_at rfl 71 _ rfl _ rfl ((de k a b)) _ (by with_reducible assumption) 3 (de_size _ _ _) _ Try.underlying71 rfl (by kernel_rfl) ?_))
  refine (toDeed_any k a b _).mono ?_
  rintro e w3 ⟨rfl, hb3⟩
  go_wp2_with fail
  refine (ValidDeed_any k a b _).mono ?_
  rintro e w4 ⟨rfl, hb4⟩
  go_wp2_with fail
  go_ret
  exact ⟨rfl, bthen (bthen (bthen (bthen (b0 _ _) hb1) hb2) hb3) hb4⟩

set_option maxRecDepth 100000 in
theorem lifted (os : Os) (started : os.Started) (H : Type) (enc : TypeId × Value → H) :
    ReturnsInHanded {} Try.checked os 8 .any (Rows.fnExactValidDeedSpec.pre6 enc Try.prog Try.f8 Rows.fnExactValidDeedRow.domain false) (Rows.fnExactValidDeedSpec.post enc Try.prog Try.f8 false true false false) := by
  refine law_lifted enc os started (by kernel_rfl) Try.func8
    (ChangeSpec.witness6 (enc := enc) (C := Try.checked) false ⟨#[], #[.agg #[.int .i64 0, .int .i64 0, .int .i64 0]], []⟩ 24 (by kernel_rfl) (by kernel_rfl) (by kernel_rfl) (by kernel_rfl)) rfl (by kernel_rfl) ?_ ?_ ?_
  · rw [Try.params8]
    intro t ht
    have hall : (#[71].toList.all fun u => Try.prog.readableRec u && decide (u < Try.prog.types.size)) = true := by kernel_rfl
    have := List.all_eq_true.1 hall t ht
    simpa using this
  · intro ds h
    rw [Try.params8] at h
    match ds, h with
    | [d0], _ => rfl
  · intro W base args hl hval
    rw [Try.params8] at hl hval
    obtain ⟨v0, rfl⟩ : ∃ v0, args = #[v0] := by
      obtain ⟨l⟩ := args
      match l, hl with
      | [v0], _ => exact ⟨v0, rfl⟩
    obtain ⟨k0, a0, b0, rfl, hk0, ha0, hb0⟩ := shape_deed (hval 0 _ _ rfl rfl)
    exact walk k0 a0 b0 hk0 ha0 hb0 W

/-- THE STATEMENT -/
theorem proved : Rows.FnExactValidDeedSaid := by
  first
    | (refine OpenClaim.holds_of_wide 8 Try.f8 rfl rfl rfl rfl rfl rfl rfl ⟨rfl, rfl, rfl, rfl, rfl⟩ rfl rfl rfl rfl rfl (by kernel_rfl) Try.func8 (by kernel_rfl) (of_decide_eq_true (by kernel_rfl)) ?_ (fun os started H enc _ => lifted os started H enc))
    | (refine OpenClaim.holds_of_wide_leaving 8 Try.f8 rfl rfl rfl rfl rfl rfl rfl ⟨rfl, rfl, rfl, rfl, rfl⟩ rfl rfl rfl rfl rfl (by kernel_rfl) Try.func8 (by kernel_rfl) (of_decide_eq_true (by kernel_rfl)) ?_ (fun os started H enc _ => leaving_of_handed (lifted os started H enc)))
  unfold Func.isWrapper
  first | (rw [if_pos (by decide +kernel)]; kernel_rfl) | (rw [if_neg (by decide +kernel)]; exact ⟨rfl, rfl⟩)
#print axioms proved
end Go.Proofs.Ytkaghfoaicbngab.lawFnExactValidDeed
