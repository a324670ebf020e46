/-
  FnExactValidAct: the program's ValidAct answers as its model, at every act. No condition.
-/
import Derived.Test.YtboahhipobcabaaActI
import Derived.Test.YtboahhipobcabaaActG
import Derived.Test.YtboahhipobcabaaLaw
namespace Go.Proofs.Ytboahhipobcabaa.lawFnExactValidAct
open Go Go.ChangeShapes Go.WideShapes Go.ChangeAt Go.RowKit

set_option maxHeartbeats 400000 in
theorem walk (k a b c : Int) (f : Nat) (hf : f < 4294967296) (w : World) :
    Calls Try.prog 5 #[.agg (ac k a b c f)] w (True? w) := by
  have A0 := At.new w (ac k a b c f) 43
  go_enter Try.func5, Try.ntmps5
  go_wp2_with (((with_reducible refine is_load 43 _ rfl ?_); refine wpList_load_at rfl 43 _ rfl _ rfl ((ac k a b c f)) _ (by with_reducible assumption) 5 (ac_size _ _ _ _ _) _ Try.underlying43 rfl (by kernel_rfl) ?_))
  refine (toAct_any k a b c f _).mono ?_
  rintro e w1 ⟨rfl, hb1⟩
  have A1 := A0.step hb1
  go_wp2_with fail
  refine (sValidAct_any k a b c f hf _).mono ?_
  rintro e w2 ⟨rfl, hb2⟩
  have A2 := A1.step hb2
  go_wp2_with (((with_reducible refine is_load 43 _ rfl ?_); refine wpList_load_at rfl 43 _ rfl _ rfl ((ac k a b c f)) _ (by with_reducible assumption) 5 (ac_size _ _ _ _ _) _ Try.underlying43 rfl (by kernel_rfl) ?_))
  refine (toAct_any k a b c f _).mono ?_
  rintro e w3 ⟨rfl, hb3⟩
  go_wp2_with fail
  refine (ValidAct_any k a b c f hf _).mono ?_
  rintro e w4 ⟨rfl, hb4⟩
  go_wp2_with fail
  go_ret
  exact ⟨rfl, bthen (bthen (bthen (bthen (b0 _ _) hb1) hb2) hb3) hb4⟩

set_option maxRecDepth 100000 in
theorem lifted (os : Os) (started : os.Started) (H : Type) (enc : TypeId × Value → H) :
    ReturnsInHanded {} Try.checked os 5 .any (Rows.fnExactValidActSpec.pre6 enc Try.prog Try.f5 Rows.fnExactValidActRow.domain false) (Rows.fnExactValidActSpec.post enc Try.prog Try.f5 false true false false) := by
  refine law_lifted enc os started (by kernel_rfl) Try.func5
    (ChangeSpec.witness6 (enc := enc) (C := Try.checked) false ⟨#[], #[.agg #[.int .i64 0, .int .i64 0, .int .i64 0, .int .i64 0, .float .f32 0]], []⟩ 24 (by kernel_rfl) (by kernel_rfl) (by kernel_rfl) (by kernel_rfl)) rfl (by kernel_rfl) ?_ ?_ ?_
  · rw [Try.params5]
    intro t ht
    have hall : (#[43].toList.all fun u => Try.prog.readableRec u && decide (u < Try.prog.types.size)) = true := by kernel_rfl
    have := List.all_eq_true.1 hall t ht
    simpa using this
  · intro ds h
    rw [Try.params5] at h
    match ds, h with
    | [d0], _ => rfl
  · intro W base args hl hval
    rw [Try.params5] at hl hval
    obtain ⟨v0, rfl⟩ : ∃ v0, args = #[v0] := by
      obtain ⟨l⟩ := args
      match l, hl with
      | [v0], _ => exact ⟨v0, rfl⟩
    obtain ⟨k0, a0, b0, c0, f0, rfl, hf0⟩ := shape_act (hval 0 _ _ rfl rfl)
    exact walk k0 a0 b0 c0 f0 hf0 W

/-- THE STATEMENT -/
theorem proved : Rows.FnExactValidActSaid := by
  first
    | (refine OpenClaim.holds_of_wide 5 Try.f5 rfl rfl rfl rfl rfl rfl rfl ⟨rfl, rfl, rfl, rfl, rfl⟩ rfl rfl rfl rfl rfl (by kernel_rfl) Try.func5 (by kernel_rfl) (of_decide_eq_true (by kernel_rfl)) ?_ (fun os started H enc _ => lifted os started H enc))
    | (refine OpenClaim.holds_of_wide_leaving 5 Try.f5 rfl rfl rfl rfl rfl rfl rfl ⟨rfl, rfl, rfl, rfl, rfl⟩ rfl rfl rfl rfl rfl (by kernel_rfl) Try.func5 (by kernel_rfl) (of_decide_eq_true (by kernel_rfl)) ?_ (fun os started H enc _ => leaving_of_handed (lifted os started H enc)))
  unfold Func.isWrapper
  first | (rw [if_pos (by decide +kernel)]; kernel_rfl) | (rw [if_neg (by decide +kernel)]; exact ⟨rfl, rfl⟩)
#print axioms proved
end Go.Proofs.Ytboahhipobcabaa.lawFnExactValidAct
