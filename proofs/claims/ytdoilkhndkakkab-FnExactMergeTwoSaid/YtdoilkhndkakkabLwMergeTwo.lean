/-
  FnExactMergeTwo: the program's MergeTwo answers as its model, at every four narrow floats. No condition.
-/
import Derived.Test.YtdoilkhndkakkabLaw
import Derived.Test.YtdoilkhndkakkabEq
import Derived.Test.YtdoilkhndkakkabMergeI
namespace Go.Proofs.Ytdoilkhndkakkab.lawFnExactMergeTwo
open Go Go.ChangeShapes Go.WideShapes Go.ChangeAt Go.RowKit

set_option maxRecDepth 100000
theorem walk (a : Nat) (ha : a < 4294967296) (b : Nat) (hb : b < 4294967296) (t : Nat) (ht : t < 4294967296) (s : Nat) (hs : s < 4294967296) (w : World) :
    Calls Try.prog 3 #[.float .f32 a, .float .f32 b, .float .f32 t, .float .f32 s] w (True? w) := by
  have KS := sMergeTwo_b a ha b hb t ht s hs
  have KI := MergeTwo_b a ha b hb t ht s hs
  obtain ⟨⟨v1, v2⟩, v3, v4⟩ := vMerge_good a b t s
  have hw1 := wide_at v1 v2
  have hw2 := wide_at v3 v4
  clear ha hb ht hs
  go_enter Try.func3, Try.ntmps3
  go_wp2_with fail
  refine (KS _).mono ?_
  rintro e w1 ⟨rfl, hb1⟩
  go_wp2_with fail
  refine (KI _).mono ?_
  rintro e w2 ⟨rfl, hb2⟩
  go_wp2_with fail
  refine (sameFloat_same _ v1 v2 _).mono ?_
  rintro e w3 ⟨rfl, rfl⟩
  go_wp2_with fail
  refine (sameFloat_same _ v3 v4 _).mono ?_
  rintro e w4 ⟨rfl, rfl⟩
  go_wp2_with fail
  go_ret
  exact ⟨rfl, bthen hb1 hb2⟩

set_option maxRecDepth 100000 in
theorem lifted (os : Os) (started : os.Started) (H : Type) (enc : TypeId × Value → H) :
    ReturnsInHanded {} Try.checked os 3 .any (Rows.fnExactMergeTwoSpec.pre6 enc Try.prog Try.f3 Rows.fnExactMergeTwoRow.domain false) (Rows.fnExactMergeTwoSpec.post enc Try.prog Try.f3 false true false false) := by
  refine law_lifted enc os started (by kernel_rfl) Try.func3
    (ChangeSpec.witness6 (enc := enc) (C := Try.checked) false ⟨#[], #[.float .f32 0, .float .f32 0, .float .f32 0, .float .f32 0], []⟩ 24 (by kernel_rfl) (by kernel_rfl) (by kernel_rfl) (by kernel_rfl)) rfl (by kernel_rfl) ?_ ?_ ?_
  · rw [Try.params3]
    intro t ht
    have hall : (#[22, 22, 22, 22].toList.all fun u => Try.prog.readableRec u && decide (u < Try.prog.types.size)) = true := by kernel_rfl
    have := List.all_eq_true.1 hall t ht
    simpa using this
  · intro ds h
    rw [Try.params3] at h
    match ds, h with
    | [d0, d1, d2, d3], _ => rfl
  · intro W base args hl hval
    rw [Try.params3] at hl hval
    obtain ⟨v0, v1, v2, v3, rfl⟩ : ∃ v0 v1 v2 v3, args = #[v0, v1, v2, v3] := by
      obtain ⟨l⟩ := args
      match l, hl with
      | [v0, v1, v2, v3], _ => exact ⟨v0, v1, v2, v3, rfl⟩
    obtain ⟨x0, rfl, h0⟩ := shape_f32 (hval 0 _ _ rfl rfl)
    obtain ⟨x1, rfl, h1⟩ := shape_f32 (hval 1 _ _ rfl rfl)
    obtain ⟨x2, rfl, h2⟩ := shape_f32 (hval 2 _ _ rfl rfl)
    obtain ⟨x3, rfl, h3⟩ := shape_f32 (hval 3 _ _ rfl rfl)
    exact walk x0 h0 x1 h1 x2 h2 x3 h3 W

/-- THE STATEMENT -/
theorem proved : Rows.FnExactMergeTwoSaid :=
  OpenClaim.holds_of_wide 3 Try.f3 rfl rfl rfl rfl rfl rfl rfl ⟨rfl, rfl, rfl, rfl, rfl⟩ rfl rfl rfl rfl rfl (by kernel_rfl) Try.func3 (by kernel_rfl)
    (of_decide_eq_true (by kernel_rfl)) (by unfold Func.isWrapper; first | (rw [if_pos (by decide +kernel)]; kernel_rfl) | (rw [if_neg (by decide +kernel)]; exact ⟨rfl, rfl⟩))
    (fun os started H enc _ => lifted os started H enc)
#print axioms proved
end Go.Proofs.Ytdoilkhndkakkab.lawFnExactMergeTwo
