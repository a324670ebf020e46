/-
  FnExactSumOfFour: the program's SumOfFour answers as its model, at every four narrow floats. No condition.
-/
import Derived.Test.YtdoilkhndkakkaaLaw
import Derived.Test.YtdoilkhndkakkaaSum4
namespace Go.Proofs.Ytdoilkhndkakkaa.lawFnExactSumOfFour
open Go Go.ChangeShapes Go.WideShapes Go.ChangeAt Go.RowKit

set_option maxRecDepth 100000
theorem walk (xs : List Nat) (hl : xs.length = 4) (hc : ∀ x ∈ xs, x < 4294967296) (w : World) :
    Calls Try.prog 13 #[.agg (fl xs)] w (True? w) := by
  have A0 := At.new w (fl xs) 23
  have SZ : (fl xs).size = 4 := by rw [fl_size, hl]
  go_enter Try.func13, Try.ntmps13
  go_wp2_with ((with_reducible refine is_load 23 _ rfl ?_); refine wpList_load_at rfl 23 _ rfl _ rfl (fl xs) _ (by assumption) 4 SZ _ Try.underlying23 rfl (by kernel_rfl) ?_)
  refine (toFour_any xs hl _).mono ?_
  rintro e w1 ⟨rfl, hb1⟩
  have A1 := A0.step hb1
  go_wp2_with fail
  refine (sSumOfFour_any xs hl _).mono ?_
  rintro e w2 ⟨v, rfl, s1, hb2⟩
  have A2 := A1.step hb2
  go_wp2_with ((with_reducible refine is_load 23 _ rfl ?_); refine wpList_load_at rfl 23 _ rfl _ rfl (fl xs) _ (by assumption) 4 SZ _ Try.underlying23 rfl (by kernel_rfl) ?_)
  refine (toFour_any xs hl _).mono ?_
  rintro e w3 ⟨rfl, hb3⟩
  go_wp2_with fail
  refine (SumOfFour_any xs hl _).mono ?_
  rintro e w4 ⟨v', rfl, s2, hb4⟩
  have ag := Sum4.agr (u32_lt hc 0) s2 s1
  obtain ⟨X, n1, e1, q1⟩ := wide_agr ag.1 w4
  obtain ⟨Y, n2, e2, q2⟩ := wide_agr ag.2.1 (w4.drewN n1)
  go_wp2_with fail
  refine (sameFloat_agr ag q1 q2 _).mono ?_
  rintro e w5 ⟨rfl, rfl⟩
  go_wp2_with fail
  go_ret
  exact ⟨rfl, bdrew (bthen (bthen (bthen (bthen (b0 _ _) hb1) hb2) hb3) hb4) _⟩

set_option maxRecDepth 100000 in
theorem lifted (os : Os) (started : os.Started) (H : Type) (enc : TypeId × Value → H) :
    ReturnsInHanded {} Try.checked os 13 .any (Rows.fnExactSumOfFourSpec.pre6 enc Try.prog Try.f13 Rows.fnExactSumOfFourRow.domain false) (Rows.fnExactSumOfFourSpec.post enc Try.prog Try.f13 false true false false) := by
  refine law_lifted enc os started (by kernel_rfl) Try.func13
    (ChangeSpec.witness6 (enc := enc) (C := Try.checked) false ⟨#[], #[.agg (Array.replicate 4 (.float .f32 0))], []⟩ 24 (by kernel_rfl) (by kernel_rfl) (by kernel_rfl) (by kernel_rfl)) rfl (by kernel_rfl) ?_ ?_ ?_
  · rw [Try.params13]
    intro t ht
    have hall : (#[23].toList.all fun u => Try.prog.readableRec u && decide (u < Try.prog.types.size)) = true := by kernel_rfl
    have := List.all_eq_true.1 hall t ht
    simpa using this
  · intro ds h
    rw [Try.params13] at h
    match ds, h with
    | [d0], _ => rfl
  · intro W base args hl hval
    rw [Try.params13] at hl hval
    obtain ⟨v0, rfl⟩ : ∃ v0, args = #[v0] := by
      obtain ⟨l⟩ := args
      match l, hl with
      | [v0], _ => exact ⟨v0, rfl⟩
    obtain ⟨c0, rfl, hl0, hc0⟩ := shape_fl (n := 4) Try.underlying23 rfl (by kernel_rfl) (by kernel_rfl) (hval 0 _ _ rfl rfl)
    exact walk c0 hl0 hc0 W

/-- THE STATEMENT -/
theorem proved : Rows.FnExactSumOfFourSaid :=
  OpenClaim.holds_of_wide 13 Try.f13 rfl rfl rfl rfl rfl rfl rfl ⟨rfl, rfl, rfl, rfl, rfl⟩ rfl rfl rfl rfl rfl (by kernel_rfl) Try.func13 (by kernel_rfl)
    (of_decide_eq_true (by kernel_rfl)) (by unfold Func.isWrapper; first | (rw [if_pos (by decide +kernel)]; kernel_rfl) | (rw [if_neg (by decide +kernel)]; exact ⟨rfl, rfl⟩))
    (fun os started H enc _ => lifted os started H enc)
#print axioms proved
end Go.Proofs.Ytdoilkhndkakkaa.lawFnExactSumOfFour
