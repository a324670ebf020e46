/-
  FnExactValidDetector: the program's ValidDetector answers as its model, at every detector. No condition.
-/
import Derived.Test.YteoplkhhlligcaaVDet
import Derived.Test.YteoplkhhlligcaaToDet
import Derived.Test.YteoplkhhlligcaaShDet
import Derived.Test.YteoplkhhlligcaaLaw
namespace Go.Proofs.Yteoplkhhlligcaa.lawFnExactValidDetector
open Go Go.ChangeShapes Go.WideShapes Go.ChangeAt Go.RowKit

set_option maxHeartbeats 400000 in
theorem walk (c : Int) (y : Nat) (n : Int) (f : Nat) (t : Int) (_hc : I64t c) (hy : y < 4294967296) (_hn : I16 n) (hf : f < 4294967296) (_ht : I64t t) (w : World) :
    Calls Try.prog 4 #[.agg (dt c y n f t)] w (True? w) := by
  have A0 := At.new w (dt c y n f t) 27
  go_enter Try.func4, Try.ntmps4
  go_wp2_with (((with_reducible refine is_load 27 _ rfl ?_); refine wpList_load_at rfl 27 _ rfl _ rfl ((dt c y n f t)) _ (by with_reducible assumption) 5 (dt_size _ _ _ _ _) _ Try.underlying27 rfl (by kernel_rfl) ?_))
  refine (toDetector_any c y n f t _).mono ?_
  rintro e w1 ⟨rfl, hb1⟩
  have A1 := A0.step hb1
  go_wp2_with fail
  refine (sValidDetector_any c y n f t hy hf _).mono ?_
  rintro e w2 ⟨rfl, hb2⟩
  have A2 := A1.step hb2
  go_wp2_with (((with_reducible refine is_load 27 _ rfl ?_); refine wpList_load_at rfl 27 _ rfl _ rfl ((dt c y n f t)) _ (by with_reducible assumption) 5 (dt_size _ _ _ _ _) _ Try.underlying27 rfl (by kernel_rfl) ?_))
  refine (toDetector_any c y n f t _).mono ?_
  rintro e w3 ⟨rfl, hb3⟩
  go_wp2_with fail
  refine (ValidDetector_any c y n f t hy hf _).mono ?_
  rintro e w4 ⟨rfl, hb4⟩
  go_wp2_with fail
  go_ret
  exact ⟨rfl, bthen (bthen (bthen (bthen (b0 _ _) hb1) hb2) hb3) hb4⟩

set_option maxRecDepth 100000 in
theorem lifted (os : Os) (started : os.Started) (H : Type) (enc : TypeId × Value → H) :
    ReturnsInHanded {} Try.checked os 4 .any (Rows.fnExactValidDetectorSpec.pre6 enc Try.prog Try.f4 Rows.fnExactValidDetectorRow.domain false) (Rows.fnExactValidDetectorSpec.post enc Try.prog Try.f4 false true false false) := by
  refine law_lifted enc os started (by kernel_rfl) Try.func4
    (ChangeSpec.witness6 (enc := enc) (C := Try.checked) false ⟨#[], #[.agg #[.int .i64 0, .float .f32 0, .int .i16 0, .float .f32 0, .int .i64 0]], []⟩ 24 (by kernel_rfl) (by kernel_rfl) (by kernel_rfl) (by kernel_rfl)) rfl (by kernel_rfl) ?_ ?_ ?_
  · rw [Try.params4]
    intro t ht
    have hall : (#[27].toList.all fun u => Try.prog.readableRec u && decide (u < Try.prog.types.size)) = true := by kernel_rfl
    have := List.all_eq_true.1 hall t ht
    simpa using this
  · intro ds h
    rw [Try.params4] at h
    match ds, h with
    | [d0], _ => rfl
  · intro W base args hl hval
    rw [Try.params4] at hl hval
    obtain ⟨v0, rfl⟩ : ∃ v0, args = #[v0] := by
      obtain ⟨l⟩ := args
      match l, hl with
      | [v0], _ => exact ⟨v0, rfl⟩
    obtain ⟨c0, y0, n0, f0, t0, rfl, hc0, hy0, hn0, hf0, ht0⟩ := shape_det (hval 0 _ _ rfl rfl)
    exact walk c0 y0 n0 f0 t0 hc0 hy0 hn0 hf0 ht0 W

/-- THE STATEMENT -/
theorem proved : Rows.FnExactValidDetectorSaid :=
  OpenClaim.holds_of_wide 4 Try.f4 rfl rfl rfl rfl rfl rfl rfl ⟨rfl, rfl, rfl, rfl, rfl⟩ rfl rfl rfl rfl rfl (by kernel_rfl) Try.func4 (by kernel_rfl)
    (of_decide_eq_true (by kernel_rfl)) (by unfold Func.isWrapper; first | (rw [if_pos (by decide +kernel)]; kernel_rfl) | (rw [if_neg (by decide +kernel)]; exact ⟨rfl, rfl⟩))
    (fun os started H enc _ => lifted os started H enc)
#print axioms proved
end Go.Proofs.Yteoplkhhlligcaa.lawFnExactValidDetector
