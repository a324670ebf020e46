/-
  FnExactDelayOf: the program's DelayOf answers as its model, at every road, every two narrow floats and every whole number. No condition.
-/
import Derived.Test.YtkaghfoaicbngaaLaw
import Derived.Test.YtkaghfoaicbngaaDelayOfM
namespace Go.Proofs.Ytkaghfoaicbngaa.lawFnExactDelayOf
open Go Go.ChangeShapes Go.WideShapes Go.ChangeAt Go.RowKit

set_option maxHeartbeats 400000 in
theorem walk (cs : List Nat) (p b l : Nat) (hl : cs.length = 16) (hc : ∀ x ∈ cs, x < 4294967296) (hp : p < 4294967296) (hb : b < 4294967296) (hla : l < 4294967296) (o : Nat) (ho : o < 4294967296) (m : Nat) (hm : m < 4294967296) (n : Int) (_hn : -9223372036854775808 ≤ n ∧ n ≤ 9223372036854775807) (w : World) :
    Calls Try.prog 8 #[.agg (rd cs p b l), .float .f32 o, .float .f32 m, .int .i64 n] w (True? w) := by
  have A0 := At.new w (rd cs p b l) 25
  have GD := vDelayOf_good hl p b l o m n
  have w1f := wide_at GD.1 GD.2
  have KS := fun w => sDelayOf_any cs p b l hl hc hp hb hla o m ho hm n w
  have KI := fun w => DelayOf_any cs p b l hl hc hp hb hla o m ho hm n w
  have GG := Lib.hid GD
  clear GD ho hm
  generalize (vDelayOf cs p b l o m n).1 = v1 at KS KI GG w1f
  generalize (vDelayOf cs p b l o m n).2 = v2 at KS KI
  go_enter Try.func8, Try.ntmps8
  go_wp2_with (((with_reducible refine is_load 25 _ rfl ?_); refine wpList_load_at rfl 25 _ rfl _ rfl (rd cs p b l) _ (by assumption) 19 (rd_size hl p b l) _ Try.underlying25 rfl (by kernel_rfl) ?_))
  refine (toRoad_any cs p b l hl _).mono ?_
  rintro e w1 ⟨rfl, hb1⟩
  have A1 := A0.step hb1
  go_wp2_with fail
  refine (KS _).mono ?_
  rintro e w2 ⟨rfl, hb2⟩
  have A2 := A1.step hb2
  go_wp2_with (((with_reducible refine is_load 25 _ rfl ?_); refine wpList_load_at rfl 25 _ rfl _ rfl (rd cs p b l) _ (by assumption) 19 (rd_size hl p b l) _ Try.underlying25 rfl (by kernel_rfl) ?_))
  refine (toRoad_any cs p b l hl _).mono ?_
  rintro e w3 ⟨rfl, hb3⟩
  go_wp2_with fail
  refine (KI _).mono ?_
  rintro e w4 ⟨rfl, hb4⟩
  clear KI KS
  go_wp2_with fail
  refine (sameFloat_same v1 GG.out.1 GG.out.2 _).mono ?_
  rintro e w6 ⟨rfl, rfl⟩
  go_wp2_with fail
  go_ret
  exact ⟨rfl, bthen (bthen (bthen (bthen (b0 _ _) hb1) hb2) hb3) hb4⟩

set_option maxRecDepth 100000 in
theorem lifted (os : Os) (started : os.Started) (H : Type) (enc : TypeId × Value → H) :
    ReturnsInHanded {} Try.checked os 8 .any (Rows.fnExactDelayOfSpec.pre6 enc Try.prog Try.f8 Rows.fnExactDelayOfRow.domain false) (Rows.fnExactDelayOfSpec.post enc Try.prog Try.f8 false true false false) := by
  refine law_lifted enc os started (by kernel_rfl) Try.func8
    (ChangeSpec.witness6 (enc := enc) (C := Try.checked) false ⟨#[], #[.agg (Array.replicate 19 (.float .f32 0)), .float .f32 0, .float .f32 0, .int .i64 0], []⟩ 24 (by kernel_rfl) (by kernel_rfl) (by kernel_rfl) (by kernel_rfl)) rfl (by kernel_rfl) ?_ ?_ ?_
  · rw [Try.params8]
    intro t ht
    have hall : (#[25, 22, 22, 2].toList.all fun u => Try.prog.readableRec u && decide (u < Try.prog.types.size)) = true := by kernel_rfl
    have := List.all_eq_true.1 hall t ht
    simpa using this
  · intro ds h
    rw [Try.params8] at h
    match ds, h with
    | [d0, d1, d2, d3], _ => rfl
  · intro W base args hl hval
    rw [Try.params8] at hl hval
    obtain ⟨v0, v1, v2, v3, rfl⟩ : ∃ v0 v1 v2 v3, args = #[v0, v1, v2, v3] := by
      obtain ⟨l⟩ := args
      match l, hl with
      | [v0, v1, v2, v3], _ => exact ⟨v0, v1, v2, v3, rfl⟩
    obtain ⟨c0, p0, b0, l0, rfl, hl0, hc0, hp0, hb0, hla0⟩ := shape_road (hval 0 _ _ rfl rfl)
    obtain ⟨x1, rfl, h1⟩ := shape_f32 (hval 1 _ _ rfl rfl)
    obtain ⟨x2, rfl, h2⟩ := shape_f32 (hval 2 _ _ rfl rfl)
    obtain ⟨x3, rfl, h3⟩ := shape_i64 (hval 3 _ _ rfl rfl)
    exact walk c0 p0 b0 l0 hl0 hc0 hp0 hb0 hla0 x1 h1 x2 h2 x3 h3 W

/-- THE STATEMENT -/
theorem proved : Rows.FnExactDelayOfSaid :=
  OpenClaim.holds_of_wide 8 Try.f8 rfl rfl rfl rfl rfl rfl rfl ⟨rfl, rfl, rfl, rfl, rfl⟩ rfl rfl rfl rfl rfl (by kernel_rfl) Try.func8 (by kernel_rfl)
    (of_decide_eq_true (by kernel_rfl)) (by unfold Func.isWrapper; first | (rw [if_pos (by decide +kernel)]; kernel_rfl) | (rw [if_neg (by decide +kernel)]; exact ⟨rfl, rfl⟩))
    (fun os started H enc _ => lifted os started H enc)
#print axioms proved
end Go.Proofs.Ytkaghfoaicbngaa.lawFnExactDelayOf
