/-
  FnExactStepRoad: the program's StepRoad answers as its model, at every road and every two narrow floats. No condition.
-/
import Derived.Test.YtkaghfoaicbngaaLaw
import Derived.Test.YtkaghfoaicbngaaStepRoad
namespace Go.Proofs.Ytkaghfoaicbngaa.lawFnExactStepRoad
open Go Go.ChangeShapes Go.WideShapes Go.ChangeAt Go.RowKit

set_option maxHeartbeats 400000 in
theorem walk (cs : List Nat) (p b l : Nat) (hl : cs.length = 16) (hc : ∀ x ∈ cs, x < 4294967296) (hp : p < 4294967296) (hb : b < 4294967296) (hla : l < 4294967296) (o : Nat) (ho : o < 4294967296) (m : Nat) (hm : m < 4294967296) (w : World) :
    Calls Try.prog 3 #[.agg (rd cs p b l), .float .f32 o, .float .f32 m] w (True? w) := by
  have A0 := At.new w (rd cs p b l) 25
  obtain ⟨GD, g1, g2⟩ := vStepRoad_good hl p b l o m
  have HH := Lib.hid (And.intro ho hm)
  have w1f := wide_at g1.1 g1.2
  have w2f := wide_at g2.1 g2.2
  have SZ : (rd (vStepRoad cs p b l o m).1 (vStepRoad cs p b l o m).2.1 (vStepRoad cs p b l o m).2.2.1 (vStepRoad cs p b l o m).2.2.2.1).size = 19 := rd_size GD.1 _ _ _
  have KS := fun w => sStepRoad_any cs p b l hl hc hp hb hla o HH.out.1 m HH.out.2 w
  have KI := fun w => StepRoad_any cs p b l hl hc hp hb hla o HH.out.1 m HH.out.2 w
  have GG := Lib.hid (And.intro g1 g2)
  clear ho hm g1 g2
  generalize (vStepRoad cs p b l o m).2.2.2.2.1 = v4 at KS KI GG w1f
  generalize (vStepRoad cs p b l o m).2.2.2.2.2.1 = v5 at KS KI GG w2f
  generalize (vStepRoad cs p b l o m).2.2.2.2.2.2 = v7 at KS KI
  go_enter Try.func3, Try.ntmps3
  go_wp2_with (((with_reducible refine is_load 25 _ rfl ?_); refine wpList_load_at rfl 25 _ rfl _ rfl (rd cs p b l) _ (by assumption) 19 (rd_size hl p b l) _ Try.underlying25 rfl (by kernel_rfl) ?_))
  refine (toRoad_any cs p b l hl _).mono ?_
  rintro e w1 ⟨rfl, hb1⟩
  have A1 := A0.step hb1
  go_wp2_with fail
  refine (KS _).mono ?_
  rintro e w2 ⟨rfl, hb2⟩
  clear KS
  have A2 := A1.step hb2
  have B2 := bthen (bthen (b0 _ _) hb1) hb2
  have C1 := At.new w2 (rd (zeros 16) 0 0 0) 28
  have C2 := C1.setRow (rd (vStepRoad cs p b l o m).1 (vStepRoad cs p b l o m).2.1 (vStepRoad cs p b l o m).2.2.1 (vStepRoad cs p b l o m).2.2.2.1)
  have A3 := (A2.alloc (.cells (rd (zeros 16) 0 0 0) 28)).setRow_other (k := w2.heap.size) (Nat.ne_of_lt A2.lt) (rd (vStepRoad cs p b l o m).1 (vStepRoad cs p b l o m).2.1 (vStepRoad cs p b l o m).2.2.1 (vStepRoad cs p b l o m).2.2.2.1)
  have D1 := Lib.hid (bset (bnew B2 (.cells (rd (zeros 16) 0 0 0) 28)) (g := w2.heap.size) B2.size (rd (vStepRoad cs p b l o m).1 (vStepRoad cs p b l o m).2.1 (vStepRoad cs p b l o m).2.2.1 (vStepRoad cs p b l o m).2.2.2.1))
  clear A0 A1 A2 hb1 hb2 B2
  go_wp2_with (first | ((with_reducible refine is_store 28 (.tmp 7) (.tmp 21) rfl ?_); refine wpList_store_at rfl 28 (.tmp 7) (.tmp 21) rfl _ rfl (rd (vStepRoad cs p b l o m).1 (vStepRoad cs p b l o m).2.1 (vStepRoad cs p b l o m).2.2.1 (vStepRoad cs p b l o m).2.2.2.1) rfl (rd (zeros 16) 0 0 0) _ (by assumption) 19 SZ (rd_size (zeros_len 16) _ _ _) (by kernel_rfl) (fl_one _) ?_) | ((with_reducible refine is_load 25 _ rfl ?_); refine wpList_load_at rfl 25 _ rfl _ rfl (rd cs p b l) _ (by assumption) 19 (rd_size hl p b l) _ Try.underlying25 rfl (by kernel_rfl) ?_))
  refine (toRoad_any cs p b l hl _).mono ?_
  rintro e w3 ⟨rfl, hb3⟩
  have C3 := C2.step hb3
  have D3 := Lib.hid (bthen D1.out hb3)
  clear C1 C2 D1 A3 hb3
  go_wp2_with fail
  refine (KI _).mono ?_
  rintro e w4 ⟨rfl, hb4⟩
  clear KI
  have C4 := C3.step hb4
  have D4 := bthen D3.out hb4
  clear C3 D3 hb4
  have E1 := At.new w4 (rd (zeros 16) 0 0 0) 28
  have E2 := E1.setRow (rd (vStepRoad cs p b l o m).1 (vStepRoad cs p b l o m).2.1 (vStepRoad cs p b l o m).2.2.1 (vStepRoad cs p b l o m).2.2.2.1)
  have C5 := (C4.alloc (.cells (rd (zeros 16) 0 0 0) 28)).setRow_other (k := w4.heap.size) (Nat.ne_of_lt C4.lt) (rd (vStepRoad cs p b l o m).1 (vStepRoad cs p b l o m).2.1 (vStepRoad cs p b l o m).2.2.1 (vStepRoad cs p b l o m).2.2.2.1)
  have D5 := Lib.hid (bset (bnew D4 (.cells (rd (zeros 16) 0 0 0) 28)) (g := w4.heap.size) D4.size (rd (vStepRoad cs p b l o m).1 (vStepRoad cs p b l o m).2.1 (vStepRoad cs p b l o m).2.2.1 (vStepRoad cs p b l o m).2.2.2.1))
  clear C4 D4
  go_wp2_with (first | ((with_reducible refine is_store 28 (.tmp 11) (.tmp 31) rfl ?_); refine wpList_store_at rfl 28 (.tmp 11) (.tmp 31) rfl _ rfl (rd (vStepRoad cs p b l o m).1 (vStepRoad cs p b l o m).2.1 (vStepRoad cs p b l o m).2.2.1 (vStepRoad cs p b l o m).2.2.2.1) rfl (rd (zeros 16) 0 0 0) _ (by assumption) 19 SZ (rd_size (zeros_len 16) _ _ _) (by kernel_rfl) (fl_one _) ?_) | ((with_reducible refine is_load 28 _ rfl ?_); refine wpList_load_at rfl 28 _ rfl _ rfl (rd (vStepRoad cs p b l o m).1 (vStepRoad cs p b l o m).2.1 (vStepRoad cs p b l o m).2.2.1 (vStepRoad cs p b l o m).2.2.2.1) _ (by assumption) 19 (SZ) _ Try.underlying28 rfl (by kernel_rfl) ?_))
  refine (eqRoad_same _ _ _ _ GD _).mono ?_
  rintro e w5 ⟨rfl, hb5⟩
  have D6 := Lib.hid (bthen D5.out hb5)
  clear D5 hb5 E1 E2 C5
  go_wp2_with fail
  refine (sameFloat_same v4 GG.out.1.1 GG.out.1.2 _).mono ?_
  rintro e w6 ⟨rfl, rfl⟩
  go_wp2_with fail
  refine (sameFloat_same v5 GG.out.2.1 GG.out.2.2 _).mono ?_
  rintro e w7 ⟨rfl, rfl⟩
  go_wp2_with fail
  go_ret
  exact ⟨rfl, D6.out⟩

set_option maxRecDepth 100000 in
theorem lifted (os : Os) (started : os.Started) (H : Type) (enc : TypeId × Value → H) :
    ReturnsInHanded {} Try.checked os 3 .any (Rows.fnExactStepRoadSpec.pre6 enc Try.prog Try.f3 Rows.fnExactStepRoadRow.domain false) (Rows.fnExactStepRoadSpec.post enc Try.prog Try.f3 false true false false) := by
  refine law_lifted enc os started (by kernel_rfl) Try.func3
    (ChangeSpec.witness6 (enc := enc) (C := Try.checked) false ⟨#[], #[.agg (Array.replicate 19 (.float .f32 0)), .float .f32 0, .float .f32 0], []⟩ 24 (by kernel_rfl) (by kernel_rfl) (by kernel_rfl) (by kernel_rfl)) rfl (by kernel_rfl) ?_ ?_ ?_
  · rw [Try.params3]
    intro t ht
    have hall : (#[25, 22, 22].toList.all fun u => Try.prog.readableRec u && decide (u < Try.prog.types.size)) = true := by kernel_rfl
    have := List.all_eq_true.1 hall t ht
    simpa using this
  · intro ds h
    rw [Try.params3] at h
    match ds, h with
    | [d0, d1, d2], _ => rfl
  · intro W base args hl hval
    rw [Try.params3] at hl hval
    obtain ⟨v0, v1, v2, rfl⟩ : ∃ v0 v1 v2, args = #[v0, v1, v2] := by
      obtain ⟨l⟩ := args
      match l, hl with
      | [v0, v1, v2], _ => exact ⟨v0, v1, v2, rfl⟩
    obtain ⟨c0, p0, b0, l0, rfl, hl0, hc0, hp0, hb0, hla0⟩ := shape_road (hval 0 _ _ rfl rfl)
    obtain ⟨x1, rfl, h1⟩ := shape_f32 (hval 1 _ _ rfl rfl)
    obtain ⟨x2, rfl, h2⟩ := shape_f32 (hval 2 _ _ rfl rfl)
    exact walk c0 p0 b0 l0 hl0 hc0 hp0 hb0 hla0 x1 h1 x2 h2 W

/-- THE STATEMENT -/
theorem proved : Rows.FnExactStepRoadSaid :=
  OpenClaim.holds_of_wide 3 Try.f3 rfl rfl rfl rfl rfl rfl rfl ⟨rfl, rfl, rfl, rfl, rfl⟩ rfl rfl rfl rfl rfl (by kernel_rfl) Try.func3 (by kernel_rfl)
    (of_decide_eq_true (by kernel_rfl)) (by unfold Func.isWrapper; first | (rw [if_pos (by decide +kernel)]; kernel_rfl) | (rw [if_neg (by decide +kernel)]; exact ⟨rfl, rfl⟩))
    (fun os started H enc _ => lifted os started H enc)
#print axioms proved
end Go.Proofs.Ytkaghfoaicbngaa.lawFnExactStepRoad
