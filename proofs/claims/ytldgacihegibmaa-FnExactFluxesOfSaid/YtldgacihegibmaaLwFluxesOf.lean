/-
  FnExactFluxesOf: the program's FluxesOf answers as its model, at every road and every two narrow floats. No condition.
-/
import Derived.Test.YtldgacihegibmaaLaw
import Derived.Test.YtldgacihegibmaaFluxesOf
namespace Go.Proofs.Ytldgacihegibmaa.lawFnExactFluxesOf
open Go Go.ChangeShapes Go.WideShapes Go.ChangeAt Go.RowKit

set_option maxHeartbeats 400000 in
theorem walk (cs : List Nat) (p b l : Nat) (hl : cs.length = 16) (hc : ∀ x ∈ cs, x < 4294967296) (hp : p < 4294967296) (hb : b < 4294967296) (hla : l < 4294967296) (o : Nat) (ho : o < 4294967296) (m : Nat) (hm : m < 4294967296) (w : World) :
    Calls Try.prog 3 #[.agg (rd cs p b l), .float .f32 o, .float .f32 m] w (True? w) := by
  have A0 := At.new w (rd cs p b l) 25
  have GD := vFluxesOf_good hl p b l o m
  have HO := Lib.hid ho
  have HM := Lib.hid hm
  clear ho hm
  have SZ : (fl (vFluxesOf cs p b l o m).1).size = 17 := by rw [fl_size, GD.1]
  go_enter Try.func3, Try.ntmps3
  go_wp2_with (((with_reducible refine is_load 25 _ rfl ?_); refine wpList_load_at rfl 25 _ rfl _ rfl (rd cs p b l) _ (by assumption) 19 (rd_size hl p b l) _ Try.underlying25 rfl (by kernel_rfl) ?_))
  refine (toRoad_any cs p b l hl _).mono ?_
  rintro e w1 ⟨rfl, hb1⟩
  have A1 := A0.step hb1
  go_wp2_with fail
  refine (sFluxesOf_any cs p b l hl hc hp hb hla o m HO.out HM.out _).mono ?_
  rintro e w2 ⟨rfl, hb2⟩
  have A2 := A1.step hb2
  have B2 := bthen (bthen (b0 _ _) hb1) hb2
  have C1 := At.new w2 (fl (zeros 17)) 26
  have C2 := C1.setRow (fl (vFluxesOf cs p b l o m).1)
  have A3 := (A2.alloc (.cells (fl (zeros 17)) 26)).setRow_other (k := w2.heap.size) (Nat.ne_of_lt A2.lt) (fl (vFluxesOf cs p b l o m).1)
  have D1 := Lib.hid (bset (bnew B2 (.cells (fl (zeros 17)) 26)) (g := w2.heap.size) B2.size (fl (vFluxesOf cs p b l o m).1))
  clear A0 A1 A2 hb1 hb2 B2
  go_wp2_with (first | ((with_reducible refine is_store 26 (.tmp 7) (.tmp 17) rfl ?_); refine wpList_store_at rfl 26 (.tmp 7) (.tmp 17) rfl _ rfl (fl (vFluxesOf cs p b l o m).1) rfl (fl (zeros 17)) _ (by assumption) 17 SZ (by rw [fl_size, zeros_len]) (by kernel_rfl) (fl_one _) ?_) | ((with_reducible refine is_load 25 _ rfl ?_); refine wpList_load_at rfl 25 _ rfl _ rfl (rd cs p b l) _ (by assumption) 19 (rd_size hl p b l) _ Try.underlying25 rfl (by kernel_rfl) ?_))
  refine (toRoad_any cs p b l hl _).mono ?_
  rintro e w3 ⟨rfl, hb3⟩
  have C3 := C2.step hb3
  have D3 := Lib.hid (bthen D1.out hb3)
  clear C1 C2 D1 A3 hb3
  go_wp2_with fail
  refine (FluxesOf_any cs p b l hl hc hp hb hla o m HO.out HM.out _).mono ?_
  rintro e w4 ⟨rfl, hb4⟩
  have C4 := C3.step hb4
  have D4 := bthen D3.out hb4
  clear C3 D3 hb4
  have E1 := At.new w4 (fl (zeros 17)) 26
  have E2 := E1.setRow (fl (vFluxesOf cs p b l o m).1)
  have C5 := (C4.alloc (.cells (fl (zeros 17)) 26)).setRow_other (k := w4.heap.size) (Nat.ne_of_lt C4.lt) (fl (vFluxesOf cs p b l o m).1)
  have D5 := Lib.hid (bset (bnew D4 (.cells (fl (zeros 17)) 26)) (g := w4.heap.size) D4.size (fl (vFluxesOf cs p b l o m).1))
  clear C4 D4
  go_wp2_with (first | ((with_reducible refine is_store 26 (.tmp 9) (.tmp 25) rfl ?_); refine wpList_store_at rfl 26 (.tmp 9) (.tmp 25) rfl _ rfl (fl (vFluxesOf cs p b l o m).1) rfl (fl (zeros 17)) _ (by assumption) 17 SZ (by rw [fl_size, zeros_len]) (by kernel_rfl) (fl_one _) ?_) | ((with_reducible refine is_load 26 _ rfl ?_); refine wpList_load_at rfl 26 _ rfl _ rfl (fl (vFluxesOf cs p b l o m).1) _ (by assumption) 17 (SZ) _ Try.underlying26 rfl (by kernel_rfl) ?_))
  refine (eqA17_same _ GD.1 GD.2 _).mono ?_
  rintro e w5 ⟨rfl, hb5⟩
  go_wp2_with fail
  go_ret
  exact ⟨rfl, bthen D5.out hb5⟩

set_option maxRecDepth 100000 in
theorem lifted (os : Os) (started : os.Started) (H : Type) (enc : TypeId × Value → H) :
    ReturnsInHanded {} Try.checked os 3 .any (Rows.fnExactFluxesOfSpec.pre6 enc Try.prog Try.f3 Rows.fnExactFluxesOfRow.domain false) (Rows.fnExactFluxesOfSpec.post enc Try.prog Try.f3 false true false false) := by
  refine law_lifted enc os started (by kernel_rfl) Try.func3
    (ChangeSpec.witness6 (enc := enc) (C := Try.checked) false ⟨#[], #[.agg (Array.replicate 19 (.float .f32 0)), .float .f32 0, .float .f32 0], []⟩ 24 (by kernel_rfl) (by kernel_rfl) (by kernel_rfl) (by kernel_rfl)) rfl (by kernel_rfl) ?_ ?_ ?_
  · rw [Try.params3]
    intro t ht
    have hall : (#[25, 22, 22].toList.all fun u => Try.prog.readableRec u && decide (u < Try.prog.types.size)) = true := by kernel_rfl
    have := List.all_eq_true.1 hall t ht
    simpa using this
  · intro ds h
    rw [Try.params3] at h
    match ds, h with
    | [d0, d1, d2], _ => rfl
  · intro W base args hl hval
    rw [Try.params3] at hl hval
    obtain ⟨v0, v1, v2, rfl⟩ : ∃ v0 v1 v2, args = #[v0, v1, v2] := by
      obtain ⟨l⟩ := args
      match l, hl with
      | [v0, v1, v2], _ => exact ⟨v0, v1, v2, rfl⟩
    obtain ⟨c0, p0, b0, l0, rfl, hl0, hc0, hp0, hb0, hla0⟩ := shape_road (hval 0 _ _ rfl rfl)
    obtain ⟨x1, rfl, h1⟩ := shape_f32 (hval 1 _ _ rfl rfl)
    obtain ⟨x2, rfl, h2⟩ := shape_f32 (hval 2 _ _ rfl rfl)
    exact walk c0 p0 b0 l0 hl0 hc0 hp0 hb0 hla0 x1 h1 x2 h2 W

/-- THE STATEMENT -/
theorem proved : Rows.FnExactFluxesOfSaid :=
  OpenClaim.holds_of_wide 3 Try.f3 rfl rfl rfl rfl rfl rfl rfl ⟨rfl, rfl, rfl, rfl, rfl⟩ rfl rfl rfl rfl rfl (by kernel_rfl) Try.func3 (by kernel_rfl)
    (of_decide_eq_true (by kernel_rfl)) (by unfold Func.isWrapper; first | (rw [if_pos (by decide +kernel)]; kernel_rfl) | (rw [if_neg (by decide +kernel)]; exact ⟨rfl, rfl⟩))
    (fun os started H enc _ => lifted os started H enc)
#print axioms proved
end Go.Proofs.Ytldgacihegibmaa.lawFnExactFluxesOf
