/-
  FnExactOutFlows: the program's OutFlows answers as its model, at every sixteen narrow floats. No condition.
-/
import Derived.Test.YtdoilkhndkakkaaLaw
import Derived.Test.YtdoilkhndkakkaaOutS
namespace Go.Proofs.Ytdoilkhndkakkaa.lawFnExactOutFlows
open Go Go.ChangeShapes Go.WideShapes Go.ChangeAt Go.RowKit

set_option maxRecDepth 100000
set_option maxHeartbeats 400000 in
theorem walk (ts : List Nat) (hlt : ts.length = 16) (hct : ∀ x ∈ ts, x < 4294967296) (w : World) :
    Calls Try.prog 12 #[.agg (fl ts)] w (True? w) := by
  have A0 := At.new w (fl ts) 24
  have B0 := Lib.hid (b0 w (.cells (fl ts) 24))
  have SZ : (fl ts).size = 16 := by rw [fl_size, hlt]
  go_enter Try.func12, Try.ntmps12
  go_wp2_with (((with_reducible refine is_load 24 _ rfl ?_); refine wpList_load_at rfl 24 _ rfl _ rfl (fl ts) _ A0 16 (SZ) _ Try.underlying24 rfl (by kernel_rfl) ?_))
  refine (toFlows_any ts hlt _).mono ?_
  rintro e w1 ⟨rfl, hb1⟩
  have A1 := A0.step hb1
  have B1 := Lib.hid (bthen B0.out hb1)
  clear A0 B0 hb1
  go_wp2_with fail
  refine (sOutFlows_any ts hlt _).mono ?_
  rintro e w2 ⟨vs, rfl, hvl, hR, hb2⟩
  have A2 := A1.step hb2
  have B2 := Lib.hid (bthen B1.out hb2)
  clear A1 B1 hb2
  have SV : (fl vs).size = 4 := by rw [fl_size, hvl]
  have C2 := At.new w2 (#[.float .f32 0, .float .f32 0, .float .f32 0, .float .f32 0]) 29
  have C3 := C2.setRow (fl vs)
  have A3 := (A2.alloc (.cells (#[.float .f32 0, .float .f32 0, .float .f32 0, .float .f32 0]) 29)).setRow_other (k := w2.heap.size) (Nat.ne_of_lt A2.lt) (fl vs)
  have B3 := Lib.hid (bset (bnew B2.out (.cells (#[.float .f32 0, .float .f32 0, .float .f32 0, .float .f32 0]) 29)) (g := w2.heap.size) B2.out.size (fl vs))
  clear A2 B2
  go_wp2_with (first | ((with_reducible refine is_store 29 (.tmp 3) (.tmp 7) rfl ?_); refine wpList_store_at rfl 29 (.tmp 3) (.tmp 7) rfl _ rfl (fl vs) rfl (#[.float .f32 0, .float .f32 0, .float .f32 0, .float .f32 0]) _ C2 4 (SV) (rfl) (by kernel_rfl) (fl_one _) ?_) | ((with_reducible refine is_load 24 _ rfl ?_); refine wpList_load_at rfl 24 _ rfl _ rfl (fl ts) _ A3 16 (SZ) _ Try.underlying24 rfl (by kernel_rfl) ?_))
  refine (toFlows_any ts hlt _).mono ?_
  rintro e w3 ⟨rfl, hb3⟩
  have C4 := C3.step hb3
  have B4 := Lib.hid (bthen B3.out hb3)
  clear C2 C3 A3 B3 hb3
  go_wp2_with fail
  refine (OutFlows_any ts hlt _).mono ?_
  rintro e w4 ⟨us, rfl, hul, hU, hb4⟩
  have C5 := C4.step hb4
  have B5 := Lib.hid (bthen B4.out hb4)
  clear C4 B4 hb4
  have ag : ∀ k, k < 4 → Agr (nth us k) (nth vs k) := fun k hk => CS_agr (u32_lt hct) (by omega) (hU k hk) (hR k hk)
  have SU : (fl us).size = 4 := by rw [fl_size, hul]
  have D5 := At.new w4 (#[.float .f32 0, .float .f32 0, .float .f32 0, .float .f32 0]) 29
  have D6 := D5.setRow (fl us)
  have C6 := (C5.alloc (.cells (#[.float .f32 0, .float .f32 0, .float .f32 0, .float .f32 0]) 29)).setRow_other (k := w4.heap.size) (Nat.ne_of_lt C5.lt) (fl us)
  have B6 := Lib.hid (bset (bnew B5.out (.cells (#[.float .f32 0, .float .f32 0, .float .f32 0, .float .f32 0]) 29)) (g := w4.heap.size) B5.out.size (fl us))
  clear C5 B5 hR hU
  go_wp2_with (first | ((with_reducible refine is_store 29 (.tmp 4) (.tmp 10) rfl ?_); refine wpList_store_at rfl 29 (.tmp 4) (.tmp 10) rfl _ rfl (fl us) rfl (#[.float .f32 0, .float .f32 0, .float .f32 0, .float .f32 0]) _ D5 4 (SU) (rfl) (by kernel_rfl) (fl_one _) ?_) | ((with_reducible refine is_load 29 _ rfl ?_); refine wpList_load_at rfl 29 _ rfl _ rfl (fl us) _ D6 4 (SU) _ Try.underlying29 rfl (by kernel_rfl) ?_) | ((with_reducible refine is_load 29 _ rfl ?_); refine wpList_load_at rfl 29 _ rfl _ rfl (fl vs) _ C6 4 (SV) _ Try.underlying29 rfl (by kernel_rfl) ?_))
  refine (eqFour_agr us vs hul hvl ag _).mono ?_
  rintro e w5 ⟨rfl, hb5⟩
  go_wp2_with fail
  go_ret
  exact ⟨rfl, bthen B6.out hb5⟩

set_option maxRecDepth 100000 in
theorem lifted (os : Os) (started : os.Started) (H : Type) (enc : TypeId × Value → H) :
    ReturnsInHanded {} Try.checked os 12 .any (Rows.fnExactOutFlowsSpec.pre6 enc Try.prog Try.f12 Rows.fnExactOutFlowsRow.domain false) (Rows.fnExactOutFlowsSpec.post enc Try.prog Try.f12 false true false false) := by
  refine law_lifted enc os started (by kernel_rfl) Try.func12
    (ChangeSpec.witness6 (enc := enc) (C := Try.checked) false ⟨#[], #[.agg (Array.replicate 16 (.float .f32 0))], []⟩ 24 (by kernel_rfl) (by kernel_rfl) (by kernel_rfl) (by kernel_rfl)) rfl (by kernel_rfl) ?_ ?_ ?_
  · rw [Try.params12]
    intro t ht
    have hall : (#[24].toList.all fun u => Try.prog.readableRec u && decide (u < Try.prog.types.size)) = true := by kernel_rfl
    have := List.all_eq_true.1 hall t ht
    simpa using this
  · intro ds h
    rw [Try.params12] at h
    match ds, h with
    | [d0], _ => rfl
  · intro W base args hl hval
    rw [Try.params12] at hl hval
    obtain ⟨v0, rfl⟩ : ∃ v0, args = #[v0] := by
      obtain ⟨l⟩ := args
      match l, hl with
      | [v0], _ => exact ⟨v0, rfl⟩
    obtain ⟨c0, rfl, hl0, hc0⟩ := shape_fl (n := 16) Try.underlying24 rfl (by kernel_rfl) (by kernel_rfl) (hval 0 _ _ rfl rfl)
    exact walk c0 hl0 hc0 W

/-- THE STATEMENT -/
theorem proved : Rows.FnExactOutFlowsSaid :=
  OpenClaim.holds_of_wide 12 Try.f12 rfl rfl rfl rfl rfl rfl rfl ⟨rfl, rfl, rfl, rfl, rfl⟩ rfl rfl rfl rfl rfl (by kernel_rfl) Try.func12 (by kernel_rfl)
    (of_decide_eq_true (by kernel_rfl)) (by unfold Func.isWrapper; first | (rw [if_pos (by decide +kernel)]; kernel_rfl) | (rw [if_neg (by decide +kernel)]; exact ⟨rfl, rfl⟩))
    (fun os started H enc _ => lifted os started H enc)
#print axioms proved
end Go.Proofs.Ytdoilkhndkakkaa.lawFnExactOutFlows
