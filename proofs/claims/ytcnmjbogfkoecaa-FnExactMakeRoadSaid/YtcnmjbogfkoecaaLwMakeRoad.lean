/-
  FnExactMakeRoad: the program's MakeRoad answers as its model, at every three narrow floats. No condition.
-/
import Derived.Test.YtcnmjbogfkoecaaLaw
import Derived.Test.YtcnmjbogfkoecaaMakeRoad
namespace Go.Proofs.Ytcnmjbogfkoecaa.lawFnExactMakeRoad
open Go Go.ChangeShapes Go.WideShapes Go.ChangeAt Go.RowKit

set_option maxHeartbeats 400000 in
theorem walk (p : Nat) (hp : p < 4294967296) (b : Nat) (hb : b < 4294967296) (l : Nat) (hla : l < 4294967296) (w : World) :
    Calls Try.prog 8 #[.float .f32 p, .float .f32 b, .float .f32 l] w (True? w) := by
  go_enter Try.func8, Try.ntmps8
  go_wp2_with fail
  refine (sMakeRoad_any p b l hp hb hla _).mono ?_
  rintro e w1 ⟨rfl, hb1⟩
  have C1 : At (w1.alloc (.cells (rd (zeros 16) 0 0 0) 31)) w1.heap.size (rd (zeros 16) 0 0 0) 31 := At.new w1 _ _
  have C2 := C1.setRow (rd (zeros 16) (vMakeRoad p b l).1 (vMakeRoad p b l).2.1 (vMakeRoad p b l).2.2.1)
  have D1 := Lib.hid (bset (bnew hb1 (.cells (rd (zeros 16) 0 0 0) 31)) (g := w1.heap.size) hb1.size (rd (zeros 16) (vMakeRoad p b l).1 (vMakeRoad p b l).2.1 (vMakeRoad p b l).2.2.1))
  go_wp2_with (((with_reducible refine is_store 31 (.tmp 7) (.tmp 16) rfl ?_); refine wpList_store_at rfl 31 (.tmp 7) (.tmp 16) rfl _ rfl (rd (zeros 16) (vMakeRoad p b l).1 (vMakeRoad p b l).2.1 (vMakeRoad p b l).2.2.1) rfl (rd (zeros 16) 0 0 0) _ (by assumption) 19 (by first | exact rd_size (zeros_len 16) _ _ _ | (refine rd_size ?_ _ _ _; assumption)) (by first | exact rd_size (zeros_len 16) _ _ _ | (refine rd_size ?_ _ _ _; assumption)) (by kernel_rfl) (fl_one _) ?_))
  refine (MakeRoad_any p b l hp hb hla _).mono ?_
  rintro e w3 ⟨rfl, hb3⟩
  have C3 := C2.step hb3
  have D3 := bthen D1.out hb3
  clear C1 C2 D1 hb1 hb3
  have E1 : At (w3.alloc (.cells (rd (zeros 16) 0 0 0) 31)) w3.heap.size (rd (zeros 16) 0 0 0) 31 := At.new w3 _ _
  have E2 := E1.setRow (rd (zeros 16) (vMakeRoad p b l).1 (vMakeRoad p b l).2.1 (vMakeRoad p b l).2.2.1)
  have C4 := (C3.alloc (.cells (rd (zeros 16) 0 0 0) 31)).setRow_other (k := w3.heap.size) (Nat.ne_of_lt C3.lt) (rd (zeros 16) (vMakeRoad p b l).1 (vMakeRoad p b l).2.1 (vMakeRoad p b l).2.2.1)
  have D4 := Lib.hid (bset (bnew D3 (.cells (rd (zeros 16) 0 0 0) 31)) (g := w3.heap.size) D3.size (rd (zeros 16) (vMakeRoad p b l).1 (vMakeRoad p b l).2.1 (vMakeRoad p b l).2.2.1))
  clear C3 D3
  go_wp2_with (first | ((with_reducible refine is_store 31 (.tmp 9) (.tmp 23) rfl ?_); refine wpList_store_at rfl 31 (.tmp 9) (.tmp 23) rfl _ rfl (rd (zeros 16) (vMakeRoad p b l).1 (vMakeRoad p b l).2.1 (vMakeRoad p b l).2.2.1) rfl (rd (zeros 16) 0 0 0) _ (by assumption) 19 (by first | exact rd_size (zeros_len 16) _ _ _ | (refine rd_size ?_ _ _ _; assumption)) (by first | exact rd_size (zeros_len 16) _ _ _ | (refine rd_size ?_ _ _ _; assumption)) (by kernel_rfl) (fl_one _) ?_) | ((with_reducible refine is_load 31 _ rfl ?_); refine wpList_load_at rfl 31 _ rfl _ rfl (rd (zeros 16) (vMakeRoad p b l).1 (vMakeRoad p b l).2.1 (vMakeRoad p b l).2.2.1) _ (by assumption) 19 (rd_size (zeros_len 16) _ _ _) _ Try.underlying31 rfl (by kernel_rfl) ?_))
  refine (eqRoad_same (zeros 16) _ _ _ (vMakeRoad_good p b l) _).mono ?_
  rintro e w5 ⟨rfl, hb5⟩
  go_wp2_with fail
  go_ret
  exact ⟨rfl, bthen D4.out hb5⟩

set_option maxRecDepth 100000 in
theorem lifted (os : Os) (started : os.Started) (H : Type) (enc : TypeId × Value → H) :
    ReturnsInHanded {} Try.checked os 8 .any (Rows.fnExactMakeRoadSpec.pre6 enc Try.prog Try.f8 Rows.fnExactMakeRoadRow.domain false) (Rows.fnExactMakeRoadSpec.post enc Try.prog Try.f8 false true false false) := by
  refine law_lifted enc os started (by kernel_rfl) Try.func8
    (ChangeSpec.witness6 (enc := enc) (C := Try.checked) false ⟨#[], #[.float .f32 0, .float .f32 0, .float .f32 0], []⟩ 24 (by kernel_rfl) (by kernel_rfl) (by kernel_rfl) (by kernel_rfl)) rfl (by kernel_rfl) ?_ ?_ ?_
  · rw [Try.params8]
    intro t ht
    have hall : (#[22, 22, 22].toList.all fun u => Try.prog.readableRec u && decide (u < Try.prog.types.size)) = true := by kernel_rfl
    have := List.all_eq_true.1 hall t ht
    simpa using this
  · intro ds h
    rw [Try.params8] at h
    match ds, h with
    | [d0, d1, d2], _ => rfl
  · intro W base args hl hval
    rw [Try.params8] at hl hval
    obtain ⟨v0, v1, v2, rfl⟩ : ∃ v0 v1 v2, args = #[v0, v1, v2] := by
      obtain ⟨l⟩ := args
      match l, hl with
      | [v0, v1, v2], _ => exact ⟨v0, v1, v2, rfl⟩
    obtain ⟨x0, rfl, h0⟩ := shape_f32 (hval 0 _ _ rfl rfl)
    obtain ⟨x1, rfl, h1⟩ := shape_f32 (hval 1 _ _ rfl rfl)
    obtain ⟨x2, rfl, h2⟩ := shape_f32 (hval 2 _ _ rfl rfl)
    exact walk x0 h0 x1 h1 x2 h2 W

/-- THE STATEMENT -/
theorem proved : Rows.FnExactMakeRoadSaid :=
  OpenClaim.holds_of_wide 8 Try.f8 rfl rfl rfl rfl rfl rfl rfl ⟨rfl, rfl, rfl, rfl, rfl⟩ rfl rfl rfl rfl rfl (by kernel_rfl) Try.func8 (by kernel_rfl)
    (of_decide_eq_true (by kernel_rfl)) (by unfold Func.isWrapper; first | (rw [if_pos (by decide +kernel)]; kernel_rfl) | (rw [if_neg (by decide +kernel)]; exact ⟨rfl, rfl⟩))
    (fun os started H enc _ => lifted os started H enc)
#print axioms proved
end Go.Proofs.Ytcnmjbogfkoecaa.lawFnExactMakeRoad
