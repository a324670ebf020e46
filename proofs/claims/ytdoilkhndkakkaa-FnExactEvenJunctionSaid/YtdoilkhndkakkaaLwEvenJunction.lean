/-
  FnExactEvenJunction: the program's EvenJunction answers as its model, at every two whole numbers. No condition.
-/
import Derived.Test.YtdoilkhndkakkaaLaw
import Derived.Test.YtdoilkhndkakkaaToJn
import Derived.Test.YtdoilkhndkakkaaEvenJn
namespace Go.Proofs.Ytdoilkhndkakkaa.lawFnExactEvenJunction
open Go Go.ChangeShapes Go.WideShapes Go.ChangeAt Go.RowKit

set_option maxRecDepth 100000
set_option maxHeartbeats 1000000 in
theorem walk (i : Int) (_hi : -9223372036854775808 ≤ i ∧ i ≤ 9223372036854775807) (o : Int) (_ho : -9223372036854775808 ≤ o ∧ o ≤ 9223372036854775807) (w : World) :
    Calls Try.prog 5 #[.int .i64 i, .int .i64 o] w (True? w) := by
  clear _hi _ho
  have GD := vEven_good i o
  have SR := jn_size GD.1 GD.2.1 (vEven i o).1 (vEven i o).2.1
  go_enter Try.func5, Try.ntmps5
  go_wp2_with fail
  refine (sEvenJunction_b i o _).mono ?_
  rintro e w2 ⟨rfl, hb2⟩
  have B2 := Lib.hid hb2
  clear hb2
  have C1 : At (w2.alloc (.cells (#[.int .i64 0, .int .i64 0, .float .f32 0, .float .f32 0, .float .f32 0, .float .f32 0, .float .f32 0, .float .f32 0, .float .f32 0, .float .f32 0, .float .f32 0, .float .f32 0, .float .f32 0, .float .f32 0, .float .f32 0, .float .f32 0, .float .f32 0, .float .f32 0, .float .f32 0, .float .f32 0, .float .f32 0, .float .f32 0]) 31)) w2.heap.size (#[.int .i64 0, .int .i64 0, .float .f32 0, .float .f32 0, .float .f32 0, .float .f32 0, .float .f32 0, .float .f32 0, .float .f32 0, .float .f32 0, .float .f32 0, .float .f32 0, .float .f32 0, .float .f32 0, .float .f32 0, .float .f32 0, .float .f32 0, .float .f32 0, .float .f32 0, .float .f32 0, .float .f32 0, .float .f32 0]) 31 := At.new w2 _ _
  have C2 := C1.setRow (jn (vEven i o).1 (vEven i o).2.1 (vEven i o).2.2.1 (vEven i o).2.2.2.1)
  have B3 := Lib.hid (bset (bnew B2.out (.cells (#[.int .i64 0, .int .i64 0, .float .f32 0, .float .f32 0, .float .f32 0, .float .f32 0, .float .f32 0, .float .f32 0, .float .f32 0, .float .f32 0, .float .f32 0, .float .f32 0, .float .f32 0, .float .f32 0, .float .f32 0, .float .f32 0, .float .f32 0, .float .f32 0, .float .f32 0, .float .f32 0, .float .f32 0, .float .f32 0]) 31)) (g := w2.heap.size) B2.out.size (jn (vEven i o).1 (vEven i o).2.1 (vEven i o).2.2.1 (vEven i o).2.2.2.1))
  clear B2
  go_wp2_with (first | ((with_reducible refine is_store 31 (.tmp 5) (.tmp 13) rfl ?_); refine wpList_store_at rfl 31 (.tmp 5) (.tmp 13) rfl _ rfl (jn (vEven i o).1 (vEven i o).2.1 (vEven i o).2.2.1 (vEven i o).2.2.2.1) rfl (#[.int .i64 0, .int .i64 0, .float .f32 0, .float .f32 0, .float .f32 0, .float .f32 0, .float .f32 0, .float .f32 0, .float .f32 0, .float .f32 0, .float .f32 0, .float .f32 0, .float .f32 0, .float .f32 0, .float .f32 0, .float .f32 0, .float .f32 0, .float .f32 0, .float .f32 0, .float .f32 0, .float .f32 0, .float .f32 0]) _ (by assumption) 22 (SR) ((by rw [zlit]; exact jn_size (zeros_len 16) (zeros_len 4) _ _)) (by kernel_rfl) (jn_one _ _ _ _) ?_))
  have C3 := C2
  have B4 := B3
  clear C1 C2 B3
  refine (EvenJunction_b i o _).mono ?_
  rintro e w4 ⟨rfl, hb4⟩
  have C4 := C3.step hb4
  have B5 := Lib.hid (bthen B4.out hb4)
  clear C3 B4 hb4
  have D1 : At (w4.alloc (.cells (#[.int .i64 0, .int .i64 0, .float .f32 0, .float .f32 0, .float .f32 0, .float .f32 0, .float .f32 0, .float .f32 0, .float .f32 0, .float .f32 0, .float .f32 0, .float .f32 0, .float .f32 0, .float .f32 0, .float .f32 0, .float .f32 0, .float .f32 0, .float .f32 0, .float .f32 0, .float .f32 0, .float .f32 0, .float .f32 0]) 31)) w4.heap.size (#[.int .i64 0, .int .i64 0, .float .f32 0, .float .f32 0, .float .f32 0, .float .f32 0, .float .f32 0, .float .f32 0, .float .f32 0, .float .f32 0, .float .f32 0, .float .f32 0, .float .f32 0, .float .f32 0, .float .f32 0, .float .f32 0, .float .f32 0, .float .f32 0, .float .f32 0, .float .f32 0, .float .f32 0, .float .f32 0]) 31 := At.new w4 _ _
  have D2 := D1.setRow (jn (vEven i o).1 (vEven i o).2.1 (vEven i o).2.2.1 (vEven i o).2.2.2.1)
  have C5 := (C4.alloc (.cells (#[.int .i64 0, .int .i64 0, .float .f32 0, .float .f32 0, .float .f32 0, .float .f32 0, .float .f32 0, .float .f32 0, .float .f32 0, .float .f32 0, .float .f32 0, .float .f32 0, .float .f32 0, .float .f32 0, .float .f32 0, .float .f32 0, .float .f32 0, .float .f32 0, .float .f32 0, .float .f32 0, .float .f32 0, .float .f32 0]) 31)).setRow_other (k := w4.heap.size) (Nat.ne_of_lt C4.lt) (jn (vEven i o).1 (vEven i o).2.1 (vEven i o).2.2.1 (vEven i o).2.2.2.1)
  have B6 := Lib.hid (bset (bnew B5.out (.cells (#[.int .i64 0, .int .i64 0, .float .f32 0, .float .f32 0, .float .f32 0, .float .f32 0, .float .f32 0, .float .f32 0, .float .f32 0, .float .f32 0, .float .f32 0, .float .f32 0, .float .f32 0, .float .f32 0, .float .f32 0, .float .f32 0, .float .f32 0, .float .f32 0, .float .f32 0, .float .f32 0, .float .f32 0, .float .f32 0]) 31)) (g := w4.heap.size) B5.out.size (jn (vEven i o).1 (vEven i o).2.1 (vEven i o).2.2.1 (vEven i o).2.2.2.1))
  clear C4 B5
  go_wp2_with (first | ((with_reducible refine is_store 31 (.tmp 7) (.tmp 19) rfl ?_); refine wpList_store_at rfl 31 (.tmp 7) (.tmp 19) rfl _ rfl (jn (vEven i o).1 (vEven i o).2.1 (vEven i o).2.2.1 (vEven i o).2.2.2.1) rfl (#[.int .i64 0, .int .i64 0, .float .f32 0, .float .f32 0, .float .f32 0, .float .f32 0, .float .f32 0, .float .f32 0, .float .f32 0, .float .f32 0, .float .f32 0, .float .f32 0, .float .f32 0, .float .f32 0, .float .f32 0, .float .f32 0, .float .f32 0, .float .f32 0, .float .f32 0, .float .f32 0, .float .f32 0, .float .f32 0]) _ (by assumption) 22 (SR) ((by rw [zlit]; exact jn_size (zeros_len 16) (zeros_len 4) _ _)) (by kernel_rfl) (jn_one _ _ _ _) ?_) | ((with_reducible refine is_load 31 _ rfl ?_); refine wpList_load_at rfl 31 _ rfl _ rfl (jn (vEven i o).1 (vEven i o).2.1 (vEven i o).2.2.1 (vEven i o).2.2.2.1) _ (by assumption) 22 (SR) _ Try.underlying31 rfl (by kernel_rfl) ?_))
  refine (eqJunction_same _ _ _ _ GD.1 GD.2.1 GD.2.2.1 GD.2.2.2 _).mono ?_
  rintro e w5 ⟨rfl, hb5⟩
  go_wp2_with fail
  go_ret
  exact ⟨rfl, bthen B6.out hb5⟩

set_option maxRecDepth 100000 in
theorem lifted (os : Os) (started : os.Started) (H : Type) (enc : TypeId × Value → H) :
    ReturnsInHanded {} Try.checked os 5 .any (Rows.fnExactEvenJunctionSpec.pre6 enc Try.prog Try.f5 Rows.fnExactEvenJunctionRow.domain false) (Rows.fnExactEvenJunctionSpec.post enc Try.prog Try.f5 false true false false) := by
  refine law_lifted enc os started (by kernel_rfl) Try.func5
    (ChangeSpec.witness6 (enc := enc) (C := Try.checked) false ⟨#[], #[.int .i64 0, .int .i64 0], []⟩ 24 (by kernel_rfl) (by kernel_rfl) (by kernel_rfl) (by kernel_rfl)) rfl (by kernel_rfl) ?_ ?_ ?_
  · rw [Try.params5]
    intro t ht
    have hall : (#[2, 2].toList.all fun u => Try.prog.readableRec u && decide (u < Try.prog.types.size)) = true := by kernel_rfl
    have := List.all_eq_true.1 hall t ht
    simpa using this
  · intro ds h
    rw [Try.params5] at h
    match ds, h with
    | [d0, d1], _ => rfl
  · intro W base args hl hval
    rw [Try.params5] at hl hval
    obtain ⟨v0, v1, rfl⟩ : ∃ v0 v1, args = #[v0, v1] := by
      obtain ⟨l⟩ := args
      match l, hl with
      | [v0, v1], _ => exact ⟨v0, v1, rfl⟩
    obtain ⟨x0, rfl, h0⟩ := shape_i64 (hval 0 _ _ rfl rfl)
    obtain ⟨x1, rfl, h1⟩ := shape_i64 (hval 1 _ _ rfl rfl)
    exact walk x0 h0 x1 h1 W

/-- THE STATEMENT -/
theorem proved : Rows.FnExactEvenJunctionSaid :=
  OpenClaim.holds_of_wide 5 Try.f5 rfl rfl rfl rfl rfl rfl rfl ⟨rfl, rfl, rfl, rfl, rfl⟩ rfl rfl rfl rfl rfl (by kernel_rfl) Try.func5 (by kernel_rfl)
    (of_decide_eq_true (by kernel_rfl)) (by unfold Func.isWrapper; first | (rw [if_pos (by decide +kernel)]; kernel_rfl) | (rw [if_neg (by decide +kernel)]; exact ⟨rfl, rfl⟩))
    (fun os started H enc _ => lifted os started H enc)
#print axioms proved
end Go.Proofs.Ytdoilkhndkakkaa.lawFnExactEvenJunction
