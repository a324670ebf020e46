/-
  FnExactPhaseOf: the program's PhaseOf answers as its model, at every number. No condition.
-/
import Derived.Test.YtkhnhbmnmciiaaaPhOf
namespace Go.Proofs.Ytkhnhbmnmciiaaa.lawFnExactPhaseOf
open Go Go.ChangeShapes Go.WideShapes Go.ChangeAt Go.RowKit

set_option maxRecDepth 100000
theorem walk (n : Int) (hn : -9223372036854775808 ≤ n ∧ n ≤ 9223372036854775807) (w : World) :
    Calls Try.prog 8 #[.int .i64 n] w (True? w) := by
  clear hn
  have SR : (bl (vPh n).1).size = 8 := by rw [bl_size, vPh_len]
  have KS := sPhaseOf_any n
  have KI := PhaseOf_any n
  go_enter Try.func8, Try.ntmps8
  go_wp2_with fail
  refine (KS _).mono ?_
  rintro e w2 ⟨rfl, hb2⟩
  have B2 := Lib.hid hb2
  clear hb2 KS
  have C1 : At (w2.alloc (.cells (bl (noes 8)) 36)) w2.heap.size (bl (noes 8)) 36 := At.new w2 _ _
  have C2 := C1.setRow (bl (vPh n).1)
  have B3 := Lib.hid (bset (bnew B2.out (.cells (bl (noes 8)) 36)) (g := w2.heap.size) B2.out.size (bl (vPh n).1))
  clear B2
  go_wp2_with (((with_reducible refine is_store 36 _ _ rfl ?_); refine wpList_store_at rfl 36 _ _ rfl _ rfl (bl (vPh n).1) rfl (bl (noes 8)) _ (by assumption) 8 (SR) (by rw [bl_size, noes_len]) (by kernel_rfl) (bl_one _) ?_))
  refine (KI _).mono ?_
  rintro e w4 ⟨rfl, hb4⟩
  have C4 := C2.step hb4
  have B5 := Lib.hid (bthen B3.out hb4)
  clear C1 C2 B3 hb4 KI
  have D1 : At (w4.alloc (.cells (bl (noes 8)) 36)) w4.heap.size (bl (noes 8)) 36 := At.new w4 _ _
  have D2 := D1.setRow (bl (vPh n).1)
  have C5 := (C4.alloc (.cells (bl (noes 8)) 36)).setRow_other (k := w4.heap.size) (Nat.ne_of_lt C4.lt) (bl (vPh n).1)
  have B6 := Lib.hid (bset (bnew B5.out (.cells (bl (noes 8)) 36)) (g := w4.heap.size) B5.out.size (bl (vPh n).1))
  clear C4 B5
  go_wp2_with (first | ((with_reducible refine is_store 36 _ _ rfl ?_); refine wpList_store_at rfl 36 _ _ rfl _ rfl (bl (vPh n).1) rfl (bl (noes 8)) _ (by assumption) 8 (SR) (by rw [bl_size, noes_len]) (by kernel_rfl) (bl_one _) ?_) | ((with_reducible refine is_load 36 _ rfl ?_); refine wpList_load_at rfl 36 _ rfl _ rfl (bl (vPh n).1) _ (by assumption) 8 (SR) _ Try.underlying36 rfl (by kernel_rfl) ?_))
  refine (eqPhase_same _ (vPh_len n) _).mono ?_
  rintro e w5 ⟨rfl, hb5⟩
  go_wp2_with fail
  go_ret
  exact ⟨rfl, bthen B6.out hb5⟩

set_option maxRecDepth 100000 in
theorem lifted (os : Os) (started : os.Started) (H : Type) (enc : TypeId × Value → H) :
    ReturnsInHanded {} Try.checked os 8 .any (Rows.fnExactPhaseOfSpec.pre6 enc Try.prog Try.f8 Rows.fnExactPhaseOfRow.domain false) (Rows.fnExactPhaseOfSpec.post enc Try.prog Try.f8 false true false false) := by
  refine law_lifted enc os started (by kernel_rfl) Try.func8
    (ChangeSpec.witness6 (enc := enc) (C := Try.checked) false ⟨#[], #[.int .i64 0], []⟩ 24 (by kernel_rfl) (by kernel_rfl) (by kernel_rfl) (by kernel_rfl)) rfl (by kernel_rfl) ?_ ?_ ?_
  · rw [Try.params8]
    intro t ht
    have hall : (#[2].toList.all fun u => Try.prog.readableRec u && decide (u < Try.prog.types.size)) = true := by kernel_rfl
    have := List.all_eq_true.1 hall t ht
    simpa using this
  · intro ds h
    rw [Try.params8] at h
    match ds, h with
    | [d0], _ => rfl
  · intro W base args hl hval
    rw [Try.params8] at hl hval
    obtain ⟨v0, rfl⟩ : ∃ v0, args = #[v0] := by
      obtain ⟨l⟩ := args
      match l, hl with
      | [v0], _ => exact ⟨v0, rfl⟩
    obtain ⟨x0, rfl, h0⟩ := shape_i64 (hval 0 _ _ rfl rfl)
    exact walk x0 h0 W

/-- THE STATEMENT -/
theorem proved : Rows.FnExactPhaseOfSaid :=
  OpenClaim.holds_of_wide 8 Try.f8 rfl rfl rfl rfl rfl rfl rfl ⟨rfl, rfl, rfl, rfl, rfl⟩ rfl rfl rfl rfl rfl (by kernel_rfl) Try.func8 (by kernel_rfl)
    (of_decide_eq_true (by kernel_rfl)) (by unfold Func.isWrapper; first | (rw [if_pos (by decide +kernel)]; kernel_rfl) | (rw [if_neg (by decide +kernel)]; exact ⟨rfl, rfl⟩))
    (fun os started H enc _ => lifted os started H enc)
#print axioms proved
end Go.Proofs.Ytkhnhbmnmciiaaa.lawFnExactPhaseOf
