/-
  FnExactValidTable: the program's ValidTable answers as its model, at every table. No condition.
-/
import Derived.Test.YtkhnhbmnmciiaaaTab
namespace Go.Proofs.Ytkhnhbmnmciiaaa.lawFnExactValidTable
open Go Go.ChangeShapes Go.WideShapes Go.ChangeAt Go.RowKit

set_option maxRecDepth 100000
theorem walk (ts : List Bool) (hl : ts.length = 64) (w : World) :
    Calls Try.prog 3 #[.agg (bl ts)] w (True? w) := by
  have A0 := At.new w (bl ts) 23
  have SZ : (bl ts).size = 64 := by rw [bl_size, hl]
  go_enter Try.func3, Try.ntmps3
  go_wp2_with (((with_reducible refine is_load 23 _ rfl ?_); refine wpList_load_at rfl 23 _ rfl _ rfl (bl ts) _ (by assumption) 64 (SZ) _ Try.underlying23 rfl (by kernel_rfl) ?_))
  refine (toTable_any ts hl _).mono ?_
  rintro e w1 ⟨rfl, hb1⟩
  have A1 := A0.step hb1
  go_wp2_with fail
  refine (sValidTable_any ts hl _).mono ?_
  rintro e w2 ⟨rfl, hb2⟩
  have A2 := A1.step hb2
  go_wp2_with (((with_reducible refine is_load 23 _ rfl ?_); refine wpList_load_at rfl 23 _ rfl _ rfl (bl ts) _ (by assumption) 64 (SZ) _ Try.underlying23 rfl (by kernel_rfl) ?_))
  refine (toTable_any ts hl _).mono ?_
  rintro e w3 ⟨rfl, hb3⟩
  go_wp2_with fail
  refine (ValidTable_any ts hl _).mono ?_
  rintro e w4 ⟨rfl, hb4⟩
  go_wp2_with fail
  go_ret
  exact ⟨rfl, bthen (bthen (bthen (bthen (b0 _ _) hb1) hb2) hb3) hb4⟩

set_option maxRecDepth 100000 in
theorem lifted (os : Os) (started : os.Started) (H : Type) (enc : TypeId × Value → H) :
    ReturnsInHanded {} Try.checked os 3 .any (Rows.fnExactValidTableSpec.pre6 enc Try.prog Try.f3 Rows.fnExactValidTableRow.domain false) (Rows.fnExactValidTableSpec.post enc Try.prog Try.f3 false true false false) := by
  refine law_lifted enc os started (by kernel_rfl) Try.func3
    (ChangeSpec.witness6 (enc := enc) (C := Try.checked) false ⟨#[], #[.agg (Array.replicate 64 (.bool false))], []⟩ 24 (by kernel_rfl) (by kernel_rfl) (by kernel_rfl) (by kernel_rfl)) rfl (by kernel_rfl) ?_ ?_ ?_
  · rw [Try.params3]
    intro t ht
    have hall : (#[23].toList.all fun u => Try.prog.readableRec u && decide (u < Try.prog.types.size)) = true := by kernel_rfl
    have := List.all_eq_true.1 hall t ht
    simpa using this
  · intro ds h
    rw [Try.params3] at h
    match ds, h with
    | [d0], _ => rfl
  · intro W base args hl hval
    rw [Try.params3] at hl hval
    obtain ⟨v0, rfl⟩ : ∃ v0, args = #[v0] := by
      obtain ⟨l⟩ := args
      match l, hl with
      | [v0], _ => exact ⟨v0, rfl⟩
    obtain ⟨c0, rfl, hl0⟩ := shape_bl (n := 64) Try.underlying23 rfl (by kernel_rfl) (by kernel_rfl) (hval 0 _ _ rfl rfl)
    exact walk c0 hl0 W

/-- THE STATEMENT -/
theorem proved : Rows.FnExactValidTableSaid :=
  OpenClaim.holds_of_wide 3 Try.f3 rfl rfl rfl rfl rfl rfl rfl ⟨rfl, rfl, rfl, rfl, rfl⟩ rfl rfl rfl rfl rfl (by kernel_rfl) Try.func3 (by kernel_rfl)
    (of_decide_eq_true (by kernel_rfl)) (by unfold Func.isWrapper; first | (rw [if_pos (by decide +kernel)]; kernel_rfl) | (rw [if_neg (by decide +kernel)]; exact ⟨rfl, rfl⟩))
    (fun os started H enc _ => lifted os started H enc)
#print axioms proved
end Go.Proofs.Ytkhnhbmnmciiaaa.lawFnExactValidTable
