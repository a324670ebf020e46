/-
  FnExactValidJunction: the program's ValidJunction answers as its model, at every junction. No condition.
-/
import Derived.Test.YtdoilkhndkakkaaLaw
import Derived.Test.YtdoilkhndkakkaaToJn
import Derived.Test.YtdoilkhndkakkaaValid
namespace Go.Proofs.Ytdoilkhndkakkaa.lawFnExactValidJunction
open Go Go.ChangeShapes Go.WideShapes Go.ChangeAt Go.RowKit

set_option maxRecDepth 100000
theorem walk (i o : Int) (ts ps : List Nat) (hi : -9223372036854775808 ≤ i ∧ i ≤ 9223372036854775807) (ho : -9223372036854775808 ≤ o ∧ o ≤ 9223372036854775807) (hlt : ts.length = 16) (hlp : ps.length = 4) (hct : ∀ x ∈ ts, x < 4294967296) (hcp : ∀ x ∈ ps, x < 4294967296) (w : World) :
    Calls Try.prog 3 #[.agg (jn i o ts ps)] w (True? w) := by
  have A0 := At.new w (jn i o ts ps) 26
  have SZ := jn_size hlt hlp i o
  go_enter Try.func3, Try.ntmps3
  go_wp2_with (((with_reducible refine is_load 26 _ rfl ?_); refine wpList_load_at rfl 26 _ rfl _ rfl (jn i o ts ps) _ (by assumption) 22 (SZ) _ Try.underlying26 rfl (by kernel_rfl) ?_))
  refine (toJunction_any i o ts ps hi ho hlt hlp hct hcp _).mono ?_
  rintro e w1 ⟨rfl, hb1⟩
  have A1 := A0.step hb1
  go_wp2_with fail
  refine (sValidJunction_b i o ts ps hi ho hlt hlp hct hcp _).mono ?_
  rintro e w2 ⟨rfl, hb2⟩
  have A2 := A1.step hb2
  go_wp2_with (((with_reducible refine is_load 26 _ rfl ?_); refine wpList_load_at rfl 26 _ rfl _ rfl (jn i o ts ps) _ (by assumption) 22 (SZ) _ Try.underlying26 rfl (by kernel_rfl) ?_))
  refine (toJunction_any i o ts ps hi ho hlt hlp hct hcp _).mono ?_
  rintro e w3 ⟨rfl, hb3⟩
  go_wp2_with fail
  refine (ValidJunction_b i o ts ps hi ho hlt hlp hct hcp _).mono ?_
  rintro e w4 ⟨rfl, hb4⟩
  go_wp2_with fail
  go_ret
  exact ⟨rfl, bthen (bthen (bthen (bthen (b0 _ _) hb1) hb2) hb3) hb4⟩

set_option maxRecDepth 100000 in
theorem lifted (os : Os) (started : os.Started) (H : Type) (enc : TypeId × Value → H) :
    ReturnsInHanded {} Try.checked os 3 .any (Rows.fnExactValidJunctionSpec.pre6 enc Try.prog Try.f3 Rows.fnExactValidJunctionRow.domain false) (Rows.fnExactValidJunctionSpec.post enc Try.prog Try.f3 false true false false) := by
  refine law_lifted enc os started (by kernel_rfl) Try.func3
    (ChangeSpec.witness6 (enc := enc) (C := Try.checked) false ⟨#[], #[.agg (#[.int .i64 0, .int .i64 0] ++ Array.replicate 20 (.float .f32 0))], []⟩ 24 (by kernel_rfl) (by kernel_rfl) (by kernel_rfl) (by kernel_rfl)) rfl (by kernel_rfl) ?_ ?_ ?_
  · rw [Try.params3]
    intro t ht
    have hall : (#[26].toList.all fun u => Try.prog.readableRec u && decide (u < Try.prog.types.size)) = true := by kernel_rfl
    have := List.all_eq_true.1 hall t ht
    simpa using this
  · intro ds h
    rw [Try.params3] at h
    match ds, h with
    | [d0], _ => rfl
  · intro W base args hl hval
    rw [Try.params3] at hl hval
    obtain ⟨v0, rfl⟩ : ∃ v0, args = #[v0] := by
      obtain ⟨l⟩ := args
      match l, hl with
      | [v0], _ => exact ⟨v0, rfl⟩
    obtain ⟨ji0, jo0, jt0, jp0, rfl, hji0, hjo0, hlt0, hlp0, hct0, hcp0⟩ := shape_jn (hval 0 _ _ rfl rfl)
    exact walk ji0 jo0 jt0 jp0 hji0 hjo0 hlt0 hlp0 hct0 hcp0 W

/-- THE STATEMENT -/
theorem proved : Rows.FnExactValidJunctionSaid :=
  OpenClaim.holds_of_wide 3 Try.f3 rfl rfl rfl rfl rfl rfl rfl ⟨rfl, rfl, rfl, rfl, rfl⟩ rfl rfl rfl rfl rfl (by kernel_rfl) Try.func3 (by kernel_rfl)
    (of_decide_eq_true (by kernel_rfl)) (by unfold Func.isWrapper; first | (rw [if_pos (by decide +kernel)]; kernel_rfl) | (rw [if_neg (by decide +kernel)]; exact ⟨rfl, rfl⟩))
    (fun os started H enc _ => lifted os started H enc)
#print axioms proved
end Go.Proofs.Ytdoilkhndkakkaa.lawFnExactValidJunction
