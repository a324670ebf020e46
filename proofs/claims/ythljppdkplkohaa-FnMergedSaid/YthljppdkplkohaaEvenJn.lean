/-
  CONTRACTS: EvenJunction.
-/
import Derived.Test.YthljppdkplkohaaEven
namespace Go.Proofs.Ythljppdkplkohaa
open Go Go.RowKit
set_option maxRecDepth 100000

/-- 1 over a number of outs -/
def evQ (o : Int) : Nat := if o = 1 then 1065353216 else if o = 2 then 1056964608 else if o = 3 then 1051372203 else 1048576000

def vEven (i o : Int) : Int × Int × List Nat × List Nat × Int :=
  if inB 1 4 i && inB 1 4 o then (i, o, evT (evQ o) o.toNat i.toNat 0, evP i.toNat, 0) else (0, 0, zeros 16, zeros 4, 2)

theorem even_facts (o : Int) (h : 1 ≤ o ∧ o ≤ 4) : ∃ f q, (∀ W, (convert 2 24 (.int .i64 o)).run Try.prog W = .ok (.float .f32 f) W) ∧ (∀ t W, (binOp .quo t (.float .f32 1065353216) (.float .f32 f)).run Try.prog W = .ok (.float .f32 q) W) ∧ evQ o = q ∧ q ≤ 1065353216 := by
  rcases (by omega : o = 1 ∨ o = 2 ∨ o = 3 ∨ o = 4) with rfl | rfl | rfl | rfl
  · exact ⟨1065353216, 1065353216, fun W => by kernel_rfl, fun t W => run_float_arith W .quo t .f32 _ _ _ (by decide), rfl, by omega⟩
  · exact ⟨1073741824, 1056964608, fun W => by kernel_rfl, fun t W => run_float_arith W .quo t .f32 _ _ _ (by decide), rfl, by omega⟩
  · exact ⟨1077936128, 1051372203, fun W => by kernel_rfl, fun t W => run_float_arith W .quo t .f32 _ _ _ (by decide), rfl, by omega⟩
  · exact ⟨1082130432, 1048576000, fun W => by kernel_rfl, fun t W => run_float_arith W .quo t .f32 _ _ _ (by decide), rfl, by omega⟩

theorem vEven_good (i o : Int) : (vEven i o).2.2.1.length = 16 ∧ (vEven i o).2.2.2.1.length = 4 ∧ (∀ y ∈ (vEven i o).2.2.1, y < 4294967296 ∧ nanB y = false) ∧ ∀ y ∈ (vEven i o).2.2.2.1, y < 4294967296 ∧ nanB y = false := by
  unfold vEven
  split
  · rename_i h
    have b2 : 1 ≤ o ∧ o ≤ 4 := by unfold inB at h; simp at h; exact h.2
    obtain ⟨f, q, -, -, hq, hle⟩ := even_facts o b2
    refine ⟨evT_len _ _ _ _, evP_len _, fun y hy => ?_, fun y hy => ?_⟩
    · obtain ⟨k, hk, rfl⟩ := rowOf_mem hy
      split
      · rw [hq]; exact nan_le hle (by omega)
      · decide
    · obtain ⟨k, hk, rfl⟩ := rowOf_mem hy
      split <;> decide
  · exact ⟨zeros_len _, zeros_len _, zeros_good _, zeros_good _⟩

end Go.Proofs.Ythljppdkplkohaa
