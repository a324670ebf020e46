/-
  CONTRACTS: the shape of a short number that came in.
-/
import Derived.Test.YteoplkhhlligcaaTl
import Derived.Test.YteoplkhhlligcaaLaw
namespace Go.Proofs.Yteoplkhhlligcaa
open Go Go.ChangeShapes Go.WideShapes Go.ChangeAt Go.RowKit
set_option maxRecDepth 100000

theorem shape_i16 {W : World} {r : Reach} {base : Nat} {v : Value} (h : Value.okWide Try.prog W r base 23 v) : ∃ x, v = .int .i16 x ∧ I16 x := by
  obtain ⟨x, rfl⟩ := okWide_int Try.underlying23 h
  refine ⟨x, rfl, ?_⟩
  have h' : Cell.ok Try.prog W r base 23 (.int .i16 x) := by simpa [Value.okWide, Cell.okWide, Try.underlying23] using h
  have h2 := h'
  simp only [Cell.ok, Try.underlying23] at h2
  have h3 := h2.2
  simp [IntKind.has, IntKind.min, IntKind.max, IntKind.bits, IntKind.signed] at h3
  exact h3

end Go.Proofs.Yteoplkhhlligcaa
