/-
  CONTRACTS: the shape of a short number that came in.
-/
import Derived.Test.YtopjikgkoodbmabTl
import Derived.Test.YtopjikgkoodbmabLaw
namespace Go.Proofs.Ytopjikgkoodbmab
open Go Go.ChangeShapes Go.WideShapes Go.ChangeAt Go.RowKit
set_option maxRecDepth 100000

theorem shape_i16 {W : World} {r : Reach} {base : Nat} {v : Value} (h : Value.okWide Try.prog W r base 30 v) : ∃ x, v = .int .i16 x ∧ I16 x := by
  obtain ⟨x, rfl⟩ := okWide_int Try.underlying30 h
  refine ⟨x, rfl, ?_⟩
  have h' : Cell.ok Try.prog W r base 30 (.int .i16 x) := by simpa [Value.okWide, Cell.okWide, Try.underlying30] using h
  have h2 := h'
  simp only [Cell.ok, Try.underlying30] at h2
  have h3 := h2.2
  simp [IntKind.has, IntKind.min, IntKind.max, IntKind.bits, IntKind.signed] at h3
  exact h3

end Go.Proofs.Ytopjikgkoodbmab
