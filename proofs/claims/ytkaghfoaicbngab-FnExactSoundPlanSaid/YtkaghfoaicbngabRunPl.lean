/-
  CONTRACTS: a plan loaded whole.
-/
import Derived.Test.YtkaghfoaicbngabToPlan
namespace Go.Proofs.Ytkaghfoaicbngab
open Go Go.ChangeShapes Go.WideShapes Go.ChangeAt Go.RowKit
set_option maxRecDepth 100000

theorem run_plan {w : World} {g : Nat} {s : Value} {b o : Int} {T : TypeId} (ty : TypeId) (fs : Array Field) (h : At w g (plC s b o) T) (hu : Try.prog.underlying ty = some (.struct fs)) (hi : (Try.prog.info? ty).map (·.size) = some 3) :
    (Instr.loadAt ty (.pointer (some ⟨g, 0, none⟩))).run Try.prog w = .ok (.agg (plC s b o)) w :=
  run_loadAt_part w g 0 3 ty (plC s b o) T (0, 0) _ h hu rfl hi (by rw [plC_size]; omega)

end Go.Proofs.Ytkaghfoaicbngab
