/-
  CONTRACTS: clear phases, and the first conflict.
-/
import Derived.Test.YtkaghfoaicbngabCfl
namespace Go.Proofs.Ytkaghfoaicbngab
open Go Go.ChangeShapes Go.WideShapes Go.ChangeAt Go.RowKit
set_option maxRecDepth 100000

def vIsClear (ts ps : List Bool) : Bool × Int := if okT ts then (!cfB (conf ts ps), 0) else (false, 1)
theorem vIsClear_yes {ts ps : List Bool} (h : okT ts = true) : vIsClear ts ps = (!cfB (conf ts ps), 0) := by unfold vIsClear; rw [if_pos h]
theorem vIsClear_no {ts ps : List Bool} (h : okT ts = false) : vIsClear ts ps = (false, 1) := by unfold vIsClear; rw [h]; rfl
def fst3 : Option (Nat × Nat) → Int × Int × Int
  | some (i, k) => (i, k, 0)
  | none => (0, 0, 6)
def vFirstConflict (ts ps : List Bool) : Int × Int × Int := if okT ts then fst3 (conf ts ps) else (0, 0, 1)
theorem vFirstConflict_yes {ts ps : List Bool} (h : okT ts = true) : vFirstConflict ts ps = fst3 (conf ts ps) := by unfold vFirstConflict; rw [if_pos h]
theorem vFirstConflict_no {ts ps : List Bool} (h : okT ts = false) : vFirstConflict ts ps = (0, 0, 1) := by unfold vFirstConflict; rw [h]; rfl

end Go.Proofs.Ytkaghfoaicbngab
