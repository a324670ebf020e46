/-
  CONTRACTS: cells: their codes.
-/
import Derived.Test.YtldgacihegibmabFlow
import Derived.Test.YtldgacihegibmabEq
namespace Go.Proofs.Ytldgacihegibmab
open Go Go.RowKit
theorem Below.drewN0 (w : World) (n : Nat) : Below w.heap.size w (w.drewN n) := below_drewN (Below.refl _ _) n

end Go.Proofs.Ytldgacihegibmab
