/-
  CONTRACTS: tallies, a law's made the program's, and held against each other.
-/
import Derived.Test.YtopjikgkoodbmabTl
import Derived.Test.YtopjikgkoodbmabMix
import Derived.Test.YtopjikgkoodbmabPiece
import Derived.Test.YtopjikgkoodbmabJn
import Derived.Test.YtopjikgkoodbmabOneCell
import Derived.Test.YtopjikgkoodbmabLaw
import Derived.Deep.LoopGhost
import Derived.IntWalk
namespace Go.Proofs.Ytopjikgkoodbmab
open Go Go.ChangeShapes Go.WideShapes Go.ChangeAt Go.RowKit
set_option maxRecDepth 100000

end Go.Proofs.Ytopjikgkoodbmab
