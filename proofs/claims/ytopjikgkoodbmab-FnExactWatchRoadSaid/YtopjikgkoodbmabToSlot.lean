/-
  CONTRACTS: slots, a law's made the program's, and held against each other.
-/
import Derived.Test.YtopjikgkoodbmabToTab
import Derived.Test.YtopjikgkoodbmabSl
import Derived.Test.YtopjikgkoodbmabOneCell
namespace Go.Proofs.Ytopjikgkoodbmab
open Go Go.ChangeShapes Go.WideShapes Go.ChangeAt Go.RowKit
set_option maxRecDepth 100000

end Go.Proofs.Ytopjikgkoodbmab
