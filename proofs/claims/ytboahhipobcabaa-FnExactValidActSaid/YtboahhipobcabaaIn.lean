/-
  CONTRACTS: is a number one of a range?
-/
import Derived.Test.YtboahhipobcabaaAt
import Derived.Test.YtboahhipobcabaaArms
import Derived.Test.YtboahhipobcabaaRoadS
import Derived.WalkKit
import Derived.Deep.LoopGhost
import Derived.IntWalk
namespace Go.Proofs.Ytboahhipobcabaa
open Go Go.RowKit
set_option maxRecDepth 100000



end Go.Proofs.Ytboahhipobcabaa
