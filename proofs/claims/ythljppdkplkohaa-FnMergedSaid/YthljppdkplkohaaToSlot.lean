/-
  CONTRACTS: slots, a law's made the program's, and held against each other.
-/
import Derived.Test.YthljppdkplkohaaToTab
import Derived.Test.YthljppdkplkohaaSl
import Derived.Test.YthljppdkplkohaaOneCell
namespace Go.Proofs.Ythljppdkplkohaa
open Go Go.ChangeShapes Go.WideShapes Go.ChangeAt Go.RowKit
set_option maxRecDepth 100000

theorem zsl : (#[.bool false, .bool false, .bool false, .bool false, .bool false, .bool false, .bool false, .bool false, .int .i64 0] : Array Value) = sl1 (noes 8) 0 := rfl

end Go.Proofs.Ythljppdkplkohaa
