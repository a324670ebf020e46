/-
  CONTRACTS: plans, a law's made the program's, and held against each other; sizes.
-/
import Derived.Test.YtopjikgkoodbmabToSlots
namespace Go.Proofs.Ytopjikgkoodbmab
open Go Go.ChangeShapes Go.WideShapes Go.ChangeAt Go.RowKit
set_option maxRecDepth 100000

/-- a plan's cells -/
def plC (s : Value) (b o : Int) : Array Value := #[s, .int .i64 b, .int .i64 o]
theorem plC_size (s : Value) (b o : Int) : (plC s b o).size = 3 := rfl
theorem plC_0 (s : Value) (b o : Int) : (plC s b o)[0]? = some s := rfl
theorem plC_1 (s : Value) (b o : Int) : (plC s b o)[1]? = some (.int .i64 b) := rfl
theorem plC_2 (s : Value) (b o : Int) : (plC s b o)[2]? = some (.int .i64 o) := rfl
theorem plC_s0 (s : Value) (b o : Int) (s' : Value) : (plC s b o).setIfInBounds 0 s' = plC s' b o := rfl
theorem plC_s1 (s : Value) (b o b' : Int) : (plC s b o).setIfInBounds 1 (.int .i64 b') = plC s b' o := rfl
theorem plC_s2 (s : Value) (b o o' : Int) : (plC s b o).setIfInBounds 2 (.int .i64 o') = plC s b o' := rfl
theorem plC_z : (#[.slice none 0 0, .int .i64 0, .int .i64 0] : Array Value) = plC (.slice none 0 0) 0 0 := rfl
theorem pl_one (s : Value) (hs : s.oneCell' = true) (b o : Int) : (plC s b o).all (·.oneCell') = true := by
  unfold plC
  rw [List.all_toArray, List.all_cons, List.all_cons, List.all_cons, List.all_nil, hs]; rfl
theorem sl_one (a : Option Addr) (n c : Nat) : (Value.slice a n c).oneCell' = true := rfl

end Go.Proofs.Ytopjikgkoodbmab
