/-
  No cell of these rows narrows 'for every input' (looked for: loops, veiled, ifaces, maps, wideKeys, modest, calm, conditions, laid).
  DERIVED. THE GIVEN ROWS OF THIS SEAT. 8 by the template 'for every input the law returns true; each argument reads behind the call as it read before'; 0 by the template 'total and deterministic' (their statements: YtcnmjbogfkoecabTotals.lean).
  GIVEN WITH THE SEED: the statements are not yours to turn. If you find one false, say at which input.
  Laid BY PROGRAM, IN A SANDBOX (cutbox-rows.mjs): the forced cells as the released guide's own fill.sh prints them over the translation 80d00c2d28150a61… (all of the seat's roots in one cut). By AI agents, Wed Nov 11 2026. No macro, syntax, notation, axiom, sorry.
-/
import Derived.Test.YtcnmjbogfkoecabChecked
import GoSem.Claim
import GoSem.ClaimJoined
import GoSem.ClaimMapViews
import Derived.JoinedTies
import Derived.KernelRfl
namespace Go.Proofs.Ytcnmjbogfkoecab
/- THE CELL 'sum', in the pinned program and in every row, IS THE sha256 OF THE DUMP (.gsa) THAT YtcnmjbogfkoecabProg.lean LOADS. Nothing in Lean hashes anything: it is a label: what it is worth is what the hold of that sum in a sandbox is worth. -/
noncomputable def Try.pinned : Pinned := { name := "ytcnmjbogfkoecab", sum := "80d00c2d28150a6192f5b861f4a0011a6ccac22fd29d93f7f4f331e72623552c", checked := Try.checked }
namespace Rows
def none {H : Type} : Left H := { results := [], args := [] }

/-- 'laws.FnExactTakesAt': WHATEVER THE INPUT: true; the input reads as it did. -/
def fnExactTakesAtSpec : ChangeSpec := { name := "fnExactTakesAt", fn := fun _ => fun
  | [d1, d2] => { results := [.lit (.bool true)], args := [d1, d2] }
  | _ => none }
def fnExactTakesAtRow : OpenClaim := { program := "ytcnmjbogfkoecab", sum := "80d00c2d28150a6192f5b861f4a0011a6ccac22fd29d93f7f4f331e72623552c", func := "loop.example/g01227/laws.FnExactTakesAt", spec := "fnExactTakesAt", inPlace := ["math.Float32bits", "math.Float64bits"], apart := false }
def FnExactTakesAtSaid : Prop := fnExactTakesAtRow.holds Try.pinned (OpenSpec.ofChange fnExactTakesAtSpec)

/-- ITS FALSE NEIGHBOUR: 'it returns false'. Refute it at one input. -/
def fnExactTakesAtWrong : ChangeSpec := { name := "fnExactTakesAt", fn := fun _ => fun
  | [d1, d2] => { results := [.lit (.bool false)], args := [d1, d2] }
  | _ => none }
def FnExactTakesAtWrongFalsely : Prop := fnExactTakesAtRow.holds Try.pinned (OpenSpec.ofChange fnExactTakesAtWrong)

/-- 'laws.FnExactFlowBetween': WHATEVER THE INPUT: true; the input reads as it did. -/
def fnExactFlowBetweenSpec : ChangeSpec := { name := "fnExactFlowBetween", fn := fun _ => fun
  | [d1, d2] => { results := [.lit (.bool true)], args := [d1, d2] }
  | _ => none }
def fnExactFlowBetweenRow : OpenClaim := { program := "ytcnmjbogfkoecab", sum := "80d00c2d28150a6192f5b861f4a0011a6ccac22fd29d93f7f4f331e72623552c", func := "loop.example/g01227/laws.FnExactFlowBetween", spec := "fnExactFlowBetween", inPlace := ["math.Float32bits", "math.Float64bits"], apart := false }
def FnExactFlowBetweenSaid : Prop := fnExactFlowBetweenRow.holds Try.pinned (OpenSpec.ofChange fnExactFlowBetweenSpec)

/-- ITS FALSE NEIGHBOUR: 'it returns false'. Refute it at one input. -/
def fnExactFlowBetweenWrong : ChangeSpec := { name := "fnExactFlowBetween", fn := fun _ => fun
  | [d1, d2] => { results := [.lit (.bool false)], args := [d1, d2] }
  | _ => none }
def FnExactFlowBetweenWrongFalsely : Prop := fnExactFlowBetweenRow.holds Try.pinned (OpenSpec.ofChange fnExactFlowBetweenWrong)

/-- 'laws.FnExactSpeedAt': WHATEVER THE INPUT: true; the input reads as it did. -/
def fnExactSpeedAtSpec : ChangeSpec := { name := "fnExactSpeedAt", fn := fun _ => fun
  | [d1, d2] => { results := [.lit (.bool true)], args := [d1, d2] }
  | _ => none }
def fnExactSpeedAtRow : OpenClaim := { program := "ytcnmjbogfkoecab", sum := "80d00c2d28150a6192f5b861f4a0011a6ccac22fd29d93f7f4f331e72623552c", func := "loop.example/g01227/laws.FnExactSpeedAt", spec := "fnExactSpeedAt", inPlace := ["math.Float32bits", "math.Float64bits"], apart := false }
def FnExactSpeedAtSaid : Prop := fnExactSpeedAtRow.holds Try.pinned (OpenSpec.ofChange fnExactSpeedAtSpec)

/-- ITS FALSE NEIGHBOUR: 'it returns false'. Refute it at one input. -/
def fnExactSpeedAtWrong : ChangeSpec := { name := "fnExactSpeedAt", fn := fun _ => fun
  | [d1, d2] => { results := [.lit (.bool false)], args := [d1, d2] }
  | _ => none }
def FnExactSpeedAtWrongFalsely : Prop := fnExactSpeedAtRow.holds Try.pinned (OpenSpec.ofChange fnExactSpeedAtWrong)

/-- 'laws.FnExactCarsOn': WHATEVER THE INPUT: true; the input reads as it did. -/
def fnExactCarsOnSpec : ChangeSpec := { name := "fnExactCarsOn", fn := fun _ => fun
  | [d] => { results := [.lit (.bool true)], args := [d] }
  | _ => none }
def fnExactCarsOnRow : OpenClaim := { program := "ytcnmjbogfkoecab", sum := "80d00c2d28150a6192f5b861f4a0011a6ccac22fd29d93f7f4f331e72623552c", func := "loop.example/g01227/laws.FnExactCarsOn", spec := "fnExactCarsOn", inPlace := ["math.Float32bits", "math.Float64bits"], apart := false }
def FnExactCarsOnSaid : Prop := fnExactCarsOnRow.holds Try.pinned (OpenSpec.ofChange fnExactCarsOnSpec)

/-- ITS FALSE NEIGHBOUR: 'it returns false'. Refute it at one input. -/
def fnExactCarsOnWrong : ChangeSpec := { name := "fnExactCarsOn", fn := fun _ => fun
  | [d] => { results := [.lit (.bool false)], args := [d] }
  | _ => none }
def FnExactCarsOnWrongFalsely : Prop := fnExactCarsOnRow.holds Try.pinned (OpenSpec.ofChange fnExactCarsOnWrong)

/-- 'laws.FnExactDensestCell': WHATEVER THE INPUT: true; the input reads as it did. -/
def fnExactDensestCellSpec : ChangeSpec := { name := "fnExactDensestCell", fn := fun _ => fun
  | [d] => { results := [.lit (.bool true)], args := [d] }
  | _ => none }
def fnExactDensestCellRow : OpenClaim := { program := "ytcnmjbogfkoecab", sum := "80d00c2d28150a6192f5b861f4a0011a6ccac22fd29d93f7f4f331e72623552c", func := "loop.example/g01227/laws.FnExactDensestCell", spec := "fnExactDensestCell", inPlace := ["math.Float32bits", "math.Float64bits"], apart := false }
def FnExactDensestCellSaid : Prop := fnExactDensestCellRow.holds Try.pinned (OpenSpec.ofChange fnExactDensestCellSpec)

/-- ITS FALSE NEIGHBOUR: 'it returns false'. Refute it at one input. -/
def fnExactDensestCellWrong : ChangeSpec := { name := "fnExactDensestCell", fn := fun _ => fun
  | [d] => { results := [.lit (.bool false)], args := [d] }
  | _ => none }
def FnExactDensestCellWrongFalsely : Prop := fnExactDensestCellRow.holds Try.pinned (OpenSpec.ofChange fnExactDensestCellWrong)

/-- 'laws.FnExactQueueOf': WHATEVER THE INPUT: true; the input reads as it did. -/
def fnExactQueueOfSpec : ChangeSpec := { name := "fnExactQueueOf", fn := fun _ => fun
  | [d] => { results := [.lit (.bool true)], args := [d] }
  | _ => none }
def fnExactQueueOfRow : OpenClaim := { program := "ytcnmjbogfkoecab", sum := "80d00c2d28150a6192f5b861f4a0011a6ccac22fd29d93f7f4f331e72623552c", func := "loop.example/g01227/laws.FnExactQueueOf", spec := "fnExactQueueOf", inPlace := ["math.Float32bits", "math.Float64bits"], apart := false }
def FnExactQueueOfSaid : Prop := fnExactQueueOfRow.holds Try.pinned (OpenSpec.ofChange fnExactQueueOfSpec)

/-- ITS FALSE NEIGHBOUR: 'it returns false'. Refute it at one input. -/
def fnExactQueueOfWrong : ChangeSpec := { name := "fnExactQueueOf", fn := fun _ => fun
  | [d] => { results := [.lit (.bool false)], args := [d] }
  | _ => none }
def FnExactQueueOfWrongFalsely : Prop := fnExactQueueOfRow.holds Try.pinned (OpenSpec.ofChange fnExactQueueOfWrong)

/-- 'laws.FnExactIsFree': WHATEVER THE INPUT: true; the input reads as it did. -/
def fnExactIsFreeSpec : ChangeSpec := { name := "fnExactIsFree", fn := fun _ => fun
  | [d] => { results := [.lit (.bool true)], args := [d] }
  | _ => none }
def fnExactIsFreeRow : OpenClaim := { program := "ytcnmjbogfkoecab", sum := "80d00c2d28150a6192f5b861f4a0011a6ccac22fd29d93f7f4f331e72623552c", func := "loop.example/g01227/laws.FnExactIsFree", spec := "fnExactIsFree", inPlace := ["math.Float32bits", "math.Float64bits"], apart := false }
def FnExactIsFreeSaid : Prop := fnExactIsFreeRow.holds Try.pinned (OpenSpec.ofChange fnExactIsFreeSpec)

/-- ITS FALSE NEIGHBOUR: 'it returns false'. Refute it at one input. -/
def fnExactIsFreeWrong : ChangeSpec := { name := "fnExactIsFree", fn := fun _ => fun
  | [d] => { results := [.lit (.bool false)], args := [d] }
  | _ => none }
def FnExactIsFreeWrongFalsely : Prop := fnExactIsFreeRow.holds Try.pinned (OpenSpec.ofChange fnExactIsFreeWrong)

/-- 'laws.FnExactMixRoads': WHATEVER THE INPUT: true; the input reads as it did. -/
def fnExactMixRoadsSpec : ChangeSpec := { name := "fnExactMixRoads", fn := fun _ => fun
  | [d1, d2, d3] => { results := [.lit (.bool true)], args := [d1, d2, d3] }
  | _ => none }
def fnExactMixRoadsRow : OpenClaim := { program := "ytcnmjbogfkoecab", sum := "80d00c2d28150a6192f5b861f4a0011a6ccac22fd29d93f7f4f331e72623552c", func := "loop.example/g01227/laws.FnExactMixRoads", spec := "fnExactMixRoads", inPlace := ["math.Float32bits", "math.Float64bits"], apart := false }
def FnExactMixRoadsSaid : Prop := fnExactMixRoadsRow.holds Try.pinned (OpenSpec.ofChange fnExactMixRoadsSpec)

/-- ITS FALSE NEIGHBOUR: 'it returns false'. Refute it at one input. -/
def fnExactMixRoadsWrong : ChangeSpec := { name := "fnExactMixRoads", fn := fun _ => fun
  | [d1, d2, d3] => { results := [.lit (.bool false)], args := [d1, d2, d3] }
  | _ => none }
def FnExactMixRoadsWrongFalsely : Prop := fnExactMixRoadsRow.holds Try.pinned (OpenSpec.ofChange fnExactMixRoadsWrong)

/- THE SECOND FORM. 'bulk': how many values and letters a reading holds, each counted each time it is reached (what is shared counts as often as it is met; a slice's spare places count too). A statement '..UptoSaid' is the law's where the arguments, and the package variables that the reading takes, are together of bulk at most 1048576: NARROWER than '..Said'. Prove '..Said' where nothing that the law and all that it calls make is longer than what came in: it says more and counts as full. Else prove '..UptoSaid'. A law counts once. -/
mutual
def uptoBulk {H : Type} : DataW H → Nat
  | .lit (.string bytes) => bytes.length + 1
  | .lit _ => 1
  | .nil => 1
  | .ptr d => uptoBulk d + 1
  | .slice elems spare => uptoBulkAll elems + uptoBulkAll spare + 1
  | .agg parts => uptoBulkAll parts + 1
  | .iface _ d => uptoBulk d + 1
  | .map entries => uptoBulkEntries entries + 1
  | .held _ => 1
def uptoBulkAll {H : Type} : List (DataW H) → Nat
  | [] => 0
  | d :: r => uptoBulk d + uptoBulkAll r
def uptoBulkEntries {H : Type} : List (Lit × DataW H) → Nat
  | [] => 0
  | x :: r => uptoBulkEntry x + uptoBulkEntries r
def uptoBulkEntry {H : Type} : Lit × DataW H → Nat
  | (.string bytes, d) => bytes.length + uptoBulk d + 1
  | (_, d) => uptoBulk d + 1
 end
def uptoSmall : (H : Type) → List (DataW H) → Bool := fun _ ds => decide (uptoBulkAll ds ≤ 1048576)
def OpenSpec.upto (s : _root_.Go.ChangeSpec) : _root_.Go.OpenSpec := { _root_.Go.OpenSpec.ofChange s with cond := some uptoSmall }

/-- 'laws.FnExactTakesAt', WHERE WHAT IT READS IS OF BULK AT MOST 1048576: true; the input reads as it did. -/
def fnExactTakesAtUptoRow : OpenClaim := { program := "ytcnmjbogfkoecab", sum := "80d00c2d28150a6192f5b861f4a0011a6ccac22fd29d93f7f4f331e72623552c", func := "loop.example/g01227/laws.FnExactTakesAt", spec := "fnExactTakesAt", inPlace := ["math.Float32bits", "math.Float64bits"], apart := false, narrowed := true }
def FnExactTakesAtUptoSaid : Prop := fnExactTakesAtUptoRow.holds Try.pinned (OpenSpec.upto fnExactTakesAtSpec)

/-- 'laws.FnExactFlowBetween', WHERE WHAT IT READS IS OF BULK AT MOST 1048576: true; the input reads as it did. -/
def fnExactFlowBetweenUptoRow : OpenClaim := { program := "ytcnmjbogfkoecab", sum := "80d00c2d28150a6192f5b861f4a0011a6ccac22fd29d93f7f4f331e72623552c", func := "loop.example/g01227/laws.FnExactFlowBetween", spec := "fnExactFlowBetween", inPlace := ["math.Float32bits", "math.Float64bits"], apart := false, narrowed := true }
def FnExactFlowBetweenUptoSaid : Prop := fnExactFlowBetweenUptoRow.holds Try.pinned (OpenSpec.upto fnExactFlowBetweenSpec)

/-- 'laws.FnExactSpeedAt', WHERE WHAT IT READS IS OF BULK AT MOST 1048576: true; the input reads as it did. -/
def fnExactSpeedAtUptoRow : OpenClaim := { program := "ytcnmjbogfkoecab", sum := "80d00c2d28150a6192f5b861f4a0011a6ccac22fd29d93f7f4f331e72623552c", func := "loop.example/g01227/laws.FnExactSpeedAt", spec := "fnExactSpeedAt", inPlace := ["math.Float32bits", "math.Float64bits"], apart := false, narrowed := true }
def FnExactSpeedAtUptoSaid : Prop := fnExactSpeedAtUptoRow.holds Try.pinned (OpenSpec.upto fnExactSpeedAtSpec)

/-- 'laws.FnExactCarsOn', WHERE WHAT IT READS IS OF BULK AT MOST 1048576: true; the input reads as it did. -/
def fnExactCarsOnUptoRow : OpenClaim := { program := "ytcnmjbogfkoecab", sum := "80d00c2d28150a6192f5b861f4a0011a6ccac22fd29d93f7f4f331e72623552c", func := "loop.example/g01227/laws.FnExactCarsOn", spec := "fnExactCarsOn", inPlace := ["math.Float32bits", "math.Float64bits"], apart := false, narrowed := true }
def FnExactCarsOnUptoSaid : Prop := fnExactCarsOnUptoRow.holds Try.pinned (OpenSpec.upto fnExactCarsOnSpec)

/-- 'laws.FnExactDensestCell', WHERE WHAT IT READS IS OF BULK AT MOST 1048576: true; the input reads as it did. -/
def fnExactDensestCellUptoRow : OpenClaim := { program := "ytcnmjbogfkoecab", sum := "80d00c2d28150a6192f5b861f4a0011a6ccac22fd29d93f7f4f331e72623552c", func := "loop.example/g01227/laws.FnExactDensestCell", spec := "fnExactDensestCell", inPlace := ["math.Float32bits", "math.Float64bits"], apart := false, narrowed := true }
def FnExactDensestCellUptoSaid : Prop := fnExactDensestCellUptoRow.holds Try.pinned (OpenSpec.upto fnExactDensestCellSpec)

/-- 'laws.FnExactQueueOf', WHERE WHAT IT READS IS OF BULK AT MOST 1048576: true; the input reads as it did. -/
def fnExactQueueOfUptoRow : OpenClaim := { program := "ytcnmjbogfkoecab", sum := "80d00c2d28150a6192f5b861f4a0011a6ccac22fd29d93f7f4f331e72623552c", func := "loop.example/g01227/laws.FnExactQueueOf", spec := "fnExactQueueOf", inPlace := ["math.Float32bits", "math.Float64bits"], apart := false, narrowed := true }
def FnExactQueueOfUptoSaid : Prop := fnExactQueueOfUptoRow.holds Try.pinned (OpenSpec.upto fnExactQueueOfSpec)

/-- 'laws.FnExactIsFree', WHERE WHAT IT READS IS OF BULK AT MOST 1048576: true; the input reads as it did. -/
def fnExactIsFreeUptoRow : OpenClaim := { program := "ytcnmjbogfkoecab", sum := "80d00c2d28150a6192f5b861f4a0011a6ccac22fd29d93f7f4f331e72623552c", func := "loop.example/g01227/laws.FnExactIsFree", spec := "fnExactIsFree", inPlace := ["math.Float32bits", "math.Float64bits"], apart := false, narrowed := true }
def FnExactIsFreeUptoSaid : Prop := fnExactIsFreeUptoRow.holds Try.pinned (OpenSpec.upto fnExactIsFreeSpec)

/-- 'laws.FnExactMixRoads', WHERE WHAT IT READS IS OF BULK AT MOST 1048576: true; the input reads as it did. -/
def fnExactMixRoadsUptoRow : OpenClaim := { program := "ytcnmjbogfkoecab", sum := "80d00c2d28150a6192f5b861f4a0011a6ccac22fd29d93f7f4f331e72623552c", func := "loop.example/g01227/laws.FnExactMixRoads", spec := "fnExactMixRoads", inPlace := ["math.Float32bits", "math.Float64bits"], apart := false, narrowed := true }
def FnExactMixRoadsUptoSaid : Prop := fnExactMixRoadsUptoRow.holds Try.pinned (OpenSpec.upto fnExactMixRoadsSpec)

end Rows
end Go.Proofs.Ytcnmjbogfkoecab
