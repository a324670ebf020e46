/-
  No cell of these rows narrows 'for every input' (looked for: loops, veiled, ifaces, maps, wideKeys, modest, calm, conditions, laid).
  DERIVED. THE GIVEN ROWS OF THIS SEAT. 12 by the template 'for every input the law returns true; each argument reads behind the call as it read before'; 0 by the template 'total and deterministic' (their statements: YtafgcjjgnjialabTotals.lean).
  GIVEN WITH THE SEED: the statements are not yours to turn. If you find one false, say at which input.
  Laid BY PROGRAM, IN A SANDBOX (cutbox-rows.mjs): the forced cells as the released guide's own fill.sh prints them over the translation baeac019cd61140b… (all of the seat's roots in one cut). By AI agents, Wed Nov 11 2026. No macro, syntax, notation, axiom, sorry.
-/
import Derived.Test.YtafgcjjgnjialabChecked
import GoSem.Claim
import GoSem.ClaimJoined
import GoSem.ClaimMapViews
import Derived.JoinedTies
import Derived.KernelRfl
namespace Go.Proofs.Ytafgcjjgnjialab
/- THE CELL 'sum', in the pinned program and in every row, IS THE sha256 OF THE DUMP (.gsa) THAT YtafgcjjgnjialabProg.lean LOADS. Nothing in Lean hashes anything: it is a label: what it is worth is what the hold of that sum in a sandbox is worth. -/
noncomputable def Try.pinned : Pinned := { name := "ytafgcjjgnjialab", sum := "baeac019cd61140b36046effd638af85761a69e029d9e4e22d3415a63141f42d", checked := Try.checked }
namespace Rows
def none {H : Type} : Left H := { results := [], args := [] }

/-- 'laws.FnExactStepList': WHATEVER THE INPUT: true; the input reads as it did. -/
def fnExactStepListSpec : ChangeSpec := { name := "fnExactStepList", fn := fun _ => fun
  | [d1, d2, d3] => { results := [.lit (.bool true)], args := [d1, d2, d3] }
  | _ => none }
def fnExactStepListRow : OpenClaim := { program := "ytafgcjjgnjialab", sum := "baeac019cd61140b36046effd638af85761a69e029d9e4e22d3415a63141f42d", func := "loop.example/g01227/laws.FnExactStepList", spec := "fnExactStepList", inPlace := ["math.Float32bits", "math.Float64bits"], unfollowed := true, recurses := true, apart := false }
def FnExactStepListSaid : Prop := fnExactStepListRow.holds Try.pinned (OpenSpec.ofChange fnExactStepListSpec)

/-- ITS FALSE NEIGHBOUR: 'it returns false'. Refute it at one input. -/
def fnExactStepListWrong : ChangeSpec := { name := "fnExactStepList", fn := fun _ => fun
  | [d1, d2, d3] => { results := [.lit (.bool false)], args := [d1, d2, d3] }
  | _ => none }
def FnExactStepListWrongFalsely : Prop := fnExactStepListRow.holds Try.pinned (OpenSpec.ofChange fnExactStepListWrong)

/-- 'laws.FnExactStepsToEmpty': WHATEVER THE INPUT: true; the input reads as it did. -/
def fnExactStepsToEmptySpec : ChangeSpec := { name := "fnExactStepsToEmpty", fn := fun _ => fun
  | [d1, d2] => { results := [.lit (.bool true)], args := [d1, d2] }
  | _ => none }
def fnExactStepsToEmptyRow : OpenClaim := { program := "ytafgcjjgnjialab", sum := "baeac019cd61140b36046effd638af85761a69e029d9e4e22d3415a63141f42d", func := "loop.example/g01227/laws.FnExactStepsToEmpty", spec := "fnExactStepsToEmpty", inPlace := ["math.Float32bits", "math.Float64bits"], unfollowed := true, recurses := true, apart := false }
def FnExactStepsToEmptySaid : Prop := fnExactStepsToEmptyRow.holds Try.pinned (OpenSpec.ofChange fnExactStepsToEmptySpec)

/-- ITS FALSE NEIGHBOUR: 'it returns false'. Refute it at one input. -/
def fnExactStepsToEmptyWrong : ChangeSpec := { name := "fnExactStepsToEmpty", fn := fun _ => fun
  | [d1, d2] => { results := [.lit (.bool false)], args := [d1, d2] }
  | _ => none }
def FnExactStepsToEmptyWrongFalsely : Prop := fnExactStepsToEmptyRow.holds Try.pinned (OpenSpec.ofChange fnExactStepsToEmptyWrong)

/-- 'laws.FnExactStepsToFull': WHATEVER THE INPUT: true; the input reads as it did. -/
def fnExactStepsToFullSpec : ChangeSpec := { name := "fnExactStepsToFull", fn := fun _ => fun
  | [d1, d2, d3] => { results := [.lit (.bool true)], args := [d1, d2, d3] }
  | _ => none }
def fnExactStepsToFullRow : OpenClaim := { program := "ytafgcjjgnjialab", sum := "baeac019cd61140b36046effd638af85761a69e029d9e4e22d3415a63141f42d", func := "loop.example/g01227/laws.FnExactStepsToFull", spec := "fnExactStepsToFull", inPlace := ["math.Float32bits", "math.Float64bits"], unfollowed := true, recurses := true, apart := false }
def FnExactStepsToFullSaid : Prop := fnExactStepsToFullRow.holds Try.pinned (OpenSpec.ofChange fnExactStepsToFullSpec)

/-- ITS FALSE NEIGHBOUR: 'it returns false'. Refute it at one input. -/
def fnExactStepsToFullWrong : ChangeSpec := { name := "fnExactStepsToFull", fn := fun _ => fun
  | [d1, d2, d3] => { results := [.lit (.bool false)], args := [d1, d2, d3] }
  | _ => none }
def FnExactStepsToFullWrongFalsely : Prop := fnExactStepsToFullRow.holds Try.pinned (OpenSpec.ofChange fnExactStepsToFullWrong)

/-- 'laws.FnExactDelayOf': WHATEVER THE INPUT: true; the input reads as it did. -/
def fnExactDelayOfSpec : ChangeSpec := { name := "fnExactDelayOf", fn := fun _ => fun
  | [d1, d2, d3, d4] => { results := [.lit (.bool true)], args := [d1, d2, d3, d4] }
  | _ => none }
def fnExactDelayOfRow : OpenClaim := { program := "ytafgcjjgnjialab", sum := "baeac019cd61140b36046effd638af85761a69e029d9e4e22d3415a63141f42d", func := "loop.example/g01227/laws.FnExactDelayOf", spec := "fnExactDelayOf", inPlace := ["math.Float32bits", "math.Float64bits"], unfollowed := true, recurses := true, apart := false }
def FnExactDelayOfSaid : Prop := fnExactDelayOfRow.holds Try.pinned (OpenSpec.ofChange fnExactDelayOfSpec)

/-- ITS FALSE NEIGHBOUR: 'it returns false'. Refute it at one input. -/
def fnExactDelayOfWrong : ChangeSpec := { name := "fnExactDelayOf", fn := fun _ => fun
  | [d1, d2, d3, d4] => { results := [.lit (.bool false)], args := [d1, d2, d3, d4] }
  | _ => none }
def FnExactDelayOfWrongFalsely : Prop := fnExactDelayOfRow.holds Try.pinned (OpenSpec.ofChange fnExactDelayOfWrong)

/-- 'laws.FnExactJamsOf': WHATEVER THE INPUT: true; the input reads as it did. -/
def fnExactJamsOfSpec : ChangeSpec := { name := "fnExactJamsOf", fn := fun _ => fun
  | [d] => { results := [.lit (.bool true)], args := [d] }
  | _ => none }
def fnExactJamsOfRow : OpenClaim := { program := "ytafgcjjgnjialab", sum := "baeac019cd61140b36046effd638af85761a69e029d9e4e22d3415a63141f42d", func := "loop.example/g01227/laws.FnExactJamsOf", spec := "fnExactJamsOf", inPlace := ["math.Float32bits", "math.Float64bits"], apart := false }
def FnExactJamsOfSaid : Prop := fnExactJamsOfRow.holds Try.pinned (OpenSpec.ofChange fnExactJamsOfSpec)

/-- ITS FALSE NEIGHBOUR: 'it returns false'. Refute it at one input. -/
def fnExactJamsOfWrong : ChangeSpec := { name := "fnExactJamsOf", fn := fun _ => fun
  | [d] => { results := [.lit (.bool false)], args := [d] }
  | _ => none }
def FnExactJamsOfWrongFalsely : Prop := fnExactJamsOfRow.holds Try.pinned (OpenSpec.ofChange fnExactJamsOfWrong)

/-- 'laws.FnExactStepRoads': WHATEVER THE INPUT: true; the input reads as it did. -/
def fnExactStepRoadsSpec : ChangeSpec := { name := "fnExactStepRoads", fn := fun _ => fun
  | [d1, d2, d3, d4] => { results := [.lit (.bool true)], args := [d1, d2, d3, d4] }
  | _ => none }
def fnExactStepRoadsRow : OpenClaim := { program := "ytafgcjjgnjialab", sum := "baeac019cd61140b36046effd638af85761a69e029d9e4e22d3415a63141f42d", func := "loop.example/g01227/laws.FnExactStepRoads", spec := "fnExactStepRoads", inPlace := ["math.Float32bits", "math.Float64bits"], unfollowed := true, recurses := true, apart := false }
def FnExactStepRoadsSaid : Prop := fnExactStepRoadsRow.holds Try.pinned (OpenSpec.ofChange fnExactStepRoadsSpec)

/-- ITS FALSE NEIGHBOUR: 'it returns false'. Refute it at one input. -/
def fnExactStepRoadsWrong : ChangeSpec := { name := "fnExactStepRoads", fn := fun _ => fun
  | [d1, d2, d3, d4] => { results := [.lit (.bool false)], args := [d1, d2, d3, d4] }
  | _ => none }
def FnExactStepRoadsWrongFalsely : Prop := fnExactStepRoadsRow.holds Try.pinned (OpenSpec.ofChange fnExactStepRoadsWrong)

/-- 'laws.FnSent': WHATEVER THE INPUT: true; the input reads as it did. -/
def fnSentSpec : ChangeSpec := { name := "fnSent", fn := fun _ => fun
  | [d1, d2] => { results := [.lit (.bool true)], args := [d1, d2] }
  | _ => none }
def fnSentRow : OpenClaim := { program := "ytafgcjjgnjialab", sum := "baeac019cd61140b36046effd638af85761a69e029d9e4e22d3415a63141f42d", func := "loop.example/g01227/laws.FnSent", spec := "fnSent", inPlace := ["math.Float64bits", "math.Float32bits"], apart := false }
def FnSentSaid : Prop := fnSentRow.holds Try.pinned (OpenSpec.ofChange fnSentSpec)

/-- ITS FALSE NEIGHBOUR: 'it returns false'. Refute it at one input. -/
def fnSentWrong : ChangeSpec := { name := "fnSent", fn := fun _ => fun
  | [d1, d2] => { results := [.lit (.bool false)], args := [d1, d2] }
  | _ => none }
def FnSentWrongFalsely : Prop := fnSentRow.holds Try.pinned (OpenSpec.ofChange fnSentWrong)

/-- 'laws.FnStill': WHATEVER THE INPUT: true; the input reads as it did. -/
def fnStillSpec : ChangeSpec := { name := "fnStill", fn := fun _ => fun
  | [d1, d2] => { results := [.lit (.bool true)], args := [d1, d2] }
  | _ => none }
def fnStillRow : OpenClaim := { program := "ytafgcjjgnjialab", sum := "baeac019cd61140b36046effd638af85761a69e029d9e4e22d3415a63141f42d", func := "loop.example/g01227/laws.FnStill", spec := "fnStill", inPlace := ["math.Float64bits"], unfollowed := true, recurses := true, apart := false }
def FnStillSaid : Prop := fnStillRow.holds Try.pinned (OpenSpec.ofChange fnStillSpec)

/-- ITS FALSE NEIGHBOUR: 'it returns false'. Refute it at one input. -/
def fnStillWrong : ChangeSpec := { name := "fnStill", fn := fun _ => fun
  | [d1, d2] => { results := [.lit (.bool false)], args := [d1, d2] }
  | _ => none }
def FnStillWrongFalsely : Prop := fnStillRow.holds Try.pinned (OpenSpec.ofChange fnStillWrong)

/-- 'laws.FnEmptied': WHATEVER THE INPUT: true; the input reads as it did. -/
def fnEmptiedSpec : ChangeSpec := { name := "fnEmptied", fn := fun _ => fun
  | [d1, d2] => { results := [.lit (.bool true)], args := [d1, d2] }
  | _ => none }
def fnEmptiedRow : OpenClaim := { program := "ytafgcjjgnjialab", sum := "baeac019cd61140b36046effd638af85761a69e029d9e4e22d3415a63141f42d", func := "loop.example/g01227/laws.FnEmptied", spec := "fnEmptied", inPlace := ["math.Float64bits", "math.Float32bits"], unfollowed := true, recurses := true, apart := false }
def FnEmptiedSaid : Prop := fnEmptiedRow.holds Try.pinned (OpenSpec.ofChange fnEmptiedSpec)

/-- ITS FALSE NEIGHBOUR: 'it returns false'. Refute it at one input. -/
def fnEmptiedWrong : ChangeSpec := { name := "fnEmptied", fn := fun _ => fun
  | [d1, d2] => { results := [.lit (.bool false)], args := [d1, d2] }
  | _ => none }
def FnEmptiedWrongFalsely : Prop := fnEmptiedRow.holds Try.pinned (OpenSpec.ofChange fnEmptiedWrong)

/-- 'laws.FnRamps': WHATEVER THE INPUT: true; the input reads as it did. -/
def fnRampsSpec : ChangeSpec := { name := "fnRamps", fn := fun _ => fun
  | [d1, d2] => { results := [.lit (.bool true)], args := [d1, d2] }
  | _ => none }
def fnRampsRow : OpenClaim := { program := "ytafgcjjgnjialab", sum := "baeac019cd61140b36046effd638af85761a69e029d9e4e22d3415a63141f42d", func := "loop.example/g01227/laws.FnRamps", spec := "fnRamps", inPlace := ["math.Float64bits", "math.Float32bits"], unfollowed := true, recurses := true, apart := false }
def FnRampsSaid : Prop := fnRampsRow.holds Try.pinned (OpenSpec.ofChange fnRampsSpec)

/-- ITS FALSE NEIGHBOUR: 'it returns false'. Refute it at one input. -/
def fnRampsWrong : ChangeSpec := { name := "fnRamps", fn := fun _ => fun
  | [d1, d2] => { results := [.lit (.bool false)], args := [d1, d2] }
  | _ => none }
def FnRampsWrongFalsely : Prop := fnRampsRow.holds Try.pinned (OpenSpec.ofChange fnRampsWrong)

/-- 'laws.FnExactRampStep': WHATEVER THE INPUT: true; the input reads as it did. -/
def fnExactRampStepSpec : ChangeSpec := { name := "fnExactRampStep", fn := fun _ => fun
  | [d1, d2, d3, d4, d5] => { results := [.lit (.bool true)], args := [d1, d2, d3, d4, d5] }
  | _ => none }
def fnExactRampStepRow : OpenClaim := { program := "ytafgcjjgnjialab", sum := "baeac019cd61140b36046effd638af85761a69e029d9e4e22d3415a63141f42d", func := "loop.example/g01227/laws.FnExactRampStep", spec := "fnExactRampStep", inPlace := ["math.Float32bits", "math.Float64bits"], unfollowed := true, recurses := true, apart := false }
def FnExactRampStepSaid : Prop := fnExactRampStepRow.holds Try.pinned (OpenSpec.ofChange fnExactRampStepSpec)

/-- ITS FALSE NEIGHBOUR: 'it returns false'. Refute it at one input. -/
def fnExactRampStepWrong : ChangeSpec := { name := "fnExactRampStep", fn := fun _ => fun
  | [d1, d2, d3, d4, d5] => { results := [.lit (.bool false)], args := [d1, d2, d3, d4, d5] }
  | _ => none }
def FnExactRampStepWrongFalsely : Prop := fnExactRampStepRow.holds Try.pinned (OpenSpec.ofChange fnExactRampStepWrong)

/-- 'laws.FnExactSmoothRoad': WHATEVER THE INPUT: true; the input reads as it did. -/
def fnExactSmoothRoadSpec : ChangeSpec := { name := "fnExactSmoothRoad", fn := fun _ => fun
  | [d] => { results := [.lit (.bool true)], args := [d] }
  | _ => none }
def fnExactSmoothRoadRow : OpenClaim := { program := "ytafgcjjgnjialab", sum := "baeac019cd61140b36046effd638af85761a69e029d9e4e22d3415a63141f42d", func := "loop.example/g01227/laws.FnExactSmoothRoad", spec := "fnExactSmoothRoad", inPlace := ["math.Float32bits", "math.Float64bits"], apart := false }
def FnExactSmoothRoadSaid : Prop := fnExactSmoothRoadRow.holds Try.pinned (OpenSpec.ofChange fnExactSmoothRoadSpec)

/-- ITS FALSE NEIGHBOUR: 'it returns false'. Refute it at one input. -/
def fnExactSmoothRoadWrong : ChangeSpec := { name := "fnExactSmoothRoad", fn := fun _ => fun
  | [d] => { results := [.lit (.bool false)], args := [d] }
  | _ => none }
def FnExactSmoothRoadWrongFalsely : Prop := fnExactSmoothRoadRow.holds Try.pinned (OpenSpec.ofChange fnExactSmoothRoadWrong)

/- THE SECOND FORM. 'bulk': how many values and letters a reading holds, each counted each time it is reached (what is shared counts as often as it is met; a slice's spare places count too). A statement '..UptoSaid' is the law's where the arguments, and the package variables that the reading takes, are together of bulk at most 1048576: NARROWER than '..Said'. Prove '..Said' where nothing that the law and all that it calls make is longer than what came in: it says more and counts as full. Else prove '..UptoSaid'. A law counts once. -/
mutual
def uptoBulk {H : Type} : DataW H → Nat
  | .lit (.string bytes) => bytes.length + 1
  | .lit _ => 1
  | .nil => 1
  | .ptr d => uptoBulk d + 1
  | .slice elems spare => uptoBulkAll elems + uptoBulkAll spare + 1
  | .agg parts => uptoBulkAll parts + 1
  | .iface _ d => uptoBulk d + 1
  | .map entries => uptoBulkEntries entries + 1
  | .held _ => 1
def uptoBulkAll {H : Type} : List (DataW H) → Nat
  | [] => 0
  | d :: r => uptoBulk d + uptoBulkAll r
def uptoBulkEntries {H : Type} : List (Lit × DataW H) → Nat
  | [] => 0
  | x :: r => uptoBulkEntry x + uptoBulkEntries r
def uptoBulkEntry {H : Type} : Lit × DataW H → Nat
  | (.string bytes, d) => bytes.length + uptoBulk d + 1
  | (_, d) => uptoBulk d + 1
 end
def uptoSmall : (H : Type) → List (DataW H) → Bool := fun _ ds => decide (uptoBulkAll ds ≤ 1048576)
def OpenSpec.upto (s : _root_.Go.ChangeSpec) : _root_.Go.OpenSpec := { _root_.Go.OpenSpec.ofChange s with cond := some uptoSmall }

/-- 'laws.FnExactStepList', WHERE WHAT IT READS IS OF BULK AT MOST 1048576: true; the input reads as it did. -/
def fnExactStepListUptoRow : OpenClaim := { program := "ytafgcjjgnjialab", sum := "baeac019cd61140b36046effd638af85761a69e029d9e4e22d3415a63141f42d", func := "loop.example/g01227/laws.FnExactStepList", spec := "fnExactStepList", inPlace := ["math.Float32bits", "math.Float64bits"], unfollowed := true, recurses := true, apart := false, narrowed := true }
def FnExactStepListUptoSaid : Prop := fnExactStepListUptoRow.holds Try.pinned (OpenSpec.upto fnExactStepListSpec)

/-- 'laws.FnExactStepsToEmpty', WHERE WHAT IT READS IS OF BULK AT MOST 1048576: true; the input reads as it did. -/
def fnExactStepsToEmptyUptoRow : OpenClaim := { program := "ytafgcjjgnjialab", sum := "baeac019cd61140b36046effd638af85761a69e029d9e4e22d3415a63141f42d", func := "loop.example/g01227/laws.FnExactStepsToEmpty", spec := "fnExactStepsToEmpty", inPlace := ["math.Float32bits", "math.Float64bits"], unfollowed := true, recurses := true, apart := false, narrowed := true }
def FnExactStepsToEmptyUptoSaid : Prop := fnExactStepsToEmptyUptoRow.holds Try.pinned (OpenSpec.upto fnExactStepsToEmptySpec)

/-- 'laws.FnExactStepsToFull', WHERE WHAT IT READS IS OF BULK AT MOST 1048576: true; the input reads as it did. -/
def fnExactStepsToFullUptoRow : OpenClaim := { program := "ytafgcjjgnjialab", sum := "baeac019cd61140b36046effd638af85761a69e029d9e4e22d3415a63141f42d", func := "loop.example/g01227/laws.FnExactStepsToFull", spec := "fnExactStepsToFull", inPlace := ["math.Float32bits", "math.Float64bits"], unfollowed := true, recurses := true, apart := false, narrowed := true }
def FnExactStepsToFullUptoSaid : Prop := fnExactStepsToFullUptoRow.holds Try.pinned (OpenSpec.upto fnExactStepsToFullSpec)

/-- 'laws.FnExactDelayOf', WHERE WHAT IT READS IS OF BULK AT MOST 1048576: true; the input reads as it did. -/
def fnExactDelayOfUptoRow : OpenClaim := { program := "ytafgcjjgnjialab", sum := "baeac019cd61140b36046effd638af85761a69e029d9e4e22d3415a63141f42d", func := "loop.example/g01227/laws.FnExactDelayOf", spec := "fnExactDelayOf", inPlace := ["math.Float32bits", "math.Float64bits"], unfollowed := true, recurses := true, apart := false, narrowed := true }
def FnExactDelayOfUptoSaid : Prop := fnExactDelayOfUptoRow.holds Try.pinned (OpenSpec.upto fnExactDelayOfSpec)

/-- 'laws.FnExactJamsOf', WHERE WHAT IT READS IS OF BULK AT MOST 1048576: true; the input reads as it did. -/
def fnExactJamsOfUptoRow : OpenClaim := { program := "ytafgcjjgnjialab", sum := "baeac019cd61140b36046effd638af85761a69e029d9e4e22d3415a63141f42d", func := "loop.example/g01227/laws.FnExactJamsOf", spec := "fnExactJamsOf", inPlace := ["math.Float32bits", "math.Float64bits"], apart := false, narrowed := true }
def FnExactJamsOfUptoSaid : Prop := fnExactJamsOfUptoRow.holds Try.pinned (OpenSpec.upto fnExactJamsOfSpec)

/-- 'laws.FnExactStepRoads', WHERE WHAT IT READS IS OF BULK AT MOST 1048576: true; the input reads as it did. -/
def fnExactStepRoadsUptoRow : OpenClaim := { program := "ytafgcjjgnjialab", sum := "baeac019cd61140b36046effd638af85761a69e029d9e4e22d3415a63141f42d", func := "loop.example/g01227/laws.FnExactStepRoads", spec := "fnExactStepRoads", inPlace := ["math.Float32bits", "math.Float64bits"], unfollowed := true, recurses := true, apart := false, narrowed := true }
def FnExactStepRoadsUptoSaid : Prop := fnExactStepRoadsUptoRow.holds Try.pinned (OpenSpec.upto fnExactStepRoadsSpec)

/-- 'laws.FnSent', WHERE WHAT IT READS IS OF BULK AT MOST 1048576: true; the input reads as it did. -/
def fnSentUptoRow : OpenClaim := { program := "ytafgcjjgnjialab", sum := "baeac019cd61140b36046effd638af85761a69e029d9e4e22d3415a63141f42d", func := "loop.example/g01227/laws.FnSent", spec := "fnSent", inPlace := ["math.Float64bits", "math.Float32bits"], apart := false, narrowed := true }
def FnSentUptoSaid : Prop := fnSentUptoRow.holds Try.pinned (OpenSpec.upto fnSentSpec)

/-- 'laws.FnStill', WHERE WHAT IT READS IS OF BULK AT MOST 1048576: true; the input reads as it did. -/
def fnStillUptoRow : OpenClaim := { program := "ytafgcjjgnjialab", sum := "baeac019cd61140b36046effd638af85761a69e029d9e4e22d3415a63141f42d", func := "loop.example/g01227/laws.FnStill", spec := "fnStill", inPlace := ["math.Float64bits"], unfollowed := true, recurses := true, apart := false, narrowed := true }
def FnStillUptoSaid : Prop := fnStillUptoRow.holds Try.pinned (OpenSpec.upto fnStillSpec)

/-- 'laws.FnEmptied', WHERE WHAT IT READS IS OF BULK AT MOST 1048576: true; the input reads as it did. -/
def fnEmptiedUptoRow : OpenClaim := { program := "ytafgcjjgnjialab", sum := "baeac019cd61140b36046effd638af85761a69e029d9e4e22d3415a63141f42d", func := "loop.example/g01227/laws.FnEmptied", spec := "fnEmptied", inPlace := ["math.Float64bits", "math.Float32bits"], unfollowed := true, recurses := true, apart := false, narrowed := true }
def FnEmptiedUptoSaid : Prop := fnEmptiedUptoRow.holds Try.pinned (OpenSpec.upto fnEmptiedSpec)

/-- 'laws.FnRamps', WHERE WHAT IT READS IS OF BULK AT MOST 1048576: true; the input reads as it did. -/
def fnRampsUptoRow : OpenClaim := { program := "ytafgcjjgnjialab", sum := "baeac019cd61140b36046effd638af85761a69e029d9e4e22d3415a63141f42d", func := "loop.example/g01227/laws.FnRamps", spec := "fnRamps", inPlace := ["math.Float64bits", "math.Float32bits"], unfollowed := true, recurses := true, apart := false, narrowed := true }
def FnRampsUptoSaid : Prop := fnRampsUptoRow.holds Try.pinned (OpenSpec.upto fnRampsSpec)

/-- 'laws.FnExactRampStep', WHERE WHAT IT READS IS OF BULK AT MOST 1048576: true; the input reads as it did. -/
def fnExactRampStepUptoRow : OpenClaim := { program := "ytafgcjjgnjialab", sum := "baeac019cd61140b36046effd638af85761a69e029d9e4e22d3415a63141f42d", func := "loop.example/g01227/laws.FnExactRampStep", spec := "fnExactRampStep", inPlace := ["math.Float32bits", "math.Float64bits"], unfollowed := true, recurses := true, apart := false, narrowed := true }
def FnExactRampStepUptoSaid : Prop := fnExactRampStepUptoRow.holds Try.pinned (OpenSpec.upto fnExactRampStepSpec)

/-- 'laws.FnExactSmoothRoad', WHERE WHAT IT READS IS OF BULK AT MOST 1048576: true; the input reads as it did. -/
def fnExactSmoothRoadUptoRow : OpenClaim := { program := "ytafgcjjgnjialab", sum := "baeac019cd61140b36046effd638af85761a69e029d9e4e22d3415a63141f42d", func := "loop.example/g01227/laws.FnExactSmoothRoad", spec := "fnExactSmoothRoad", inPlace := ["math.Float32bits", "math.Float64bits"], apart := false, narrowed := true }
def FnExactSmoothRoadUptoSaid : Prop := fnExactSmoothRoadUptoRow.holds Try.pinned (OpenSpec.upto fnExactSmoothRoadSpec)

end Rows
end Go.Proofs.Ytafgcjjgnjialab
