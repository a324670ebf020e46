/-
  No cell of these rows narrows 'for every input' (looked for: loops, veiled, ifaces, maps, wideKeys, modest, calm, conditions, laid).
  DERIVED. THE GIVEN ROWS OF THIS SEAT. 11 by the template 'for every input the law returns true; each argument reads behind the call as it read before'; 0 by the template 'total and deterministic' (their statements: YtdoilkhndkakkabTotals.lean).
  GIVEN WITH THE SEED: the statements are not yours to turn. If you find one false, say at which input.
  Laid BY PROGRAM, IN A SANDBOX (cutbox-rows.mjs): the forced cells as the released guide's own fill.sh prints them over the translation 8ccefdddd4a34b59… (all of the seat's roots in one cut). By AI agents, Wed Nov 11 2026. No macro, syntax, notation, axiom, sorry.
-/
import Derived.Test.YtdoilkhndkakkabChecked
import GoSem.Claim
import GoSem.ClaimJoined
import GoSem.ClaimMapViews
import Derived.JoinedTies
import Derived.KernelRfl
namespace Go.Proofs.Ytdoilkhndkakkab
/- THE CELL 'sum', in the pinned program and in every row, IS THE sha256 OF THE DUMP (.gsa) THAT YtdoilkhndkakkabProg.lean LOADS. Nothing in Lean hashes anything: it is a label: what it is worth is what the hold of that sum in a sandbox is worth. -/
noncomputable def Try.pinned : Pinned := { name := "ytdoilkhndkakkab", sum := "8ccefdddd4a34b59af330d940c67cf376f5c97962081bd6e0a699f98b52b912e", checked := Try.checked }
namespace Rows
def none {H : Type} : Left H := { results := [], args := [] }

/-- 'laws.FnExactMergeTwo': WHATEVER THE INPUT: true; the input reads as it did. -/
def fnExactMergeTwoSpec : ChangeSpec := { name := "fnExactMergeTwo", fn := fun _ => fun
  | [d1, d2, d3, d4] => { results := [.lit (.bool true)], args := [d1, d2, d3, d4] }
  | _ => none }
def fnExactMergeTwoRow : OpenClaim := { program := "ytdoilkhndkakkab", sum := "8ccefdddd4a34b59af330d940c67cf376f5c97962081bd6e0a699f98b52b912e", func := "loop.example/g01227/laws.FnExactMergeTwo", spec := "fnExactMergeTwo", inPlace := ["math.Float32bits", "math.Float64bits"], unfollowed := true, recurses := true, plainKeys := false, apart := false }
def FnExactMergeTwoSaid : Prop := fnExactMergeTwoRow.holds Try.pinned (OpenSpec.ofChange fnExactMergeTwoSpec)

/-- ITS FALSE NEIGHBOUR: 'it returns false'. Refute it at one input. -/
def fnExactMergeTwoWrong : ChangeSpec := { name := "fnExactMergeTwo", fn := fun _ => fun
  | [d1, d2, d3, d4] => { results := [.lit (.bool false)], args := [d1, d2, d3, d4] }
  | _ => none }
def FnExactMergeTwoWrongFalsely : Prop := fnExactMergeTwoRow.holds Try.pinned (OpenSpec.ofChange fnExactMergeTwoWrong)

/-- 'laws.FnExactSplitOne': WHATEVER THE INPUT: true; the input reads as it did. -/
def fnExactSplitOneSpec : ChangeSpec := { name := "fnExactSplitOne", fn := fun _ => fun
  | [d1, d2, d3] => { results := [.lit (.bool true)], args := [d1, d2, d3] }
  | _ => none }
def fnExactSplitOneRow : OpenClaim := { program := "ytdoilkhndkakkab", sum := "8ccefdddd4a34b59af330d940c67cf376f5c97962081bd6e0a699f98b52b912e", func := "loop.example/g01227/laws.FnExactSplitOne", spec := "fnExactSplitOne", inPlace := ["math.Float32bits", "math.Float64bits"], plainKeys := false, apart := false }
def FnExactSplitOneSaid : Prop := fnExactSplitOneRow.holds Try.pinned (OpenSpec.ofChange fnExactSplitOneSpec)

/-- ITS FALSE NEIGHBOUR: 'it returns false'. Refute it at one input. -/
def fnExactSplitOneWrong : ChangeSpec := { name := "fnExactSplitOne", fn := fun _ => fun
  | [d1, d2, d3] => { results := [.lit (.bool false)], args := [d1, d2, d3] }
  | _ => none }
def FnExactSplitOneWrongFalsely : Prop := fnExactSplitOneRow.holds Try.pinned (OpenSpec.ofChange fnExactSplitOneWrong)

/-- 'laws.FnExactMeetRoads': WHATEVER THE INPUT: true; the input reads as it did. -/
def fnExactMeetRoadsSpec : ChangeSpec := { name := "fnExactMeetRoads", fn := fun _ => fun
  | [d1, d2, d3] => { results := [.lit (.bool true)], args := [d1, d2, d3] }
  | _ => none }
def fnExactMeetRoadsRow : OpenClaim := { program := "ytdoilkhndkakkab", sum := "8ccefdddd4a34b59af330d940c67cf376f5c97962081bd6e0a699f98b52b912e", func := "loop.example/g01227/laws.FnExactMeetRoads", spec := "fnExactMeetRoads", inPlace := ["math.Float32bits", "math.Float64bits", "math.Float64frombits"], plainKeys := false, apart := false }
def FnExactMeetRoadsSaid : Prop := fnExactMeetRoadsRow.holds Try.pinned (OpenSpec.ofChange fnExactMeetRoadsSpec)

/-- ITS FALSE NEIGHBOUR: 'it returns false'. Refute it at one input. -/
def fnExactMeetRoadsWrong : ChangeSpec := { name := "fnExactMeetRoads", fn := fun _ => fun
  | [d1, d2, d3] => { results := [.lit (.bool false)], args := [d1, d2, d3] }
  | _ => none }
def FnExactMeetRoadsWrongFalsely : Prop := fnExactMeetRoadsRow.holds Try.pinned (OpenSpec.ofChange fnExactMeetRoadsWrong)

/-- 'laws.FnExactStepList': WHATEVER THE INPUT: true; the input reads as it did. -/
def fnExactStepListSpec : ChangeSpec := { name := "fnExactStepList", fn := fun _ => fun
  | [d1, d2, d3] => { results := [.lit (.bool true)], args := [d1, d2, d3] }
  | _ => none }
def fnExactStepListRow : OpenClaim := { program := "ytdoilkhndkakkab", sum := "8ccefdddd4a34b59af330d940c67cf376f5c97962081bd6e0a699f98b52b912e", func := "loop.example/g01227/laws.FnExactStepList", spec := "fnExactStepList", inPlace := ["math.Float32bits", "math.Float64bits"], unfollowed := true, recurses := true, plainKeys := false, apart := false }
def FnExactStepListSaid : Prop := fnExactStepListRow.holds Try.pinned (OpenSpec.ofChange fnExactStepListSpec)

/-- ITS FALSE NEIGHBOUR: 'it returns false'. Refute it at one input. -/
def fnExactStepListWrong : ChangeSpec := { name := "fnExactStepList", fn := fun _ => fun
  | [d1, d2, d3] => { results := [.lit (.bool false)], args := [d1, d2, d3] }
  | _ => none }
def FnExactStepListWrongFalsely : Prop := fnExactStepListRow.holds Try.pinned (OpenSpec.ofChange fnExactStepListWrong)

/-- 'laws.FnExactStepsToEmpty': WHATEVER THE INPUT: true; the input reads as it did. -/
def fnExactStepsToEmptySpec : ChangeSpec := { name := "fnExactStepsToEmpty", fn := fun _ => fun
  | [d1, d2] => { results := [.lit (.bool true)], args := [d1, d2] }
  | _ => none }
def fnExactStepsToEmptyRow : OpenClaim := { program := "ytdoilkhndkakkab", sum := "8ccefdddd4a34b59af330d940c67cf376f5c97962081bd6e0a699f98b52b912e", func := "loop.example/g01227/laws.FnExactStepsToEmpty", spec := "fnExactStepsToEmpty", inPlace := ["math.Float32bits", "math.Float64bits"], unfollowed := true, recurses := true, plainKeys := false, apart := false }
def FnExactStepsToEmptySaid : Prop := fnExactStepsToEmptyRow.holds Try.pinned (OpenSpec.ofChange fnExactStepsToEmptySpec)

/-- ITS FALSE NEIGHBOUR: 'it returns false'. Refute it at one input. -/
def fnExactStepsToEmptyWrong : ChangeSpec := { name := "fnExactStepsToEmpty", fn := fun _ => fun
  | [d1, d2] => { results := [.lit (.bool false)], args := [d1, d2] }
  | _ => none }
def FnExactStepsToEmptyWrongFalsely : Prop := fnExactStepsToEmptyRow.holds Try.pinned (OpenSpec.ofChange fnExactStepsToEmptyWrong)

/-- 'laws.FnExactStepsToFull': WHATEVER THE INPUT: true; the input reads as it did. -/
def fnExactStepsToFullSpec : ChangeSpec := { name := "fnExactStepsToFull", fn := fun _ => fun
  | [d1, d2, d3] => { results := [.lit (.bool true)], args := [d1, d2, d3] }
  | _ => none }
def fnExactStepsToFullRow : OpenClaim := { program := "ytdoilkhndkakkab", sum := "8ccefdddd4a34b59af330d940c67cf376f5c97962081bd6e0a699f98b52b912e", func := "loop.example/g01227/laws.FnExactStepsToFull", spec := "fnExactStepsToFull", inPlace := ["math.Float32bits", "math.Float64bits"], unfollowed := true, recurses := true, plainKeys := false, apart := false }
def FnExactStepsToFullSaid : Prop := fnExactStepsToFullRow.holds Try.pinned (OpenSpec.ofChange fnExactStepsToFullSpec)

/-- ITS FALSE NEIGHBOUR: 'it returns false'. Refute it at one input. -/
def fnExactStepsToFullWrong : ChangeSpec := { name := "fnExactStepsToFull", fn := fun _ => fun
  | [d1, d2, d3] => { results := [.lit (.bool false)], args := [d1, d2, d3] }
  | _ => none }
def FnExactStepsToFullWrongFalsely : Prop := fnExactStepsToFullRow.holds Try.pinned (OpenSpec.ofChange fnExactStepsToFullWrong)

/-- 'laws.FnExactDelayOf': WHATEVER THE INPUT: true; the input reads as it did. -/
def fnExactDelayOfSpec : ChangeSpec := { name := "fnExactDelayOf", fn := fun _ => fun
  | [d1, d2, d3, d4] => { results := [.lit (.bool true)], args := [d1, d2, d3, d4] }
  | _ => none }
def fnExactDelayOfRow : OpenClaim := { program := "ytdoilkhndkakkab", sum := "8ccefdddd4a34b59af330d940c67cf376f5c97962081bd6e0a699f98b52b912e", func := "loop.example/g01227/laws.FnExactDelayOf", spec := "fnExactDelayOf", inPlace := ["math.Float32bits", "math.Float64bits"], unfollowed := true, recurses := true, plainKeys := false, apart := false }
def FnExactDelayOfSaid : Prop := fnExactDelayOfRow.holds Try.pinned (OpenSpec.ofChange fnExactDelayOfSpec)

/-- ITS FALSE NEIGHBOUR: 'it returns false'. Refute it at one input. -/
def fnExactDelayOfWrong : ChangeSpec := { name := "fnExactDelayOf", fn := fun _ => fun
  | [d1, d2, d3, d4] => { results := [.lit (.bool false)], args := [d1, d2, d3, d4] }
  | _ => none }
def FnExactDelayOfWrongFalsely : Prop := fnExactDelayOfRow.holds Try.pinned (OpenSpec.ofChange fnExactDelayOfWrong)

/-- 'laws.FnExactJamsOf': WHATEVER THE INPUT: true; the input reads as it did. -/
def fnExactJamsOfSpec : ChangeSpec := { name := "fnExactJamsOf", fn := fun _ => fun
  | [d] => { results := [.lit (.bool true)], args := [d] }
  | _ => none }
def fnExactJamsOfRow : OpenClaim := { program := "ytdoilkhndkakkab", sum := "8ccefdddd4a34b59af330d940c67cf376f5c97962081bd6e0a699f98b52b912e", func := "loop.example/g01227/laws.FnExactJamsOf", spec := "fnExactJamsOf", inPlace := ["math.Float32bits", "math.Float64bits"], plainKeys := false, apart := false }
def FnExactJamsOfSaid : Prop := fnExactJamsOfRow.holds Try.pinned (OpenSpec.ofChange fnExactJamsOfSpec)

/-- ITS FALSE NEIGHBOUR: 'it returns false'. Refute it at one input. -/
def fnExactJamsOfWrong : ChangeSpec := { name := "fnExactJamsOf", fn := fun _ => fun
  | [d] => { results := [.lit (.bool false)], args := [d] }
  | _ => none }
def FnExactJamsOfWrongFalsely : Prop := fnExactJamsOfRow.holds Try.pinned (OpenSpec.ofChange fnExactJamsOfWrong)

/-- 'laws.FnMerged': WHATEVER THE INPUT: true; the input reads as it did. -/
def fnMergedSpec : ChangeSpec := { name := "fnMerged", fn := fun _ => fun
  | [d1, d2] => { results := [.lit (.bool true)], args := [d1, d2] }
  | _ => none }
def fnMergedRow : OpenClaim := { program := "ytdoilkhndkakkab", sum := "8ccefdddd4a34b59af330d940c67cf376f5c97962081bd6e0a699f98b52b912e", func := "loop.example/g01227/laws.FnMerged", spec := "fnMerged", inPlace := ["math.Float64bits", "math.Float32bits"], unfollowed := true, recurses := true, plainKeys := false, apart := false }
def FnMergedSaid : Prop := fnMergedRow.holds Try.pinned (OpenSpec.ofChange fnMergedSpec)

/-- ITS FALSE NEIGHBOUR: 'it returns false'. Refute it at one input. -/
def fnMergedWrong : ChangeSpec := { name := "fnMerged", fn := fun _ => fun
  | [d1, d2] => { results := [.lit (.bool false)], args := [d1, d2] }
  | _ => none }
def FnMergedWrongFalsely : Prop := fnMergedRow.holds Try.pinned (OpenSpec.ofChange fnMergedWrong)

/-- 'laws.FnFilled': WHATEVER THE INPUT: true; the input reads as it did. -/
def fnFilledSpec : ChangeSpec := { name := "fnFilled", fn := fun _ => fun
  | [d1, d2] => { results := [.lit (.bool true)], args := [d1, d2] }
  | _ => none }
def fnFilledRow : OpenClaim := { program := "ytdoilkhndkakkab", sum := "8ccefdddd4a34b59af330d940c67cf376f5c97962081bd6e0a699f98b52b912e", func := "loop.example/g01227/laws.FnFilled", spec := "fnFilled", inPlace := ["math.Float64bits", "math.Float64frombits", "math.Float32bits"], plainKeys := false, apart := false }
def FnFilledSaid : Prop := fnFilledRow.holds Try.pinned (OpenSpec.ofChange fnFilledSpec)

/-- ITS FALSE NEIGHBOUR: 'it returns false'. Refute it at one input. -/
def fnFilledWrong : ChangeSpec := { name := "fnFilled", fn := fun _ => fun
  | [d1, d2] => { results := [.lit (.bool false)], args := [d1, d2] }
  | _ => none }
def FnFilledWrongFalsely : Prop := fnFilledRow.holds Try.pinned (OpenSpec.ofChange fnFilledWrong)

/-- 'laws.FnSent': WHATEVER THE INPUT: true; the input reads as it did. -/
def fnSentSpec : ChangeSpec := { name := "fnSent", fn := fun _ => fun
  | [d1, d2] => { results := [.lit (.bool true)], args := [d1, d2] }
  | _ => none }
def fnSentRow : OpenClaim := { program := "ytdoilkhndkakkab", sum := "8ccefdddd4a34b59af330d940c67cf376f5c97962081bd6e0a699f98b52b912e", func := "loop.example/g01227/laws.FnSent", spec := "fnSent", inPlace := ["math.Float64bits", "math.Float32bits"], plainKeys := false, apart := false }
def FnSentSaid : Prop := fnSentRow.holds Try.pinned (OpenSpec.ofChange fnSentSpec)

/-- ITS FALSE NEIGHBOUR: 'it returns false'. Refute it at one input. -/
def fnSentWrong : ChangeSpec := { name := "fnSent", fn := fun _ => fun
  | [d1, d2] => { results := [.lit (.bool false)], args := [d1, d2] }
  | _ => none }
def FnSentWrongFalsely : Prop := fnSentRow.holds Try.pinned (OpenSpec.ofChange fnSentWrong)

/- THE SECOND FORM. 'bulk': how many values and letters a reading holds, each counted each time it is reached (what is shared counts as often as it is met; a slice's spare places count too). A statement '..UptoSaid' is the law's where the arguments, and the package variables that the reading takes, are together of bulk at most 1048576: NARROWER than '..Said'. Prove '..Said' where nothing that the law and all that it calls make is longer than what came in: it says more and counts as full. Else prove '..UptoSaid'. A law counts once. -/
mutual
def uptoBulk {H : Type} : DataW H → Nat
  | .lit (.string bytes) => bytes.length + 1
  | .lit _ => 1
  | .nil => 1
  | .ptr d => uptoBulk d + 1
  | .slice elems spare => uptoBulkAll elems + uptoBulkAll spare + 1
  | .agg parts => uptoBulkAll parts + 1
  | .iface _ d => uptoBulk d + 1
  | .map entries => uptoBulkEntries entries + 1
  | .held _ => 1
def uptoBulkAll {H : Type} : List (DataW H) → Nat
  | [] => 0
  | d :: r => uptoBulk d + uptoBulkAll r
def uptoBulkEntries {H : Type} : List (Lit × DataW H) → Nat
  | [] => 0
  | x :: r => uptoBulkEntry x + uptoBulkEntries r
def uptoBulkEntry {H : Type} : Lit × DataW H → Nat
  | (.string bytes, d) => bytes.length + uptoBulk d + 1
  | (_, d) => uptoBulk d + 1
 end
def uptoSmall : (H : Type) → List (DataW H) → Bool := fun _ ds => decide (uptoBulkAll ds ≤ 1048576)
def OpenSpec.upto (s : _root_.Go.ChangeSpec) : _root_.Go.OpenSpec := { _root_.Go.OpenSpec.ofChange s with cond := some uptoSmall }

/-- 'laws.FnExactMergeTwo', WHERE WHAT IT READS IS OF BULK AT MOST 1048576: true; the input reads as it did. -/
def fnExactMergeTwoUptoRow : OpenClaim := { program := "ytdoilkhndkakkab", sum := "8ccefdddd4a34b59af330d940c67cf376f5c97962081bd6e0a699f98b52b912e", func := "loop.example/g01227/laws.FnExactMergeTwo", spec := "fnExactMergeTwo", inPlace := ["math.Float32bits", "math.Float64bits"], unfollowed := true, recurses := true, plainKeys := false, apart := false, narrowed := true }
def FnExactMergeTwoUptoSaid : Prop := fnExactMergeTwoUptoRow.holds Try.pinned (OpenSpec.upto fnExactMergeTwoSpec)

/-- 'laws.FnExactSplitOne', WHERE WHAT IT READS IS OF BULK AT MOST 1048576: true; the input reads as it did. -/
def fnExactSplitOneUptoRow : OpenClaim := { program := "ytdoilkhndkakkab", sum := "8ccefdddd4a34b59af330d940c67cf376f5c97962081bd6e0a699f98b52b912e", func := "loop.example/g01227/laws.FnExactSplitOne", spec := "fnExactSplitOne", inPlace := ["math.Float32bits", "math.Float64bits"], plainKeys := false, apart := false, narrowed := true }
def FnExactSplitOneUptoSaid : Prop := fnExactSplitOneUptoRow.holds Try.pinned (OpenSpec.upto fnExactSplitOneSpec)

/-- 'laws.FnExactMeetRoads', WHERE WHAT IT READS IS OF BULK AT MOST 1048576: true; the input reads as it did. -/
def fnExactMeetRoadsUptoRow : OpenClaim := { program := "ytdoilkhndkakkab", sum := "8ccefdddd4a34b59af330d940c67cf376f5c97962081bd6e0a699f98b52b912e", func := "loop.example/g01227/laws.FnExactMeetRoads", spec := "fnExactMeetRoads", inPlace := ["math.Float32bits", "math.Float64bits", "math.Float64frombits"], plainKeys := false, apart := false, narrowed := true }
def FnExactMeetRoadsUptoSaid : Prop := fnExactMeetRoadsUptoRow.holds Try.pinned (OpenSpec.upto fnExactMeetRoadsSpec)

/-- 'laws.FnExactStepList', WHERE WHAT IT READS IS OF BULK AT MOST 1048576: true; the input reads as it did. -/
def fnExactStepListUptoRow : OpenClaim := { program := "ytdoilkhndkakkab", sum := "8ccefdddd4a34b59af330d940c67cf376f5c97962081bd6e0a699f98b52b912e", func := "loop.example/g01227/laws.FnExactStepList", spec := "fnExactStepList", inPlace := ["math.Float32bits", "math.Float64bits"], unfollowed := true, recurses := true, plainKeys := false, apart := false, narrowed := true }
def FnExactStepListUptoSaid : Prop := fnExactStepListUptoRow.holds Try.pinned (OpenSpec.upto fnExactStepListSpec)

/-- 'laws.FnExactStepsToEmpty', WHERE WHAT IT READS IS OF BULK AT MOST 1048576: true; the input reads as it did. -/
def fnExactStepsToEmptyUptoRow : OpenClaim := { program := "ytdoilkhndkakkab", sum := "8ccefdddd4a34b59af330d940c67cf376f5c97962081bd6e0a699f98b52b912e", func := "loop.example/g01227/laws.FnExactStepsToEmpty", spec := "fnExactStepsToEmpty", inPlace := ["math.Float32bits", "math.Float64bits"], unfollowed := true, recurses := true, plainKeys := false, apart := false, narrowed := true }
def FnExactStepsToEmptyUptoSaid : Prop := fnExactStepsToEmptyUptoRow.holds Try.pinned (OpenSpec.upto fnExactStepsToEmptySpec)

/-- 'laws.FnExactStepsToFull', WHERE WHAT IT READS IS OF BULK AT MOST 1048576: true; the input reads as it did. -/
def fnExactStepsToFullUptoRow : OpenClaim := { program := "ytdoilkhndkakkab", sum := "8ccefdddd4a34b59af330d940c67cf376f5c97962081bd6e0a699f98b52b912e", func := "loop.example/g01227/laws.FnExactStepsToFull", spec := "fnExactStepsToFull", inPlace := ["math.Float32bits", "math.Float64bits"], unfollowed := true, recurses := true, plainKeys := false, apart := false, narrowed := true }
def FnExactStepsToFullUptoSaid : Prop := fnExactStepsToFullUptoRow.holds Try.pinned (OpenSpec.upto fnExactStepsToFullSpec)

/-- 'laws.FnExactDelayOf', WHERE WHAT IT READS IS OF BULK AT MOST 1048576: true; the input reads as it did. -/
def fnExactDelayOfUptoRow : OpenClaim := { program := "ytdoilkhndkakkab", sum := "8ccefdddd4a34b59af330d940c67cf376f5c97962081bd6e0a699f98b52b912e", func := "loop.example/g01227/laws.FnExactDelayOf", spec := "fnExactDelayOf", inPlace := ["math.Float32bits", "math.Float64bits"], unfollowed := true, recurses := true, plainKeys := false, apart := false, narrowed := true }
def FnExactDelayOfUptoSaid : Prop := fnExactDelayOfUptoRow.holds Try.pinned (OpenSpec.upto fnExactDelayOfSpec)

/-- 'laws.FnExactJamsOf', WHERE WHAT IT READS IS OF BULK AT MOST 1048576: true; the input reads as it did. -/
def fnExactJamsOfUptoRow : OpenClaim := { program := "ytdoilkhndkakkab", sum := "8ccefdddd4a34b59af330d940c67cf376f5c97962081bd6e0a699f98b52b912e", func := "loop.example/g01227/laws.FnExactJamsOf", spec := "fnExactJamsOf", inPlace := ["math.Float32bits", "math.Float64bits"], plainKeys := false, apart := false, narrowed := true }
def FnExactJamsOfUptoSaid : Prop := fnExactJamsOfUptoRow.holds Try.pinned (OpenSpec.upto fnExactJamsOfSpec)

/-- 'laws.FnMerged', WHERE WHAT IT READS IS OF BULK AT MOST 1048576: true; the input reads as it did. -/
def fnMergedUptoRow : OpenClaim := { program := "ytdoilkhndkakkab", sum := "8ccefdddd4a34b59af330d940c67cf376f5c97962081bd6e0a699f98b52b912e", func := "loop.example/g01227/laws.FnMerged", spec := "fnMerged", inPlace := ["math.Float64bits", "math.Float32bits"], unfollowed := true, recurses := true, plainKeys := false, apart := false, narrowed := true }
def FnMergedUptoSaid : Prop := fnMergedUptoRow.holds Try.pinned (OpenSpec.upto fnMergedSpec)

/-- 'laws.FnFilled', WHERE WHAT IT READS IS OF BULK AT MOST 1048576: true; the input reads as it did. -/
def fnFilledUptoRow : OpenClaim := { program := "ytdoilkhndkakkab", sum := "8ccefdddd4a34b59af330d940c67cf376f5c97962081bd6e0a699f98b52b912e", func := "loop.example/g01227/laws.FnFilled", spec := "fnFilled", inPlace := ["math.Float64bits", "math.Float64frombits", "math.Float32bits"], plainKeys := false, apart := false, narrowed := true }
def FnFilledUptoSaid : Prop := fnFilledUptoRow.holds Try.pinned (OpenSpec.upto fnFilledSpec)

/-- 'laws.FnSent', WHERE WHAT IT READS IS OF BULK AT MOST 1048576: true; the input reads as it did. -/
def fnSentUptoRow : OpenClaim := { program := "ytdoilkhndkakkab", sum := "8ccefdddd4a34b59af330d940c67cf376f5c97962081bd6e0a699f98b52b912e", func := "loop.example/g01227/laws.FnSent", spec := "fnSent", inPlace := ["math.Float64bits", "math.Float32bits"], plainKeys := false, apart := false, narrowed := true }
def FnSentUptoSaid : Prop := fnSentUptoRow.holds Try.pinned (OpenSpec.upto fnSentSpec)

end Rows
end Go.Proofs.Ytdoilkhndkakkab
