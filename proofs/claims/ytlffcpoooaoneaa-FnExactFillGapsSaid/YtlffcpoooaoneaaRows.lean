/-
  No cell of these rows narrows 'for every input' (looked for: loops, veiled, ifaces, maps, wideKeys, modest, calm, conditions, laid).
  DERIVED. THE GIVEN ROWS OF THIS SEAT. 12 by the template 'for every input the law returns true; each argument reads behind the call as it read before'; 0 by the template 'total and deterministic' (their statements: YtlffcpoooaoneaaTotals.lean).
  GIVEN WITH THE SEED: the statements are not yours to turn. If you find one false, say at which input.
  Laid BY PROGRAM, IN A SANDBOX (cutbox-rows.mjs): the forced cells as the released guide's own fill.sh prints them over the translation 0dab89282cb7429f… (all of the seat's roots in one cut). By AI agents, Wed Nov 11 2026. No macro, syntax, notation, axiom, sorry.
-/
import Derived.Test.YtlffcpoooaoneaaChecked
import GoSem.Claim
import GoSem.ClaimJoined
import GoSem.ClaimMapViews
import Derived.JoinedTies
import Derived.KernelRfl
namespace Go.Proofs.Ytlffcpoooaoneaa
/- THE CELL 'sum', in the pinned program and in every row, IS THE sha256 OF THE DUMP (.gsa) THAT YtlffcpoooaoneaaProg.lean LOADS. Nothing in Lean hashes anything: it is a label: what it is worth is what the hold of that sum in a sandbox is worth. -/
noncomputable def Try.pinned : Pinned := { name := "ytlffcpoooaoneaa", sum := "0dab89282cb7429f365cfdcae426c76298653521cedb434d1a97c02ea455a1e0", checked := Try.checked }
namespace Rows
def none {H : Type} : Left H := { results := [], args := [] }

/-- 'laws.FnExactJoinTallies': WHATEVER THE INPUT: true; the input reads as it did. -/
def fnExactJoinTalliesSpec : ChangeSpec := { name := "fnExactJoinTallies", fn := fun _ => fun
  | [d1, d2] => { results := [.lit (.bool true)], args := [d1, d2] }
  | _ => none }
def fnExactJoinTalliesRow : OpenClaim := { program := "ytlffcpoooaoneaa", sum := "0dab89282cb7429f365cfdcae426c76298653521cedb434d1a97c02ea455a1e0", func := "loop.example/g01227/laws.FnExactJoinTallies", spec := "fnExactJoinTallies", unfollowed := true, recurses := true, plainKeys := false, leaving := true, apart := false }
def FnExactJoinTalliesSaid : Prop := fnExactJoinTalliesRow.holds Try.pinned (OpenSpec.ofChange fnExactJoinTalliesSpec)

/-- ITS FALSE NEIGHBOUR: 'it returns false'. Refute it at one input. -/
def fnExactJoinTalliesWrong : ChangeSpec := { name := "fnExactJoinTallies", fn := fun _ => fun
  | [d1, d2] => { results := [.lit (.bool false)], args := [d1, d2] }
  | _ => none }
def FnExactJoinTalliesWrongFalsely : Prop := fnExactJoinTalliesRow.holds Try.pinned (OpenSpec.ofChange fnExactJoinTalliesWrong)

/-- 'laws.FnExactFillGaps': WHATEVER THE INPUT: true; the input reads as it did. -/
def fnExactFillGapsSpec : ChangeSpec := { name := "fnExactFillGaps", fn := fun _ => fun
  | [d] => { results := [.lit (.bool true)], args := [d] }
  | _ => none }
def fnExactFillGapsRow : OpenClaim := { program := "ytlffcpoooaoneaa", sum := "0dab89282cb7429f365cfdcae426c76298653521cedb434d1a97c02ea455a1e0", func := "loop.example/g01227/laws.FnExactFillGaps", spec := "fnExactFillGaps", inPlace := ["math.RoundToEven"], unfollowed := true, recurses := true, plainKeys := false, leaving := true, apart := false }
def FnExactFillGapsSaid : Prop := fnExactFillGapsRow.holds Try.pinned (OpenSpec.ofChange fnExactFillGapsSpec)

/-- ITS FALSE NEIGHBOUR: 'it returns false'. Refute it at one input. -/
def fnExactFillGapsWrong : ChangeSpec := { name := "fnExactFillGaps", fn := fun _ => fun
  | [d] => { results := [.lit (.bool false)], args := [d] }
  | _ => none }
def FnExactFillGapsWrongFalsely : Prop := fnExactFillGapsRow.holds Try.pinned (OpenSpec.ofChange fnExactFillGapsWrong)

/-- 'laws.FnExactWatchRoad': WHATEVER THE INPUT: true; the input reads as it did. -/
def fnExactWatchRoadSpec : ChangeSpec := { name := "fnExactWatchRoad", fn := fun _ => fun
  | [d1, d2] => { results := [.lit (.bool true)], args := [d1, d2] }
  | _ => none }
def fnExactWatchRoadRow : OpenClaim := { program := "ytlffcpoooaoneaa", sum := "0dab89282cb7429f365cfdcae426c76298653521cedb434d1a97c02ea455a1e0", func := "loop.example/g01227/laws.FnExactWatchRoad", spec := "fnExactWatchRoad", inPlace := ["math.Float32bits", "math.archFloor", "math.Float64bits", "math.Float64frombits", "math.archTrunc", "math.RoundToEven"], unfollowed := true, recurses := true, plainKeys := false, leaving := true, apart := false }
def FnExactWatchRoadSaid : Prop := fnExactWatchRoadRow.holds Try.pinned (OpenSpec.ofChange fnExactWatchRoadSpec)

/-- ITS FALSE NEIGHBOUR: 'it returns false'. Refute it at one input. -/
def fnExactWatchRoadWrong : ChangeSpec := { name := "fnExactWatchRoad", fn := fun _ => fun
  | [d1, d2] => { results := [.lit (.bool false)], args := [d1, d2] }
  | _ => none }
def FnExactWatchRoadWrongFalsely : Prop := fnExactWatchRoadRow.holds Try.pinned (OpenSpec.ofChange fnExactWatchRoadWrong)

/-- 'laws.FnExactMiddleCount': WHATEVER THE INPUT: true; the input reads as it did. -/
def fnExactMiddleCountSpec : ChangeSpec := { name := "fnExactMiddleCount", fn := fun _ => fun
  | [d] => { results := [.lit (.bool true)], args := [d] }
  | _ => none }
def fnExactMiddleCountRow : OpenClaim := { program := "ytlffcpoooaoneaa", sum := "0dab89282cb7429f365cfdcae426c76298653521cedb434d1a97c02ea455a1e0", func := "loop.example/g01227/laws.FnExactMiddleCount", spec := "fnExactMiddleCount", recurses := true, plainKeys := false, apart := false }
def FnExactMiddleCountSaid : Prop := fnExactMiddleCountRow.holds Try.pinned (OpenSpec.ofChange fnExactMiddleCountSpec)

/-- ITS FALSE NEIGHBOUR: 'it returns false'. Refute it at one input. -/
def fnExactMiddleCountWrong : ChangeSpec := { name := "fnExactMiddleCount", fn := fun _ => fun
  | [d] => { results := [.lit (.bool false)], args := [d] }
  | _ => none }
def FnExactMiddleCountWrongFalsely : Prop := fnExactMiddleCountRow.holds Try.pinned (OpenSpec.ofChange fnExactMiddleCountWrong)

/-- 'laws.FnExactShiftPlan': WHATEVER THE INPUT: true; the input reads as it did. -/
def fnExactShiftPlanSpec : ChangeSpec := { name := "fnExactShiftPlan", fn := fun _ => fun
  | [d1, d2] => { results := [.lit (.bool true)], args := [d1, d2] }
  | _ => none }
def fnExactShiftPlanRow : OpenClaim := { program := "ytlffcpoooaoneaa", sum := "0dab89282cb7429f365cfdcae426c76298653521cedb434d1a97c02ea455a1e0", func := "loop.example/g01227/laws.FnExactShiftPlan", spec := "fnExactShiftPlan", unfollowed := true, recurses := true, plainKeys := false, leaving := true, apart := false }
def FnExactShiftPlanSaid : Prop := fnExactShiftPlanRow.holds Try.pinned (OpenSpec.ofChange fnExactShiftPlanSpec)

/-- ITS FALSE NEIGHBOUR: 'it returns false'. Refute it at one input. -/
def fnExactShiftPlanWrong : ChangeSpec := { name := "fnExactShiftPlan", fn := fun _ => fun
  | [d1, d2] => { results := [.lit (.bool false)], args := [d1, d2] }
  | _ => none }
def FnExactShiftPlanWrongFalsely : Prop := fnExactShiftPlanRow.holds Try.pinned (OpenSpec.ofChange fnExactShiftPlanWrong)

/-- 'laws.FnExactWaveOf': WHATEVER THE INPUT: true; the input reads as it did. -/
def fnExactWaveOfSpec : ChangeSpec := { name := "fnExactWaveOf", fn := fun _ => fun
  | [d1, d2, d3] => { results := [.lit (.bool true)], args := [d1, d2, d3] }
  | _ => none }
def fnExactWaveOfRow : OpenClaim := { program := "ytlffcpoooaoneaa", sum := "0dab89282cb7429f365cfdcae426c76298653521cedb434d1a97c02ea455a1e0", func := "loop.example/g01227/laws.FnExactWaveOf", spec := "fnExactWaveOf", unfollowed := true, recurses := true, plainKeys := false, leaving := true, apart := false }
def FnExactWaveOfSaid : Prop := fnExactWaveOfRow.holds Try.pinned (OpenSpec.ofChange fnExactWaveOfSpec)

/-- ITS FALSE NEIGHBOUR: 'it returns false'. Refute it at one input. -/
def fnExactWaveOfWrong : ChangeSpec := { name := "fnExactWaveOf", fn := fun _ => fun
  | [d1, d2, d3] => { results := [.lit (.bool false)], args := [d1, d2, d3] }
  | _ => none }
def FnExactWaveOfWrongFalsely : Prop := fnExactWaveOfRow.holds Try.pinned (OpenSpec.ofChange fnExactWaveOfWrong)

/-- 'laws.FnExactWaveWidth': WHATEVER THE INPUT: true; the input reads as it did. -/
def fnExactWaveWidthSpec : ChangeSpec := { name := "fnExactWaveWidth", fn := fun _ => fun
  | [d1, d2, d3] => { results := [.lit (.bool true)], args := [d1, d2, d3] }
  | _ => none }
def fnExactWaveWidthRow : OpenClaim := { program := "ytlffcpoooaoneaa", sum := "0dab89282cb7429f365cfdcae426c76298653521cedb434d1a97c02ea455a1e0", func := "loop.example/g01227/laws.FnExactWaveWidth", spec := "fnExactWaveWidth", unfollowed := true, recurses := true, plainKeys := false, leaving := true, apart := false }
def FnExactWaveWidthSaid : Prop := fnExactWaveWidthRow.holds Try.pinned (OpenSpec.ofChange fnExactWaveWidthSpec)

/-- ITS FALSE NEIGHBOUR: 'it returns false'. Refute it at one input. -/
def fnExactWaveWidthWrong : ChangeSpec := { name := "fnExactWaveWidth", fn := fun _ => fun
  | [d1, d2, d3] => { results := [.lit (.bool false)], args := [d1, d2, d3] }
  | _ => none }
def FnExactWaveWidthWrongFalsely : Prop := fnExactWaveWidthRow.holds Try.pinned (OpenSpec.ofChange fnExactWaveWidthWrong)

/-- 'laws.FnExactShareGreen': WHATEVER THE INPUT: true; the input reads as it did. -/
def fnExactShareGreenSpec : ChangeSpec := { name := "fnExactShareGreen", fn := fun _ => fun
  | [d1, d2, d3, d4] => { results := [.lit (.bool true)], args := [d1, d2, d3, d4] }
  | _ => none }
def fnExactShareGreenRow : OpenClaim := { program := "ytlffcpoooaoneaa", sum := "0dab89282cb7429f365cfdcae426c76298653521cedb434d1a97c02ea455a1e0", func := "loop.example/g01227/laws.FnExactShareGreen", spec := "fnExactShareGreen", inPlace := ["math.Float32bits", "math.Float64bits"], unfollowed := true, recurses := true, plainKeys := false, leaving := true, apart := false }
def FnExactShareGreenSaid : Prop := fnExactShareGreenRow.holds Try.pinned (OpenSpec.ofChange fnExactShareGreenSpec)

/-- ITS FALSE NEIGHBOUR: 'it returns false'. Refute it at one input. -/
def fnExactShareGreenWrong : ChangeSpec := { name := "fnExactShareGreen", fn := fun _ => fun
  | [d1, d2, d3, d4] => { results := [.lit (.bool false)], args := [d1, d2, d3, d4] }
  | _ => none }
def FnExactShareGreenWrongFalsely : Prop := fnExactShareGreenRow.holds Try.pinned (OpenSpec.ofChange fnExactShareGreenWrong)

/-- 'laws.FnExactPacketOf': WHATEVER THE INPUT: true; the input reads as it did. -/
def fnExactPacketOfSpec : ChangeSpec := { name := "fnExactPacketOf", fn := fun _ => fun
  | [d] => { results := [.lit (.bool true)], args := [d] }
  | _ => none }
def fnExactPacketOfRow : OpenClaim := { program := "ytlffcpoooaoneaa", sum := "0dab89282cb7429f365cfdcae426c76298653521cedb434d1a97c02ea455a1e0", func := "loop.example/g01227/laws.FnExactPacketOf", spec := "fnExactPacketOf", unfollowed := true, recurses := true, plainKeys := false, leaving := true, apart := false }
def FnExactPacketOfSaid : Prop := fnExactPacketOfRow.holds Try.pinned (OpenSpec.ofChange fnExactPacketOfSpec)

/-- ITS FALSE NEIGHBOUR: 'it returns false'. Refute it at one input. -/
def fnExactPacketOfWrong : ChangeSpec := { name := "fnExactPacketOf", fn := fun _ => fun
  | [d] => { results := [.lit (.bool false)], args := [d] }
  | _ => none }
def FnExactPacketOfWrongFalsely : Prop := fnExactPacketOfRow.holds Try.pinned (OpenSpec.ofChange fnExactPacketOfWrong)

/-- 'laws.FnExactSoundPlan': WHATEVER THE INPUT: true; the input reads as it did. -/
def fnExactSoundPlanSpec : ChangeSpec := { name := "fnExactSoundPlan", fn := fun _ => fun
  | [d1, d2] => { results := [.lit (.bool true)], args := [d1, d2] }
  | _ => none }
def fnExactSoundPlanRow : OpenClaim := { program := "ytlffcpoooaoneaa", sum := "0dab89282cb7429f365cfdcae426c76298653521cedb434d1a97c02ea455a1e0", func := "loop.example/g01227/laws.FnExactSoundPlan", spec := "fnExactSoundPlan", unfollowed := true, recurses := true, plainKeys := false, leaving := true, apart := false }
def FnExactSoundPlanSaid : Prop := fnExactSoundPlanRow.holds Try.pinned (OpenSpec.ofChange fnExactSoundPlanSpec)

/-- ITS FALSE NEIGHBOUR: 'it returns false'. Refute it at one input. -/
def fnExactSoundPlanWrong : ChangeSpec := { name := "fnExactSoundPlan", fn := fun _ => fun
  | [d1, d2] => { results := [.lit (.bool false)], args := [d1, d2] }
  | _ => none }
def FnExactSoundPlanWrongFalsely : Prop := fnExactSoundPlanRow.holds Try.pinned (OpenSpec.ofChange fnExactSoundPlanWrong)

/-- 'laws.FnExactGreatestPhases': WHATEVER THE INPUT: true; the input reads as it did. -/
def fnExactGreatestPhasesSpec : ChangeSpec := { name := "fnExactGreatestPhases", fn := fun _ => fun
  | [d] => { results := [.lit (.bool true)], args := [d] }
  | _ => none }
def fnExactGreatestPhasesRow : OpenClaim := { program := "ytlffcpoooaoneaa", sum := "0dab89282cb7429f365cfdcae426c76298653521cedb434d1a97c02ea455a1e0", func := "loop.example/g01227/laws.FnExactGreatestPhases", spec := "fnExactGreatestPhases", unfollowed := true, recurses := true, plainKeys := false, leaving := true, apart := false }
def FnExactGreatestPhasesSaid : Prop := fnExactGreatestPhasesRow.holds Try.pinned (OpenSpec.ofChange fnExactGreatestPhasesSpec)

/-- ITS FALSE NEIGHBOUR: 'it returns false'. Refute it at one input. -/
def fnExactGreatestPhasesWrong : ChangeSpec := { name := "fnExactGreatestPhases", fn := fun _ => fun
  | [d] => { results := [.lit (.bool false)], args := [d] }
  | _ => none }
def FnExactGreatestPhasesWrongFalsely : Prop := fnExactGreatestPhasesRow.holds Try.pinned (OpenSpec.ofChange fnExactGreatestPhasesWrong)

/-- 'laws.FnExactFewestPhases': WHATEVER THE INPUT: true; the input reads as it did. -/
def fnExactFewestPhasesSpec : ChangeSpec := { name := "fnExactFewestPhases", fn := fun _ => fun
  | [d1, d2] => { results := [.lit (.bool true)], args := [d1, d2] }
  | _ => none }
def fnExactFewestPhasesRow : OpenClaim := { program := "ytlffcpoooaoneaa", sum := "0dab89282cb7429f365cfdcae426c76298653521cedb434d1a97c02ea455a1e0", func := "loop.example/g01227/laws.FnExactFewestPhases", spec := "fnExactFewestPhases", unfollowed := true, recurses := true, plainKeys := false, leaving := true, apart := false }
def FnExactFewestPhasesSaid : Prop := fnExactFewestPhasesRow.holds Try.pinned (OpenSpec.ofChange fnExactFewestPhasesSpec)

/-- ITS FALSE NEIGHBOUR: 'it returns false'. Refute it at one input. -/
def fnExactFewestPhasesWrong : ChangeSpec := { name := "fnExactFewestPhases", fn := fun _ => fun
  | [d1, d2] => { results := [.lit (.bool false)], args := [d1, d2] }
  | _ => none }
def FnExactFewestPhasesWrongFalsely : Prop := fnExactFewestPhasesRow.holds Try.pinned (OpenSpec.ofChange fnExactFewestPhasesWrong)

/- THE SECOND FORM. 'bulk': how many values and letters a reading holds, each counted each time it is reached (what is shared counts as often as it is met; a slice's spare places count too). A statement '..UptoSaid' is the law's where the arguments, and the package variables that the reading takes, are together of bulk at most 1048576: NARROWER than '..Said'. Prove '..Said' where nothing that the law and all that it calls make is longer than what came in: it says more and counts as full. Else prove '..UptoSaid'. A law counts once. -/
mutual
def uptoBulk {H : Type} : DataW H → Nat
  | .lit (.string bytes) => bytes.length + 1
  | .lit _ => 1
  | .nil => 1
  | .ptr d => uptoBulk d + 1
  | .slice elems spare => uptoBulkAll elems + uptoBulkAll spare + 1
  | .agg parts => uptoBulkAll parts + 1
  | .iface _ d => uptoBulk d + 1
  | .map entries => uptoBulkEntries entries + 1
  | .held _ => 1
def uptoBulkAll {H : Type} : List (DataW H) → Nat
  | [] => 0
  | d :: r => uptoBulk d + uptoBulkAll r
def uptoBulkEntries {H : Type} : List (Lit × DataW H) → Nat
  | [] => 0
  | x :: r => uptoBulkEntry x + uptoBulkEntries r
def uptoBulkEntry {H : Type} : Lit × DataW H → Nat
  | (.string bytes, d) => bytes.length + uptoBulk d + 1
  | (_, d) => uptoBulk d + 1
 end
def uptoSmall : (H : Type) → List (DataW H) → Bool := fun _ ds => decide (uptoBulkAll ds ≤ 1048576)
def OpenSpec.upto (s : _root_.Go.ChangeSpec) : _root_.Go.OpenSpec := { _root_.Go.OpenSpec.ofChange s with cond := some uptoSmall }

/-- 'laws.FnExactJoinTallies', WHERE WHAT IT READS IS OF BULK AT MOST 1048576: true; the input reads as it did. -/
def fnExactJoinTalliesUptoRow : OpenClaim := { program := "ytlffcpoooaoneaa", sum := "0dab89282cb7429f365cfdcae426c76298653521cedb434d1a97c02ea455a1e0", func := "loop.example/g01227/laws.FnExactJoinTallies", spec := "fnExactJoinTallies", unfollowed := true, recurses := true, plainKeys := false, leaving := true, apart := false, narrowed := true }
def FnExactJoinTalliesUptoSaid : Prop := fnExactJoinTalliesUptoRow.holds Try.pinned (OpenSpec.upto fnExactJoinTalliesSpec)

/-- 'laws.FnExactFillGaps', WHERE WHAT IT READS IS OF BULK AT MOST 1048576: true; the input reads as it did. -/
def fnExactFillGapsUptoRow : OpenClaim := { program := "ytlffcpoooaoneaa", sum := "0dab89282cb7429f365cfdcae426c76298653521cedb434d1a97c02ea455a1e0", func := "loop.example/g01227/laws.FnExactFillGaps", spec := "fnExactFillGaps", inPlace := ["math.RoundToEven"], unfollowed := true, recurses := true, plainKeys := false, leaving := true, apart := false, narrowed := true }
def FnExactFillGapsUptoSaid : Prop := fnExactFillGapsUptoRow.holds Try.pinned (OpenSpec.upto fnExactFillGapsSpec)

/-- 'laws.FnExactWatchRoad', WHERE WHAT IT READS IS OF BULK AT MOST 1048576: true; the input reads as it did. -/
def fnExactWatchRoadUptoRow : OpenClaim := { program := "ytlffcpoooaoneaa", sum := "0dab89282cb7429f365cfdcae426c76298653521cedb434d1a97c02ea455a1e0", func := "loop.example/g01227/laws.FnExactWatchRoad", spec := "fnExactWatchRoad", inPlace := ["math.Float32bits", "math.archFloor", "math.Float64bits", "math.Float64frombits", "math.archTrunc", "math.RoundToEven"], unfollowed := true, recurses := true, plainKeys := false, leaving := true, apart := false, narrowed := true }
def FnExactWatchRoadUptoSaid : Prop := fnExactWatchRoadUptoRow.holds Try.pinned (OpenSpec.upto fnExactWatchRoadSpec)

/-- 'laws.FnExactMiddleCount', WHERE WHAT IT READS IS OF BULK AT MOST 1048576: true; the input reads as it did. -/
def fnExactMiddleCountUptoRow : OpenClaim := { program := "ytlffcpoooaoneaa", sum := "0dab89282cb7429f365cfdcae426c76298653521cedb434d1a97c02ea455a1e0", func := "loop.example/g01227/laws.FnExactMiddleCount", spec := "fnExactMiddleCount", recurses := true, plainKeys := false, apart := false, narrowed := true }
def FnExactMiddleCountUptoSaid : Prop := fnExactMiddleCountUptoRow.holds Try.pinned (OpenSpec.upto fnExactMiddleCountSpec)

/-- 'laws.FnExactShiftPlan', WHERE WHAT IT READS IS OF BULK AT MOST 1048576: true; the input reads as it did. -/
def fnExactShiftPlanUptoRow : OpenClaim := { program := "ytlffcpoooaoneaa", sum := "0dab89282cb7429f365cfdcae426c76298653521cedb434d1a97c02ea455a1e0", func := "loop.example/g01227/laws.FnExactShiftPlan", spec := "fnExactShiftPlan", unfollowed := true, recurses := true, plainKeys := false, leaving := true, apart := false, narrowed := true }
def FnExactShiftPlanUptoSaid : Prop := fnExactShiftPlanUptoRow.holds Try.pinned (OpenSpec.upto fnExactShiftPlanSpec)

/-- 'laws.FnExactWaveOf', WHERE WHAT IT READS IS OF BULK AT MOST 1048576: true; the input reads as it did. -/
def fnExactWaveOfUptoRow : OpenClaim := { program := "ytlffcpoooaoneaa", sum := "0dab89282cb7429f365cfdcae426c76298653521cedb434d1a97c02ea455a1e0", func := "loop.example/g01227/laws.FnExactWaveOf", spec := "fnExactWaveOf", unfollowed := true, recurses := true, plainKeys := false, leaving := true, apart := false, narrowed := true }
def FnExactWaveOfUptoSaid : Prop := fnExactWaveOfUptoRow.holds Try.pinned (OpenSpec.upto fnExactWaveOfSpec)

/-- 'laws.FnExactWaveWidth', WHERE WHAT IT READS IS OF BULK AT MOST 1048576: true; the input reads as it did. -/
def fnExactWaveWidthUptoRow : OpenClaim := { program := "ytlffcpoooaoneaa", sum := "0dab89282cb7429f365cfdcae426c76298653521cedb434d1a97c02ea455a1e0", func := "loop.example/g01227/laws.FnExactWaveWidth", spec := "fnExactWaveWidth", unfollowed := true, recurses := true, plainKeys := false, leaving := true, apart := false, narrowed := true }
def FnExactWaveWidthUptoSaid : Prop := fnExactWaveWidthUptoRow.holds Try.pinned (OpenSpec.upto fnExactWaveWidthSpec)

/-- 'laws.FnExactShareGreen', WHERE WHAT IT READS IS OF BULK AT MOST 1048576: true; the input reads as it did. -/
def fnExactShareGreenUptoRow : OpenClaim := { program := "ytlffcpoooaoneaa", sum := "0dab89282cb7429f365cfdcae426c76298653521cedb434d1a97c02ea455a1e0", func := "loop.example/g01227/laws.FnExactShareGreen", spec := "fnExactShareGreen", inPlace := ["math.Float32bits", "math.Float64bits"], unfollowed := true, recurses := true, plainKeys := false, leaving := true, apart := false, narrowed := true }
def FnExactShareGreenUptoSaid : Prop := fnExactShareGreenUptoRow.holds Try.pinned (OpenSpec.upto fnExactShareGreenSpec)

/-- 'laws.FnExactPacketOf', WHERE WHAT IT READS IS OF BULK AT MOST 1048576: true; the input reads as it did. -/
def fnExactPacketOfUptoRow : OpenClaim := { program := "ytlffcpoooaoneaa", sum := "0dab89282cb7429f365cfdcae426c76298653521cedb434d1a97c02ea455a1e0", func := "loop.example/g01227/laws.FnExactPacketOf", spec := "fnExactPacketOf", unfollowed := true, recurses := true, plainKeys := false, leaving := true, apart := false, narrowed := true }
def FnExactPacketOfUptoSaid : Prop := fnExactPacketOfUptoRow.holds Try.pinned (OpenSpec.upto fnExactPacketOfSpec)

/-- 'laws.FnExactSoundPlan', WHERE WHAT IT READS IS OF BULK AT MOST 1048576: true; the input reads as it did. -/
def fnExactSoundPlanUptoRow : OpenClaim := { program := "ytlffcpoooaoneaa", sum := "0dab89282cb7429f365cfdcae426c76298653521cedb434d1a97c02ea455a1e0", func := "loop.example/g01227/laws.FnExactSoundPlan", spec := "fnExactSoundPlan", unfollowed := true, recurses := true, plainKeys := false, leaving := true, apart := false, narrowed := true }
def FnExactSoundPlanUptoSaid : Prop := fnExactSoundPlanUptoRow.holds Try.pinned (OpenSpec.upto fnExactSoundPlanSpec)

/-- 'laws.FnExactGreatestPhases', WHERE WHAT IT READS IS OF BULK AT MOST 1048576: true; the input reads as it did. -/
def fnExactGreatestPhasesUptoRow : OpenClaim := { program := "ytlffcpoooaoneaa", sum := "0dab89282cb7429f365cfdcae426c76298653521cedb434d1a97c02ea455a1e0", func := "loop.example/g01227/laws.FnExactGreatestPhases", spec := "fnExactGreatestPhases", unfollowed := true, recurses := true, plainKeys := false, leaving := true, apart := false, narrowed := true }
def FnExactGreatestPhasesUptoSaid : Prop := fnExactGreatestPhasesUptoRow.holds Try.pinned (OpenSpec.upto fnExactGreatestPhasesSpec)

/-- 'laws.FnExactFewestPhases', WHERE WHAT IT READS IS OF BULK AT MOST 1048576: true; the input reads as it did. -/
def fnExactFewestPhasesUptoRow : OpenClaim := { program := "ytlffcpoooaoneaa", sum := "0dab89282cb7429f365cfdcae426c76298653521cedb434d1a97c02ea455a1e0", func := "loop.example/g01227/laws.FnExactFewestPhases", spec := "fnExactFewestPhases", unfollowed := true, recurses := true, plainKeys := false, leaving := true, apart := false, narrowed := true }
def FnExactFewestPhasesUptoSaid : Prop := fnExactFewestPhasesUptoRow.holds Try.pinned (OpenSpec.upto fnExactFewestPhasesSpec)

end Rows
end Go.Proofs.Ytlffcpoooaoneaa
