/-
  No cell of these rows narrows 'for every input' (looked for: loops, veiled, ifaces, maps, wideKeys, modest, calm, conditions, laid).
  DERIVED. THE GIVEN ROWS OF THIS SEAT. 12 by the template 'for every input the law returns true; each argument reads behind the call as it read before'; 0 by the template 'total and deterministic' (their statements: YtafgcjjgnjialaaTotals.lean).
  GIVEN WITH THE SEED: the statements are not yours to turn. If you find one false, say at which input.
  Laid BY PROGRAM, IN A SANDBOX (cutbox-rows.mjs): the forced cells as the released guide's own fill.sh prints them over the translation 7f0cddbfb011dd74… (all of the seat's roots in one cut). By AI agents, Wed Nov 11 2026. No macro, syntax, notation, axiom, sorry.
-/
import Derived.Test.YtafgcjjgnjialaaChecked
import GoSem.Claim
import GoSem.ClaimJoined
import GoSem.ClaimMapViews
import Derived.JoinedTies
import Derived.KernelRfl
namespace Go.Proofs.Ytafgcjjgnjialaa
/- THE CELL 'sum', in the pinned program and in every row, IS THE sha256 OF THE DUMP (.gsa) THAT YtafgcjjgnjialaaProg.lean LOADS. Nothing in Lean hashes anything: it is a label: what it is worth is what the hold of that sum in a sandbox is worth. -/
noncomputable def Try.pinned : Pinned := { name := "ytafgcjjgnjialaa", sum := "7f0cddbfb011dd74fb4c87d1f21caadb7b1df9a220232cb3923c3f73236c5a3e", checked := Try.checked }
namespace Rows
def none {H : Type} : Left H := { results := [], args := [] }

/-- 'laws.FnExactSetTurn': WHATEVER THE INPUT: true; the input reads as it did. -/
def fnExactSetTurnSpec : ChangeSpec := { name := "fnExactSetTurn", fn := fun _ => fun
  | [d1, d2, d3, d4] => { results := [.lit (.bool true)], args := [d1, d2, d3, d4] }
  | _ => none }
def fnExactSetTurnRow : OpenClaim := { program := "ytafgcjjgnjialaa", sum := "7f0cddbfb011dd74fb4c87d1f21caadb7b1df9a220232cb3923c3f73236c5a3e", func := "loop.example/g01227/laws.FnExactSetTurn", spec := "fnExactSetTurn", inPlace := ["math.Float32bits", "math.Float64bits"], plainKeys := false, apart := false }
def FnExactSetTurnSaid : Prop := fnExactSetTurnRow.holds Try.pinned (OpenSpec.ofChange fnExactSetTurnSpec)

/-- ITS FALSE NEIGHBOUR: 'it returns false'. Refute it at one input. -/
def fnExactSetTurnWrong : ChangeSpec := { name := "fnExactSetTurn", fn := fun _ => fun
  | [d1, d2, d3, d4] => { results := [.lit (.bool false)], args := [d1, d2, d3, d4] }
  | _ => none }
def FnExactSetTurnWrongFalsely : Prop := fnExactSetTurnRow.holds Try.pinned (OpenSpec.ofChange fnExactSetTurnWrong)

/-- 'laws.FnExactValidJunction': WHATEVER THE INPUT: true; the input reads as it did. -/
def fnExactValidJunctionSpec : ChangeSpec := { name := "fnExactValidJunction", fn := fun _ => fun
  | [d] => { results := [.lit (.bool true)], args := [d] }
  | _ => none }
def fnExactValidJunctionRow : OpenClaim := { program := "ytafgcjjgnjialaa", sum := "7f0cddbfb011dd74fb4c87d1f21caadb7b1df9a220232cb3923c3f73236c5a3e", func := "loop.example/g01227/laws.FnExactValidJunction", spec := "fnExactValidJunction", inPlace := ["math.Float32bits", "math.Float64bits"], plainKeys := false, apart := false }
def FnExactValidJunctionSaid : Prop := fnExactValidJunctionRow.holds Try.pinned (OpenSpec.ofChange fnExactValidJunctionSpec)

/-- ITS FALSE NEIGHBOUR: 'it returns false'. Refute it at one input. -/
def fnExactValidJunctionWrong : ChangeSpec := { name := "fnExactValidJunction", fn := fun _ => fun
  | [d] => { results := [.lit (.bool false)], args := [d] }
  | _ => none }
def FnExactValidJunctionWrongFalsely : Prop := fnExactValidJunctionRow.holds Try.pinned (OpenSpec.ofChange fnExactValidJunctionWrong)

/-- 'laws.FnExactEvenJunction': WHATEVER THE INPUT: true; the input reads as it did. -/
def fnExactEvenJunctionSpec : ChangeSpec := { name := "fnExactEvenJunction", fn := fun _ => fun
  | [d1, d2] => { results := [.lit (.bool true)], args := [d1, d2] }
  | _ => none }
def fnExactEvenJunctionRow : OpenClaim := { program := "ytafgcjjgnjialaa", sum := "7f0cddbfb011dd74fb4c87d1f21caadb7b1df9a220232cb3923c3f73236c5a3e", func := "loop.example/g01227/laws.FnExactEvenJunction", spec := "fnExactEvenJunction", plainKeys := false, apart := false }
def FnExactEvenJunctionSaid : Prop := fnExactEvenJunctionRow.holds Try.pinned (OpenSpec.ofChange fnExactEvenJunctionSpec)

/-- ITS FALSE NEIGHBOUR: 'it returns false'. Refute it at one input. -/
def fnExactEvenJunctionWrong : ChangeSpec := { name := "fnExactEvenJunction", fn := fun _ => fun
  | [d1, d2] => { results := [.lit (.bool false)], args := [d1, d2] }
  | _ => none }
def FnExactEvenJunctionWrongFalsely : Prop := fnExactEvenJunctionRow.holds Try.pinned (OpenSpec.ofChange fnExactEvenJunctionWrong)

/-- 'laws.FnExactSetPrior': WHATEVER THE INPUT: true; the input reads as it did. -/
def fnExactSetPriorSpec : ChangeSpec := { name := "fnExactSetPrior", fn := fun _ => fun
  | [d1, d2, d3] => { results := [.lit (.bool true)], args := [d1, d2, d3] }
  | _ => none }
def fnExactSetPriorRow : OpenClaim := { program := "ytafgcjjgnjialaa", sum := "7f0cddbfb011dd74fb4c87d1f21caadb7b1df9a220232cb3923c3f73236c5a3e", func := "loop.example/g01227/laws.FnExactSetPrior", spec := "fnExactSetPrior", inPlace := ["math.Float32bits", "math.Float64bits"], plainKeys := false, apart := false }
def FnExactSetPriorSaid : Prop := fnExactSetPriorRow.holds Try.pinned (OpenSpec.ofChange fnExactSetPriorSpec)

/-- ITS FALSE NEIGHBOUR: 'it returns false'. Refute it at one input. -/
def fnExactSetPriorWrong : ChangeSpec := { name := "fnExactSetPrior", fn := fun _ => fun
  | [d1, d2, d3] => { results := [.lit (.bool false)], args := [d1, d2, d3] }
  | _ => none }
def FnExactSetPriorWrongFalsely : Prop := fnExactSetPriorRow.holds Try.pinned (OpenSpec.ofChange fnExactSetPriorWrong)

/-- 'laws.FnExactSumOfFour': WHATEVER THE INPUT: true; the input reads as it did. -/
def fnExactSumOfFourSpec : ChangeSpec := { name := "fnExactSumOfFour", fn := fun _ => fun
  | [d] => { results := [.lit (.bool true)], args := [d] }
  | _ => none }
def fnExactSumOfFourRow : OpenClaim := { program := "ytafgcjjgnjialaa", sum := "7f0cddbfb011dd74fb4c87d1f21caadb7b1df9a220232cb3923c3f73236c5a3e", func := "loop.example/g01227/laws.FnExactSumOfFour", spec := "fnExactSumOfFour", plainKeys := false, apart := false }
def FnExactSumOfFourSaid : Prop := fnExactSumOfFourRow.holds Try.pinned (OpenSpec.ofChange fnExactSumOfFourSpec)

/-- ITS FALSE NEIGHBOUR: 'it returns false'. Refute it at one input. -/
def fnExactSumOfFourWrong : ChangeSpec := { name := "fnExactSumOfFour", fn := fun _ => fun
  | [d] => { results := [.lit (.bool false)], args := [d] }
  | _ => none }
def FnExactSumOfFourWrongFalsely : Prop := fnExactSumOfFourRow.holds Try.pinned (OpenSpec.ofChange fnExactSumOfFourWrong)

/-- 'laws.FnExactMergeTwo': WHATEVER THE INPUT: true; the input reads as it did. -/
def fnExactMergeTwoSpec : ChangeSpec := { name := "fnExactMergeTwo", fn := fun _ => fun
  | [d1, d2, d3, d4] => { results := [.lit (.bool true)], args := [d1, d2, d3, d4] }
  | _ => none }
def fnExactMergeTwoRow : OpenClaim := { program := "ytafgcjjgnjialaa", sum := "7f0cddbfb011dd74fb4c87d1f21caadb7b1df9a220232cb3923c3f73236c5a3e", func := "loop.example/g01227/laws.FnExactMergeTwo", spec := "fnExactMergeTwo", inPlace := ["math.Float32bits", "math.Float64bits"], unfollowed := true, recurses := true, plainKeys := false, apart := false }
def FnExactMergeTwoSaid : Prop := fnExactMergeTwoRow.holds Try.pinned (OpenSpec.ofChange fnExactMergeTwoSpec)

/-- ITS FALSE NEIGHBOUR: 'it returns false'. Refute it at one input. -/
def fnExactMergeTwoWrong : ChangeSpec := { name := "fnExactMergeTwo", fn := fun _ => fun
  | [d1, d2, d3, d4] => { results := [.lit (.bool false)], args := [d1, d2, d3, d4] }
  | _ => none }
def FnExactMergeTwoWrongFalsely : Prop := fnExactMergeTwoRow.holds Try.pinned (OpenSpec.ofChange fnExactMergeTwoWrong)

/-- 'laws.FnExactSplitOne': WHATEVER THE INPUT: true; the input reads as it did. -/
def fnExactSplitOneSpec : ChangeSpec := { name := "fnExactSplitOne", fn := fun _ => fun
  | [d1, d2, d3] => { results := [.lit (.bool true)], args := [d1, d2, d3] }
  | _ => none }
def fnExactSplitOneRow : OpenClaim := { program := "ytafgcjjgnjialaa", sum := "7f0cddbfb011dd74fb4c87d1f21caadb7b1df9a220232cb3923c3f73236c5a3e", func := "loop.example/g01227/laws.FnExactSplitOne", spec := "fnExactSplitOne", inPlace := ["math.Float32bits", "math.Float64bits"], plainKeys := false, apart := false }
def FnExactSplitOneSaid : Prop := fnExactSplitOneRow.holds Try.pinned (OpenSpec.ofChange fnExactSplitOneSpec)

/-- ITS FALSE NEIGHBOUR: 'it returns false'. Refute it at one input. -/
def fnExactSplitOneWrong : ChangeSpec := { name := "fnExactSplitOne", fn := fun _ => fun
  | [d1, d2, d3] => { results := [.lit (.bool false)], args := [d1, d2, d3] }
  | _ => none }
def FnExactSplitOneWrongFalsely : Prop := fnExactSplitOneRow.holds Try.pinned (OpenSpec.ofChange fnExactSplitOneWrong)

/-- 'laws.FnMerged': WHATEVER THE INPUT: true; the input reads as it did. -/
def fnMergedSpec : ChangeSpec := { name := "fnMerged", fn := fun _ => fun
  | [d1, d2] => { results := [.lit (.bool true)], args := [d1, d2] }
  | _ => none }
def fnMergedRow : OpenClaim := { program := "ytafgcjjgnjialaa", sum := "7f0cddbfb011dd74fb4c87d1f21caadb7b1df9a220232cb3923c3f73236c5a3e", func := "loop.example/g01227/laws.FnMerged", spec := "fnMerged", inPlace := ["math.Float64bits", "math.Float32bits"], unfollowed := true, recurses := true, plainKeys := false, apart := false }
def FnMergedSaid : Prop := fnMergedRow.holds Try.pinned (OpenSpec.ofChange fnMergedSpec)

/-- ITS FALSE NEIGHBOUR: 'it returns false'. Refute it at one input. -/
def fnMergedWrong : ChangeSpec := { name := "fnMerged", fn := fun _ => fun
  | [d1, d2] => { results := [.lit (.bool false)], args := [d1, d2] }
  | _ => none }
def FnMergedWrongFalsely : Prop := fnMergedRow.holds Try.pinned (OpenSpec.ofChange fnMergedWrong)

/-- 'laws.FnFilled': WHATEVER THE INPUT: true; the input reads as it did. -/
def fnFilledSpec : ChangeSpec := { name := "fnFilled", fn := fun _ => fun
  | [d1, d2] => { results := [.lit (.bool true)], args := [d1, d2] }
  | _ => none }
def fnFilledRow : OpenClaim := { program := "ytafgcjjgnjialaa", sum := "7f0cddbfb011dd74fb4c87d1f21caadb7b1df9a220232cb3923c3f73236c5a3e", func := "loop.example/g01227/laws.FnFilled", spec := "fnFilled", inPlace := ["math.Float64bits", "math.Float64frombits", "math.Float32bits"], plainKeys := false, apart := false }
def FnFilledSaid : Prop := fnFilledRow.holds Try.pinned (OpenSpec.ofChange fnFilledSpec)

/-- ITS FALSE NEIGHBOUR: 'it returns false'. Refute it at one input. -/
def fnFilledWrong : ChangeSpec := { name := "fnFilled", fn := fun _ => fun
  | [d1, d2] => { results := [.lit (.bool false)], args := [d1, d2] }
  | _ => none }
def FnFilledWrongFalsely : Prop := fnFilledRow.holds Try.pinned (OpenSpec.ofChange fnFilledWrong)

/-- 'laws.FnExactWantsOf': WHATEVER THE INPUT: true; the input reads as it did. -/
def fnExactWantsOfSpec : ChangeSpec := { name := "fnExactWantsOf", fn := fun _ => fun
  | [d1, d2] => { results := [.lit (.bool true)], args := [d1, d2] }
  | _ => none }
def fnExactWantsOfRow : OpenClaim := { program := "ytafgcjjgnjialaa", sum := "7f0cddbfb011dd74fb4c87d1f21caadb7b1df9a220232cb3923c3f73236c5a3e", func := "loop.example/g01227/laws.FnExactWantsOf", spec := "fnExactWantsOf", inPlace := ["math.Float32bits", "math.Float64bits"], plainKeys := false, apart := false }
def FnExactWantsOfSaid : Prop := fnExactWantsOfRow.holds Try.pinned (OpenSpec.ofChange fnExactWantsOfSpec)

/-- ITS FALSE NEIGHBOUR: 'it returns false'. Refute it at one input. -/
def fnExactWantsOfWrong : ChangeSpec := { name := "fnExactWantsOf", fn := fun _ => fun
  | [d1, d2] => { results := [.lit (.bool false)], args := [d1, d2] }
  | _ => none }
def FnExactWantsOfWrongFalsely : Prop := fnExactWantsOfRow.holds Try.pinned (OpenSpec.ofChange fnExactWantsOfWrong)

/-- 'laws.FnExactOutFlows': WHATEVER THE INPUT: true; the input reads as it did. -/
def fnExactOutFlowsSpec : ChangeSpec := { name := "fnExactOutFlows", fn := fun _ => fun
  | [d] => { results := [.lit (.bool true)], args := [d] }
  | _ => none }
def fnExactOutFlowsRow : OpenClaim := { program := "ytafgcjjgnjialaa", sum := "7f0cddbfb011dd74fb4c87d1f21caadb7b1df9a220232cb3923c3f73236c5a3e", func := "loop.example/g01227/laws.FnExactOutFlows", spec := "fnExactOutFlows", plainKeys := false, apart := false }
def FnExactOutFlowsSaid : Prop := fnExactOutFlowsRow.holds Try.pinned (OpenSpec.ofChange fnExactOutFlowsSpec)

/-- ITS FALSE NEIGHBOUR: 'it returns false'. Refute it at one input. -/
def fnExactOutFlowsWrong : ChangeSpec := { name := "fnExactOutFlows", fn := fun _ => fun
  | [d] => { results := [.lit (.bool false)], args := [d] }
  | _ => none }
def FnExactOutFlowsWrongFalsely : Prop := fnExactOutFlowsRow.holds Try.pinned (OpenSpec.ofChange fnExactOutFlowsWrong)

/-- 'laws.FnExactInFlows': WHATEVER THE INPUT: true; the input reads as it did. -/
def fnExactInFlowsSpec : ChangeSpec := { name := "fnExactInFlows", fn := fun _ => fun
  | [d] => { results := [.lit (.bool true)], args := [d] }
  | _ => none }
def fnExactInFlowsRow : OpenClaim := { program := "ytafgcjjgnjialaa", sum := "7f0cddbfb011dd74fb4c87d1f21caadb7b1df9a220232cb3923c3f73236c5a3e", func := "loop.example/g01227/laws.FnExactInFlows", spec := "fnExactInFlows", plainKeys := false, apart := false }
def FnExactInFlowsSaid : Prop := fnExactInFlowsRow.holds Try.pinned (OpenSpec.ofChange fnExactInFlowsSpec)

/-- ITS FALSE NEIGHBOUR: 'it returns false'. Refute it at one input. -/
def fnExactInFlowsWrong : ChangeSpec := { name := "fnExactInFlows", fn := fun _ => fun
  | [d] => { results := [.lit (.bool false)], args := [d] }
  | _ => none }
def FnExactInFlowsWrongFalsely : Prop := fnExactInFlowsRow.holds Try.pinned (OpenSpec.ofChange fnExactInFlowsWrong)

/- THE SECOND FORM. 'bulk': how many values and letters a reading holds, each counted each time it is reached (what is shared counts as often as it is met; a slice's spare places count too). A statement '..UptoSaid' is the law's where the arguments, and the package variables that the reading takes, are together of bulk at most 1048576: NARROWER than '..Said'. Prove '..Said' where nothing that the law and all that it calls make is longer than what came in: it says more and counts as full. Else prove '..UptoSaid'. A law counts once. -/
mutual
def uptoBulk {H : Type} : DataW H → Nat
  | .lit (.string bytes) => bytes.length + 1
  | .lit _ => 1
  | .nil => 1
  | .ptr d => uptoBulk d + 1
  | .slice elems spare => uptoBulkAll elems + uptoBulkAll spare + 1
  | .agg parts => uptoBulkAll parts + 1
  | .iface _ d => uptoBulk d + 1
  | .map entries => uptoBulkEntries entries + 1
  | .held _ => 1
def uptoBulkAll {H : Type} : List (DataW H) → Nat
  | [] => 0
  | d :: r => uptoBulk d + uptoBulkAll r
def uptoBulkEntries {H : Type} : List (Lit × DataW H) → Nat
  | [] => 0
  | x :: r => uptoBulkEntry x + uptoBulkEntries r
def uptoBulkEntry {H : Type} : Lit × DataW H → Nat
  | (.string bytes, d) => bytes.length + uptoBulk d + 1
  | (_, d) => uptoBulk d + 1
 end
def uptoSmall : (H : Type) → List (DataW H) → Bool := fun _ ds => decide (uptoBulkAll ds ≤ 1048576)
def OpenSpec.upto (s : _root_.Go.ChangeSpec) : _root_.Go.OpenSpec := { _root_.Go.OpenSpec.ofChange s with cond := some uptoSmall }

/-- 'laws.FnExactSetTurn', WHERE WHAT IT READS IS OF BULK AT MOST 1048576: true; the input reads as it did. -/
def fnExactSetTurnUptoRow : OpenClaim := { program := "ytafgcjjgnjialaa", sum := "7f0cddbfb011dd74fb4c87d1f21caadb7b1df9a220232cb3923c3f73236c5a3e", func := "loop.example/g01227/laws.FnExactSetTurn", spec := "fnExactSetTurn", inPlace := ["math.Float32bits", "math.Float64bits"], plainKeys := false, apart := false, narrowed := true }
def FnExactSetTurnUptoSaid : Prop := fnExactSetTurnUptoRow.holds Try.pinned (OpenSpec.upto fnExactSetTurnSpec)

/-- 'laws.FnExactValidJunction', WHERE WHAT IT READS IS OF BULK AT MOST 1048576: true; the input reads as it did. -/
def fnExactValidJunctionUptoRow : OpenClaim := { program := "ytafgcjjgnjialaa", sum := "7f0cddbfb011dd74fb4c87d1f21caadb7b1df9a220232cb3923c3f73236c5a3e", func := "loop.example/g01227/laws.FnExactValidJunction", spec := "fnExactValidJunction", inPlace := ["math.Float32bits", "math.Float64bits"], plainKeys := false, apart := false, narrowed := true }
def FnExactValidJunctionUptoSaid : Prop := fnExactValidJunctionUptoRow.holds Try.pinned (OpenSpec.upto fnExactValidJunctionSpec)

/-- 'laws.FnExactEvenJunction', WHERE WHAT IT READS IS OF BULK AT MOST 1048576: true; the input reads as it did. -/
def fnExactEvenJunctionUptoRow : OpenClaim := { program := "ytafgcjjgnjialaa", sum := "7f0cddbfb011dd74fb4c87d1f21caadb7b1df9a220232cb3923c3f73236c5a3e", func := "loop.example/g01227/laws.FnExactEvenJunction", spec := "fnExactEvenJunction", plainKeys := false, apart := false, narrowed := true }
def FnExactEvenJunctionUptoSaid : Prop := fnExactEvenJunctionUptoRow.holds Try.pinned (OpenSpec.upto fnExactEvenJunctionSpec)

/-- 'laws.FnExactSetPrior', WHERE WHAT IT READS IS OF BULK AT MOST 1048576: true; the input reads as it did. -/
def fnExactSetPriorUptoRow : OpenClaim := { program := "ytafgcjjgnjialaa", sum := "7f0cddbfb011dd74fb4c87d1f21caadb7b1df9a220232cb3923c3f73236c5a3e", func := "loop.example/g01227/laws.FnExactSetPrior", spec := "fnExactSetPrior", inPlace := ["math.Float32bits", "math.Float64bits"], plainKeys := false, apart := false, narrowed := true }
def FnExactSetPriorUptoSaid : Prop := fnExactSetPriorUptoRow.holds Try.pinned (OpenSpec.upto fnExactSetPriorSpec)

/-- 'laws.FnExactSumOfFour', WHERE WHAT IT READS IS OF BULK AT MOST 1048576: true; the input reads as it did. -/
def fnExactSumOfFourUptoRow : OpenClaim := { program := "ytafgcjjgnjialaa", sum := "7f0cddbfb011dd74fb4c87d1f21caadb7b1df9a220232cb3923c3f73236c5a3e", func := "loop.example/g01227/laws.FnExactSumOfFour", spec := "fnExactSumOfFour", plainKeys := false, apart := false, narrowed := true }
def FnExactSumOfFourUptoSaid : Prop := fnExactSumOfFourUptoRow.holds Try.pinned (OpenSpec.upto fnExactSumOfFourSpec)

/-- 'laws.FnExactMergeTwo', WHERE WHAT IT READS IS OF BULK AT MOST 1048576: true; the input reads as it did. -/
def fnExactMergeTwoUptoRow : OpenClaim := { program := "ytafgcjjgnjialaa", sum := "7f0cddbfb011dd74fb4c87d1f21caadb7b1df9a220232cb3923c3f73236c5a3e", func := "loop.example/g01227/laws.FnExactMergeTwo", spec := "fnExactMergeTwo", inPlace := ["math.Float32bits", "math.Float64bits"], unfollowed := true, recurses := true, plainKeys := false, apart := false, narrowed := true }
def FnExactMergeTwoUptoSaid : Prop := fnExactMergeTwoUptoRow.holds Try.pinned (OpenSpec.upto fnExactMergeTwoSpec)

/-- 'laws.FnExactSplitOne', WHERE WHAT IT READS IS OF BULK AT MOST 1048576: true; the input reads as it did. -/
def fnExactSplitOneUptoRow : OpenClaim := { program := "ytafgcjjgnjialaa", sum := "7f0cddbfb011dd74fb4c87d1f21caadb7b1df9a220232cb3923c3f73236c5a3e", func := "loop.example/g01227/laws.FnExactSplitOne", spec := "fnExactSplitOne", inPlace := ["math.Float32bits", "math.Float64bits"], plainKeys := false, apart := false, narrowed := true }
def FnExactSplitOneUptoSaid : Prop := fnExactSplitOneUptoRow.holds Try.pinned (OpenSpec.upto fnExactSplitOneSpec)

/-- 'laws.FnMerged', WHERE WHAT IT READS IS OF BULK AT MOST 1048576: true; the input reads as it did. -/
def fnMergedUptoRow : OpenClaim := { program := "ytafgcjjgnjialaa", sum := "7f0cddbfb011dd74fb4c87d1f21caadb7b1df9a220232cb3923c3f73236c5a3e", func := "loop.example/g01227/laws.FnMerged", spec := "fnMerged", inPlace := ["math.Float64bits", "math.Float32bits"], unfollowed := true, recurses := true, plainKeys := false, apart := false, narrowed := true }
def FnMergedUptoSaid : Prop := fnMergedUptoRow.holds Try.pinned (OpenSpec.upto fnMergedSpec)

/-- 'laws.FnFilled', WHERE WHAT IT READS IS OF BULK AT MOST 1048576: true; the input reads as it did. -/
def fnFilledUptoRow : OpenClaim := { program := "ytafgcjjgnjialaa", sum := "7f0cddbfb011dd74fb4c87d1f21caadb7b1df9a220232cb3923c3f73236c5a3e", func := "loop.example/g01227/laws.FnFilled", spec := "fnFilled", inPlace := ["math.Float64bits", "math.Float64frombits", "math.Float32bits"], plainKeys := false, apart := false, narrowed := true }
def FnFilledUptoSaid : Prop := fnFilledUptoRow.holds Try.pinned (OpenSpec.upto fnFilledSpec)

/-- 'laws.FnExactWantsOf', WHERE WHAT IT READS IS OF BULK AT MOST 1048576: true; the input reads as it did. -/
def fnExactWantsOfUptoRow : OpenClaim := { program := "ytafgcjjgnjialaa", sum := "7f0cddbfb011dd74fb4c87d1f21caadb7b1df9a220232cb3923c3f73236c5a3e", func := "loop.example/g01227/laws.FnExactWantsOf", spec := "fnExactWantsOf", inPlace := ["math.Float32bits", "math.Float64bits"], plainKeys := false, apart := false, narrowed := true }
def FnExactWantsOfUptoSaid : Prop := fnExactWantsOfUptoRow.holds Try.pinned (OpenSpec.upto fnExactWantsOfSpec)

/-- 'laws.FnExactOutFlows', WHERE WHAT IT READS IS OF BULK AT MOST 1048576: true; the input reads as it did. -/
def fnExactOutFlowsUptoRow : OpenClaim := { program := "ytafgcjjgnjialaa", sum := "7f0cddbfb011dd74fb4c87d1f21caadb7b1df9a220232cb3923c3f73236c5a3e", func := "loop.example/g01227/laws.FnExactOutFlows", spec := "fnExactOutFlows", plainKeys := false, apart := false, narrowed := true }
def FnExactOutFlowsUptoSaid : Prop := fnExactOutFlowsUptoRow.holds Try.pinned (OpenSpec.upto fnExactOutFlowsSpec)

/-- 'laws.FnExactInFlows', WHERE WHAT IT READS IS OF BULK AT MOST 1048576: true; the input reads as it did. -/
def fnExactInFlowsUptoRow : OpenClaim := { program := "ytafgcjjgnjialaa", sum := "7f0cddbfb011dd74fb4c87d1f21caadb7b1df9a220232cb3923c3f73236c5a3e", func := "loop.example/g01227/laws.FnExactInFlows", spec := "fnExactInFlows", plainKeys := false, apart := false, narrowed := true }
def FnExactInFlowsUptoSaid : Prop := fnExactInFlowsUptoRow.holds Try.pinned (OpenSpec.upto fnExactInFlowsSpec)

end Rows
end Go.Proofs.Ytafgcjjgnjialaa
