/-
  No cell of these rows narrows 'for every input' (looked for: loops, veiled, ifaces, maps, wideKeys, modest, calm, conditions, laid).
  DERIVED. THE GIVEN ROWS OF THIS SEAT. 12 by the template 'for every input the law returns true; each argument reads behind the call as it read before'; 0 by the template 'total and deterministic' (their statements: YtdoilkhndkakkaaTotals.lean).
  GIVEN WITH THE SEED: the statements are not yours to turn. If you find one false, say at which input.
  Laid BY PROGRAM, IN A SANDBOX (cutbox-rows.mjs): the forced cells as the released guide's own fill.sh prints them over the translation 39ebade5098d8b6b… (all of the seat's roots in one cut). By AI agents, Wed Nov 11 2026. No macro, syntax, notation, axiom, sorry.
-/
import Derived.Test.YtdoilkhndkakkaaChecked
import GoSem.Claim
import GoSem.ClaimJoined
import GoSem.ClaimMapViews
import Derived.JoinedTies
import Derived.KernelRfl
namespace Go.Proofs.Ytdoilkhndkakkaa
/- THE CELL 'sum', in the pinned program and in every row, IS THE sha256 OF THE DUMP (.gsa) THAT YtdoilkhndkakkaaProg.lean LOADS. Nothing in Lean hashes anything: it is a label: what it is worth is what the hold of that sum in a sandbox is worth. -/
noncomputable def Try.pinned : Pinned := { name := "ytdoilkhndkakkaa", sum := "39ebade5098d8b6b4bf312e4951536f22fcd1f643a91a306f1b60514e3cf434d", checked := Try.checked }
namespace Rows
def none {H : Type} : Left H := { results := [], args := [] }

/-- 'laws.FnExactValidJunction': WHATEVER THE INPUT: true; the input reads as it did. -/
def fnExactValidJunctionSpec : ChangeSpec := { name := "fnExactValidJunction", fn := fun _ => fun
  | [d] => { results := [.lit (.bool true)], args := [d] }
  | _ => none }
def fnExactValidJunctionRow : OpenClaim := { program := "ytdoilkhndkakkaa", sum := "39ebade5098d8b6b4bf312e4951536f22fcd1f643a91a306f1b60514e3cf434d", func := "loop.example/g01227/laws.FnExactValidJunction", spec := "fnExactValidJunction", inPlace := ["math.Float32bits", "math.Float64bits"], plainKeys := false, apart := false }
def FnExactValidJunctionSaid : Prop := fnExactValidJunctionRow.holds Try.pinned (OpenSpec.ofChange fnExactValidJunctionSpec)

/-- ITS FALSE NEIGHBOUR: 'it returns false'. Refute it at one input. -/
def fnExactValidJunctionWrong : ChangeSpec := { name := "fnExactValidJunction", fn := fun _ => fun
  | [d] => { results := [.lit (.bool false)], args := [d] }
  | _ => none }
def FnExactValidJunctionWrongFalsely : Prop := fnExactValidJunctionRow.holds Try.pinned (OpenSpec.ofChange fnExactValidJunctionWrong)

/-- 'laws.FnExactSameJunction': WHATEVER THE INPUT: true; the input reads as it did. -/
def fnExactSameJunctionSpec : ChangeSpec := { name := "fnExactSameJunction", fn := fun _ => fun
  | [d1, d2] => { results := [.lit (.bool true)], args := [d1, d2] }
  | _ => none }
def fnExactSameJunctionRow : OpenClaim := { program := "ytdoilkhndkakkaa", sum := "39ebade5098d8b6b4bf312e4951536f22fcd1f643a91a306f1b60514e3cf434d", func := "loop.example/g01227/laws.FnExactSameJunction", spec := "fnExactSameJunction", inPlace := ["math.Float32bits"], plainKeys := false, apart := false }
def FnExactSameJunctionSaid : Prop := fnExactSameJunctionRow.holds Try.pinned (OpenSpec.ofChange fnExactSameJunctionSpec)

/-- ITS FALSE NEIGHBOUR: 'it returns false'. Refute it at one input. -/
def fnExactSameJunctionWrong : ChangeSpec := { name := "fnExactSameJunction", fn := fun _ => fun
  | [d1, d2] => { results := [.lit (.bool false)], args := [d1, d2] }
  | _ => none }
def FnExactSameJunctionWrongFalsely : Prop := fnExactSameJunctionRow.holds Try.pinned (OpenSpec.ofChange fnExactSameJunctionWrong)

/-- 'laws.FnExactEvenJunction': WHATEVER THE INPUT: true; the input reads as it did. -/
def fnExactEvenJunctionSpec : ChangeSpec := { name := "fnExactEvenJunction", fn := fun _ => fun
  | [d1, d2] => { results := [.lit (.bool true)], args := [d1, d2] }
  | _ => none }
def fnExactEvenJunctionRow : OpenClaim := { program := "ytdoilkhndkakkaa", sum := "39ebade5098d8b6b4bf312e4951536f22fcd1f643a91a306f1b60514e3cf434d", func := "loop.example/g01227/laws.FnExactEvenJunction", spec := "fnExactEvenJunction", plainKeys := false, apart := false }
def FnExactEvenJunctionSaid : Prop := fnExactEvenJunctionRow.holds Try.pinned (OpenSpec.ofChange fnExactEvenJunctionSpec)

/-- ITS FALSE NEIGHBOUR: 'it returns false'. Refute it at one input. -/
def fnExactEvenJunctionWrong : ChangeSpec := { name := "fnExactEvenJunction", fn := fun _ => fun
  | [d1, d2] => { results := [.lit (.bool false)], args := [d1, d2] }
  | _ => none }
def FnExactEvenJunctionWrongFalsely : Prop := fnExactEvenJunctionRow.holds Try.pinned (OpenSpec.ofChange fnExactEvenJunctionWrong)

/-- 'laws.FnExactSetPrior': WHATEVER THE INPUT: true; the input reads as it did. -/
def fnExactSetPriorSpec : ChangeSpec := { name := "fnExactSetPrior", fn := fun _ => fun
  | [d1, d2, d3] => { results := [.lit (.bool true)], args := [d1, d2, d3] }
  | _ => none }
def fnExactSetPriorRow : OpenClaim := { program := "ytdoilkhndkakkaa", sum := "39ebade5098d8b6b4bf312e4951536f22fcd1f643a91a306f1b60514e3cf434d", func := "loop.example/g01227/laws.FnExactSetPrior", spec := "fnExactSetPrior", inPlace := ["math.Float32bits", "math.Float64bits"], plainKeys := false, apart := false }
def FnExactSetPriorSaid : Prop := fnExactSetPriorRow.holds Try.pinned (OpenSpec.ofChange fnExactSetPriorSpec)

/-- ITS FALSE NEIGHBOUR: 'it returns false'. Refute it at one input. -/
def fnExactSetPriorWrong : ChangeSpec := { name := "fnExactSetPrior", fn := fun _ => fun
  | [d1, d2, d3] => { results := [.lit (.bool false)], args := [d1, d2, d3] }
  | _ => none }
def FnExactSetPriorWrongFalsely : Prop := fnExactSetPriorRow.holds Try.pinned (OpenSpec.ofChange fnExactSetPriorWrong)

/-- 'laws.FnExactWantsOf': WHATEVER THE INPUT: true; the input reads as it did. -/
def fnExactWantsOfSpec : ChangeSpec := { name := "fnExactWantsOf", fn := fun _ => fun
  | [d1, d2] => { results := [.lit (.bool true)], args := [d1, d2] }
  | _ => none }
def fnExactWantsOfRow : OpenClaim := { program := "ytdoilkhndkakkaa", sum := "39ebade5098d8b6b4bf312e4951536f22fcd1f643a91a306f1b60514e3cf434d", func := "loop.example/g01227/laws.FnExactWantsOf", spec := "fnExactWantsOf", inPlace := ["math.Float32bits", "math.Float64bits"], plainKeys := false, apart := false }
def FnExactWantsOfSaid : Prop := fnExactWantsOfRow.holds Try.pinned (OpenSpec.ofChange fnExactWantsOfSpec)

/-- ITS FALSE NEIGHBOUR: 'it returns false'. Refute it at one input. -/
def fnExactWantsOfWrong : ChangeSpec := { name := "fnExactWantsOf", fn := fun _ => fun
  | [d1, d2] => { results := [.lit (.bool false)], args := [d1, d2] }
  | _ => none }
def FnExactWantsOfWrongFalsely : Prop := fnExactWantsOfRow.holds Try.pinned (OpenSpec.ofChange fnExactWantsOfWrong)

/-- 'laws.FnExactDemandsOf': WHATEVER THE INPUT: true; the input reads as it did. -/
def fnExactDemandsOfSpec : ChangeSpec := { name := "fnExactDemandsOf", fn := fun _ => fun
  | [d1, d2] => { results := [.lit (.bool true)], args := [d1, d2] }
  | _ => none }
def fnExactDemandsOfRow : OpenClaim := { program := "ytdoilkhndkakkaa", sum := "39ebade5098d8b6b4bf312e4951536f22fcd1f643a91a306f1b60514e3cf434d", func := "loop.example/g01227/laws.FnExactDemandsOf", spec := "fnExactDemandsOf", inPlace := ["math.Float32bits", "math.Float64bits"], plainKeys := false, apart := false }
def FnExactDemandsOfSaid : Prop := fnExactDemandsOfRow.holds Try.pinned (OpenSpec.ofChange fnExactDemandsOfSpec)

/-- ITS FALSE NEIGHBOUR: 'it returns false'. Refute it at one input. -/
def fnExactDemandsOfWrong : ChangeSpec := { name := "fnExactDemandsOf", fn := fun _ => fun
  | [d1, d2] => { results := [.lit (.bool false)], args := [d1, d2] }
  | _ => none }
def FnExactDemandsOfWrongFalsely : Prop := fnExactDemandsOfRow.holds Try.pinned (OpenSpec.ofChange fnExactDemandsOfWrong)

/-- 'laws.FnExactFlowsOf': WHATEVER THE INPUT: true; the input reads as it did. -/
def fnExactFlowsOfSpec : ChangeSpec := { name := "fnExactFlowsOf", fn := fun _ => fun
  | [d1, d2, d3] => { results := [.lit (.bool true)], args := [d1, d2, d3] }
  | _ => none }
def fnExactFlowsOfRow : OpenClaim := { program := "ytdoilkhndkakkaa", sum := "39ebade5098d8b6b4bf312e4951536f22fcd1f643a91a306f1b60514e3cf434d", func := "loop.example/g01227/laws.FnExactFlowsOf", spec := "fnExactFlowsOf", inPlace := ["math.Float32bits", "math.Float64bits", "math.Float64frombits"], plainKeys := false, apart := false }
def FnExactFlowsOfSaid : Prop := fnExactFlowsOfRow.holds Try.pinned (OpenSpec.ofChange fnExactFlowsOfSpec)

/-- ITS FALSE NEIGHBOUR: 'it returns false'. Refute it at one input. -/
def fnExactFlowsOfWrong : ChangeSpec := { name := "fnExactFlowsOf", fn := fun _ => fun
  | [d1, d2, d3] => { results := [.lit (.bool false)], args := [d1, d2, d3] }
  | _ => none }
def FnExactFlowsOfWrongFalsely : Prop := fnExactFlowsOfRow.holds Try.pinned (OpenSpec.ofChange fnExactFlowsOfWrong)

/-- 'laws.FnExactStoppedBy': WHATEVER THE INPUT: true; the input reads as it did. -/
def fnExactStoppedBySpec : ChangeSpec := { name := "fnExactStoppedBy", fn := fun _ => fun
  | [d1, d2, d3] => { results := [.lit (.bool true)], args := [d1, d2, d3] }
  | _ => none }
def fnExactStoppedByRow : OpenClaim := { program := "ytdoilkhndkakkaa", sum := "39ebade5098d8b6b4bf312e4951536f22fcd1f643a91a306f1b60514e3cf434d", func := "loop.example/g01227/laws.FnExactStoppedBy", spec := "fnExactStoppedBy", inPlace := ["math.Float32bits", "math.Float64bits", "math.Float64frombits"], plainKeys := false, apart := false }
def FnExactStoppedBySaid : Prop := fnExactStoppedByRow.holds Try.pinned (OpenSpec.ofChange fnExactStoppedBySpec)

/-- ITS FALSE NEIGHBOUR: 'it returns false'. Refute it at one input. -/
def fnExactStoppedByWrong : ChangeSpec := { name := "fnExactStoppedBy", fn := fun _ => fun
  | [d1, d2, d3] => { results := [.lit (.bool false)], args := [d1, d2, d3] }
  | _ => none }
def FnExactStoppedByWrongFalsely : Prop := fnExactStoppedByRow.holds Try.pinned (OpenSpec.ofChange fnExactStoppedByWrong)

/-- 'laws.FnExactInFlows': WHATEVER THE INPUT: true; the input reads as it did. -/
def fnExactInFlowsSpec : ChangeSpec := { name := "fnExactInFlows", fn := fun _ => fun
  | [d] => { results := [.lit (.bool true)], args := [d] }
  | _ => none }
def fnExactInFlowsRow : OpenClaim := { program := "ytdoilkhndkakkaa", sum := "39ebade5098d8b6b4bf312e4951536f22fcd1f643a91a306f1b60514e3cf434d", func := "loop.example/g01227/laws.FnExactInFlows", spec := "fnExactInFlows", plainKeys := false, apart := false }
def FnExactInFlowsSaid : Prop := fnExactInFlowsRow.holds Try.pinned (OpenSpec.ofChange fnExactInFlowsSpec)

/-- ITS FALSE NEIGHBOUR: 'it returns false'. Refute it at one input. -/
def fnExactInFlowsWrong : ChangeSpec := { name := "fnExactInFlows", fn := fun _ => fun
  | [d] => { results := [.lit (.bool false)], args := [d] }
  | _ => none }
def FnExactInFlowsWrongFalsely : Prop := fnExactInFlowsRow.holds Try.pinned (OpenSpec.ofChange fnExactInFlowsWrong)

/-- 'laws.FnExactOutFlows': WHATEVER THE INPUT: true; the input reads as it did. -/
def fnExactOutFlowsSpec : ChangeSpec := { name := "fnExactOutFlows", fn := fun _ => fun
  | [d] => { results := [.lit (.bool true)], args := [d] }
  | _ => none }
def fnExactOutFlowsRow : OpenClaim := { program := "ytdoilkhndkakkaa", sum := "39ebade5098d8b6b4bf312e4951536f22fcd1f643a91a306f1b60514e3cf434d", func := "loop.example/g01227/laws.FnExactOutFlows", spec := "fnExactOutFlows", plainKeys := false, apart := false }
def FnExactOutFlowsSaid : Prop := fnExactOutFlowsRow.holds Try.pinned (OpenSpec.ofChange fnExactOutFlowsSpec)

/-- ITS FALSE NEIGHBOUR: 'it returns false'. Refute it at one input. -/
def fnExactOutFlowsWrong : ChangeSpec := { name := "fnExactOutFlows", fn := fun _ => fun
  | [d] => { results := [.lit (.bool false)], args := [d] }
  | _ => none }
def FnExactOutFlowsWrongFalsely : Prop := fnExactOutFlowsRow.holds Try.pinned (OpenSpec.ofChange fnExactOutFlowsWrong)

/-- 'laws.FnExactSumOfFour': WHATEVER THE INPUT: true; the input reads as it did. -/
def fnExactSumOfFourSpec : ChangeSpec := { name := "fnExactSumOfFour", fn := fun _ => fun
  | [d] => { results := [.lit (.bool true)], args := [d] }
  | _ => none }
def fnExactSumOfFourRow : OpenClaim := { program := "ytdoilkhndkakkaa", sum := "39ebade5098d8b6b4bf312e4951536f22fcd1f643a91a306f1b60514e3cf434d", func := "loop.example/g01227/laws.FnExactSumOfFour", spec := "fnExactSumOfFour", plainKeys := false, apart := false }
def FnExactSumOfFourSaid : Prop := fnExactSumOfFourRow.holds Try.pinned (OpenSpec.ofChange fnExactSumOfFourSpec)

/-- ITS FALSE NEIGHBOUR: 'it returns false'. Refute it at one input. -/
def fnExactSumOfFourWrong : ChangeSpec := { name := "fnExactSumOfFour", fn := fun _ => fun
  | [d] => { results := [.lit (.bool false)], args := [d] }
  | _ => none }
def FnExactSumOfFourWrongFalsely : Prop := fnExactSumOfFourRow.holds Try.pinned (OpenSpec.ofChange fnExactSumOfFourWrong)

/-- 'laws.FnExactLeftBehind': WHATEVER THE INPUT: true; the input reads as it did. -/
def fnExactLeftBehindSpec : ChangeSpec := { name := "fnExactLeftBehind", fn := fun _ => fun
  | [d1, d2, d3] => { results := [.lit (.bool true)], args := [d1, d2, d3] }
  | _ => none }
def fnExactLeftBehindRow : OpenClaim := { program := "ytdoilkhndkakkaa", sum := "39ebade5098d8b6b4bf312e4951536f22fcd1f643a91a306f1b60514e3cf434d", func := "loop.example/g01227/laws.FnExactLeftBehind", spec := "fnExactLeftBehind", inPlace := ["math.Float32bits", "math.Float64bits", "math.Float64frombits"], plainKeys := false, apart := false }
def FnExactLeftBehindSaid : Prop := fnExactLeftBehindRow.holds Try.pinned (OpenSpec.ofChange fnExactLeftBehindSpec)

/-- ITS FALSE NEIGHBOUR: 'it returns false'. Refute it at one input. -/
def fnExactLeftBehindWrong : ChangeSpec := { name := "fnExactLeftBehind", fn := fun _ => fun
  | [d1, d2, d3] => { results := [.lit (.bool false)], args := [d1, d2, d3] }
  | _ => none }
def FnExactLeftBehindWrongFalsely : Prop := fnExactLeftBehindRow.holds Try.pinned (OpenSpec.ofChange fnExactLeftBehindWrong)

/- THE SECOND FORM. 'bulk': how many values and letters a reading holds, each counted each time it is reached (what is shared counts as often as it is met; a slice's spare places count too). A statement '..UptoSaid' is the law's where the arguments, and the package variables that the reading takes, are together of bulk at most 1048576: NARROWER than '..Said'. Prove '..Said' where nothing that the law and all that it calls make is longer than what came in: it says more and counts as full. Else prove '..UptoSaid'. A law counts once. -/
mutual
def uptoBulk {H : Type} : DataW H → Nat
  | .lit (.string bytes) => bytes.length + 1
  | .lit _ => 1
  | .nil => 1
  | .ptr d => uptoBulk d + 1
  | .slice elems spare => uptoBulkAll elems + uptoBulkAll spare + 1
  | .agg parts => uptoBulkAll parts + 1
  | .iface _ d => uptoBulk d + 1
  | .map entries => uptoBulkEntries entries + 1
  | .held _ => 1
def uptoBulkAll {H : Type} : List (DataW H) → Nat
  | [] => 0
  | d :: r => uptoBulk d + uptoBulkAll r
def uptoBulkEntries {H : Type} : List (Lit × DataW H) → Nat
  | [] => 0
  | x :: r => uptoBulkEntry x + uptoBulkEntries r
def uptoBulkEntry {H : Type} : Lit × DataW H → Nat
  | (.string bytes, d) => bytes.length + uptoBulk d + 1
  | (_, d) => uptoBulk d + 1
 end
def uptoSmall : (H : Type) → List (DataW H) → Bool := fun _ ds => decide (uptoBulkAll ds ≤ 1048576)
def OpenSpec.upto (s : _root_.Go.ChangeSpec) : _root_.Go.OpenSpec := { _root_.Go.OpenSpec.ofChange s with cond := some uptoSmall }

/-- 'laws.FnExactValidJunction', WHERE WHAT IT READS IS OF BULK AT MOST 1048576: true; the input reads as it did. -/
def fnExactValidJunctionUptoRow : OpenClaim := { program := "ytdoilkhndkakkaa", sum := "39ebade5098d8b6b4bf312e4951536f22fcd1f643a91a306f1b60514e3cf434d", func := "loop.example/g01227/laws.FnExactValidJunction", spec := "fnExactValidJunction", inPlace := ["math.Float32bits", "math.Float64bits"], plainKeys := false, apart := false, narrowed := true }
def FnExactValidJunctionUptoSaid : Prop := fnExactValidJunctionUptoRow.holds Try.pinned (OpenSpec.upto fnExactValidJunctionSpec)

/-- 'laws.FnExactSameJunction', WHERE WHAT IT READS IS OF BULK AT MOST 1048576: true; the input reads as it did. -/
def fnExactSameJunctionUptoRow : OpenClaim := { program := "ytdoilkhndkakkaa", sum := "39ebade5098d8b6b4bf312e4951536f22fcd1f643a91a306f1b60514e3cf434d", func := "loop.example/g01227/laws.FnExactSameJunction", spec := "fnExactSameJunction", inPlace := ["math.Float32bits"], plainKeys := false, apart := false, narrowed := true }
def FnExactSameJunctionUptoSaid : Prop := fnExactSameJunctionUptoRow.holds Try.pinned (OpenSpec.upto fnExactSameJunctionSpec)

/-- 'laws.FnExactEvenJunction', WHERE WHAT IT READS IS OF BULK AT MOST 1048576: true; the input reads as it did. -/
def fnExactEvenJunctionUptoRow : OpenClaim := { program := "ytdoilkhndkakkaa", sum := "39ebade5098d8b6b4bf312e4951536f22fcd1f643a91a306f1b60514e3cf434d", func := "loop.example/g01227/laws.FnExactEvenJunction", spec := "fnExactEvenJunction", plainKeys := false, apart := false, narrowed := true }
def FnExactEvenJunctionUptoSaid : Prop := fnExactEvenJunctionUptoRow.holds Try.pinned (OpenSpec.upto fnExactEvenJunctionSpec)

/-- 'laws.FnExactSetPrior', WHERE WHAT IT READS IS OF BULK AT MOST 1048576: true; the input reads as it did. -/
def fnExactSetPriorUptoRow : OpenClaim := { program := "ytdoilkhndkakkaa", sum := "39ebade5098d8b6b4bf312e4951536f22fcd1f643a91a306f1b60514e3cf434d", func := "loop.example/g01227/laws.FnExactSetPrior", spec := "fnExactSetPrior", inPlace := ["math.Float32bits", "math.Float64bits"], plainKeys := false, apart := false, narrowed := true }
def FnExactSetPriorUptoSaid : Prop := fnExactSetPriorUptoRow.holds Try.pinned (OpenSpec.upto fnExactSetPriorSpec)

/-- 'laws.FnExactWantsOf', WHERE WHAT IT READS IS OF BULK AT MOST 1048576: true; the input reads as it did. -/
def fnExactWantsOfUptoRow : OpenClaim := { program := "ytdoilkhndkakkaa", sum := "39ebade5098d8b6b4bf312e4951536f22fcd1f643a91a306f1b60514e3cf434d", func := "loop.example/g01227/laws.FnExactWantsOf", spec := "fnExactWantsOf", inPlace := ["math.Float32bits", "math.Float64bits"], plainKeys := false, apart := false, narrowed := true }
def FnExactWantsOfUptoSaid : Prop := fnExactWantsOfUptoRow.holds Try.pinned (OpenSpec.upto fnExactWantsOfSpec)

/-- 'laws.FnExactDemandsOf', WHERE WHAT IT READS IS OF BULK AT MOST 1048576: true; the input reads as it did. -/
def fnExactDemandsOfUptoRow : OpenClaim := { program := "ytdoilkhndkakkaa", sum := "39ebade5098d8b6b4bf312e4951536f22fcd1f643a91a306f1b60514e3cf434d", func := "loop.example/g01227/laws.FnExactDemandsOf", spec := "fnExactDemandsOf", inPlace := ["math.Float32bits", "math.Float64bits"], plainKeys := false, apart := false, narrowed := true }
def FnExactDemandsOfUptoSaid : Prop := fnExactDemandsOfUptoRow.holds Try.pinned (OpenSpec.upto fnExactDemandsOfSpec)

/-- 'laws.FnExactFlowsOf', WHERE WHAT IT READS IS OF BULK AT MOST 1048576: true; the input reads as it did. -/
def fnExactFlowsOfUptoRow : OpenClaim := { program := "ytdoilkhndkakkaa", sum := "39ebade5098d8b6b4bf312e4951536f22fcd1f643a91a306f1b60514e3cf434d", func := "loop.example/g01227/laws.FnExactFlowsOf", spec := "fnExactFlowsOf", inPlace := ["math.Float32bits", "math.Float64bits", "math.Float64frombits"], plainKeys := false, apart := false, narrowed := true }
def FnExactFlowsOfUptoSaid : Prop := fnExactFlowsOfUptoRow.holds Try.pinned (OpenSpec.upto fnExactFlowsOfSpec)

/-- 'laws.FnExactStoppedBy', WHERE WHAT IT READS IS OF BULK AT MOST 1048576: true; the input reads as it did. -/
def fnExactStoppedByUptoRow : OpenClaim := { program := "ytdoilkhndkakkaa", sum := "39ebade5098d8b6b4bf312e4951536f22fcd1f643a91a306f1b60514e3cf434d", func := "loop.example/g01227/laws.FnExactStoppedBy", spec := "fnExactStoppedBy", inPlace := ["math.Float32bits", "math.Float64bits", "math.Float64frombits"], plainKeys := false, apart := false, narrowed := true }
def FnExactStoppedByUptoSaid : Prop := fnExactStoppedByUptoRow.holds Try.pinned (OpenSpec.upto fnExactStoppedBySpec)

/-- 'laws.FnExactInFlows', WHERE WHAT IT READS IS OF BULK AT MOST 1048576: true; the input reads as it did. -/
def fnExactInFlowsUptoRow : OpenClaim := { program := "ytdoilkhndkakkaa", sum := "39ebade5098d8b6b4bf312e4951536f22fcd1f643a91a306f1b60514e3cf434d", func := "loop.example/g01227/laws.FnExactInFlows", spec := "fnExactInFlows", plainKeys := false, apart := false, narrowed := true }
def FnExactInFlowsUptoSaid : Prop := fnExactInFlowsUptoRow.holds Try.pinned (OpenSpec.upto fnExactInFlowsSpec)

/-- 'laws.FnExactOutFlows', WHERE WHAT IT READS IS OF BULK AT MOST 1048576: true; the input reads as it did. -/
def fnExactOutFlowsUptoRow : OpenClaim := { program := "ytdoilkhndkakkaa", sum := "39ebade5098d8b6b4bf312e4951536f22fcd1f643a91a306f1b60514e3cf434d", func := "loop.example/g01227/laws.FnExactOutFlows", spec := "fnExactOutFlows", plainKeys := false, apart := false, narrowed := true }
def FnExactOutFlowsUptoSaid : Prop := fnExactOutFlowsUptoRow.holds Try.pinned (OpenSpec.upto fnExactOutFlowsSpec)

/-- 'laws.FnExactSumOfFour', WHERE WHAT IT READS IS OF BULK AT MOST 1048576: true; the input reads as it did. -/
def fnExactSumOfFourUptoRow : OpenClaim := { program := "ytdoilkhndkakkaa", sum := "39ebade5098d8b6b4bf312e4951536f22fcd1f643a91a306f1b60514e3cf434d", func := "loop.example/g01227/laws.FnExactSumOfFour", spec := "fnExactSumOfFour", plainKeys := false, apart := false, narrowed := true }
def FnExactSumOfFourUptoSaid : Prop := fnExactSumOfFourUptoRow.holds Try.pinned (OpenSpec.upto fnExactSumOfFourSpec)

/-- 'laws.FnExactLeftBehind', WHERE WHAT IT READS IS OF BULK AT MOST 1048576: true; the input reads as it did. -/
def fnExactLeftBehindUptoRow : OpenClaim := { program := "ytdoilkhndkakkaa", sum := "39ebade5098d8b6b4bf312e4951536f22fcd1f643a91a306f1b60514e3cf434d", func := "loop.example/g01227/laws.FnExactLeftBehind", spec := "fnExactLeftBehind", inPlace := ["math.Float32bits", "math.Float64bits", "math.Float64frombits"], plainKeys := false, apart := false, narrowed := true }
def FnExactLeftBehindUptoSaid : Prop := fnExactLeftBehindUptoRow.holds Try.pinned (OpenSpec.upto fnExactLeftBehindSpec)

end Rows
end Go.Proofs.Ytdoilkhndkakkaa
