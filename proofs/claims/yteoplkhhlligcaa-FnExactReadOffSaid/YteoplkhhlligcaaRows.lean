/-
  No cell of these rows narrows 'for every input' (looked for: loops, veiled, ifaces, maps, wideKeys, modest, calm, conditions, laid).
  DERIVED. THE GIVEN ROWS OF THIS SEAT. 12 by the template 'for every input the law returns true; each argument reads behind the call as it read before'; 0 by the template 'total and deterministic' (their statements: YteoplkhhlligcaaTotals.lean).
  GIVEN WITH THE SEED: the statements are not yours to turn. If you find one false, say at which input.
  Laid BY PROGRAM, IN A SANDBOX (cutbox-rows.mjs): the forced cells as the released guide's own fill.sh prints them over the translation 092a5737f8adef99… (all of the seat's roots in one cut). By AI agents, Wed Nov 11 2026. No macro, syntax, notation, axiom, sorry.
-/
import Derived.Test.YteoplkhhlligcaaChecked
import GoSem.Claim
import GoSem.ClaimJoined
import GoSem.ClaimMapViews
import Derived.JoinedTies
import Derived.KernelRfl
namespace Go.Proofs.Yteoplkhhlligcaa
/- THE CELL 'sum', in the pinned program and in every row, IS THE sha256 OF THE DUMP (.gsa) THAT YteoplkhhlligcaaProg.lean LOADS. Nothing in Lean hashes anything: it is a label: what it is worth is what the hold of that sum in a sandbox is worth. -/
noncomputable def Try.pinned : Pinned := { name := "yteoplkhhlligcaa", sum := "092a5737f8adef990e39bd8f09ac79273df08b8573247223f3afe59870a72774", checked := Try.checked }
namespace Rows
def none {H : Type} : Left H := { results := [], args := [] }

/-- 'laws.FnExactToCount': WHATEVER THE INPUT: true; the input reads as it did. -/
def fnExactToCountSpec : ChangeSpec := { name := "fnExactToCount", fn := fun _ => fun
  | [d] => { results := [.lit (.bool true)], args := [d] }
  | _ => none }
def fnExactToCountRow : OpenClaim := { program := "yteoplkhhlligcaa", sum := "092a5737f8adef990e39bd8f09ac79273df08b8573247223f3afe59870a72774", func := "loop.example/g01227/laws.FnExactToCount", spec := "fnExactToCount", inPlace := ["math.RoundToEven"], unfollowed := true, recurses := true, apart := false }
def FnExactToCountSaid : Prop := fnExactToCountRow.holds Try.pinned (OpenSpec.ofChange fnExactToCountSpec)

/-- ITS FALSE NEIGHBOUR: 'it returns false'. Refute it at one input. -/
def fnExactToCountWrong : ChangeSpec := { name := "fnExactToCount", fn := fun _ => fun
  | [d] => { results := [.lit (.bool false)], args := [d] }
  | _ => none }
def FnExactToCountWrongFalsely : Prop := fnExactToCountRow.holds Try.pinned (OpenSpec.ofChange fnExactToCountWrong)

/-- 'laws.FnExactValidDetector': WHATEVER THE INPUT: true; the input reads as it did. -/
def fnExactValidDetectorSpec : ChangeSpec := { name := "fnExactValidDetector", fn := fun _ => fun
  | [d] => { results := [.lit (.bool true)], args := [d] }
  | _ => none }
def fnExactValidDetectorRow : OpenClaim := { program := "yteoplkhhlligcaa", sum := "092a5737f8adef990e39bd8f09ac79273df08b8573247223f3afe59870a72774", func := "loop.example/g01227/laws.FnExactValidDetector", spec := "fnExactValidDetector", inPlace := ["math.Float32bits", "math.Float64bits"], apart := false }
def FnExactValidDetectorSaid : Prop := fnExactValidDetectorRow.holds Try.pinned (OpenSpec.ofChange fnExactValidDetectorSpec)

/-- ITS FALSE NEIGHBOUR: 'it returns false'. Refute it at one input. -/
def fnExactValidDetectorWrong : ChangeSpec := { name := "fnExactValidDetector", fn := fun _ => fun
  | [d] => { results := [.lit (.bool false)], args := [d] }
  | _ => none }
def FnExactValidDetectorWrongFalsely : Prop := fnExactValidDetectorRow.holds Try.pinned (OpenSpec.ofChange fnExactValidDetectorWrong)

/-- 'laws.FnExactSameDetector': WHATEVER THE INPUT: true; the input reads as it did. -/
def fnExactSameDetectorSpec : ChangeSpec := { name := "fnExactSameDetector", fn := fun _ => fun
  | [d1, d2] => { results := [.lit (.bool true)], args := [d1, d2] }
  | _ => none }
def fnExactSameDetectorRow : OpenClaim := { program := "yteoplkhhlligcaa", sum := "092a5737f8adef990e39bd8f09ac79273df08b8573247223f3afe59870a72774", func := "loop.example/g01227/laws.FnExactSameDetector", spec := "fnExactSameDetector", inPlace := ["math.Float32bits"], apart := false }
def FnExactSameDetectorSaid : Prop := fnExactSameDetectorRow.holds Try.pinned (OpenSpec.ofChange fnExactSameDetectorSpec)

/-- ITS FALSE NEIGHBOUR: 'it returns false'. Refute it at one input. -/
def fnExactSameDetectorWrong : ChangeSpec := { name := "fnExactSameDetector", fn := fun _ => fun
  | [d1, d2] => { results := [.lit (.bool false)], args := [d1, d2] }
  | _ => none }
def FnExactSameDetectorWrongFalsely : Prop := fnExactSameDetectorRow.holds Try.pinned (OpenSpec.ofChange fnExactSameDetectorWrong)

/-- 'laws.FnExactPlaceDetector': WHATEVER THE INPUT: true; the input reads as it did. -/
def fnExactPlaceDetectorSpec : ChangeSpec := { name := "fnExactPlaceDetector", fn := fun _ => fun
  | [d] => { results := [.lit (.bool true)], args := [d] }
  | _ => none }
def fnExactPlaceDetectorRow : OpenClaim := { program := "yteoplkhhlligcaa", sum := "092a5737f8adef990e39bd8f09ac79273df08b8573247223f3afe59870a72774", func := "loop.example/g01227/laws.FnExactPlaceDetector", spec := "fnExactPlaceDetector", apart := false }
def FnExactPlaceDetectorSaid : Prop := fnExactPlaceDetectorRow.holds Try.pinned (OpenSpec.ofChange fnExactPlaceDetectorSpec)

/-- ITS FALSE NEIGHBOUR: 'it returns false'. Refute it at one input. -/
def fnExactPlaceDetectorWrong : ChangeSpec := { name := "fnExactPlaceDetector", fn := fun _ => fun
  | [d] => { results := [.lit (.bool false)], args := [d] }
  | _ => none }
def FnExactPlaceDetectorWrongFalsely : Prop := fnExactPlaceDetectorRow.holds Try.pinned (OpenSpec.ofChange fnExactPlaceDetectorWrong)

/-- 'laws.FnExactReadOff': WHATEVER THE INPUT: true; the input reads as it did. -/
def fnExactReadOffSpec : ChangeSpec := { name := "fnExactReadOff", fn := fun _ => fun
  | [d1, d2] => { results := [.lit (.bool true)], args := [d1, d2] }
  | _ => none }
def fnExactReadOffRow : OpenClaim := { program := "yteoplkhhlligcaa", sum := "092a5737f8adef990e39bd8f09ac79273df08b8573247223f3afe59870a72774", func := "loop.example/g01227/laws.FnExactReadOff", spec := "fnExactReadOff", inPlace := ["math.Float32bits", "math.RoundToEven", "math.Float64bits"], unfollowed := true, recurses := true, apart := false }
def FnExactReadOffSaid : Prop := fnExactReadOffRow.holds Try.pinned (OpenSpec.ofChange fnExactReadOffSpec)

/-- ITS FALSE NEIGHBOUR: 'it returns false'. Refute it at one input. -/
def fnExactReadOffWrong : ChangeSpec := { name := "fnExactReadOff", fn := fun _ => fun
  | [d1, d2] => { results := [.lit (.bool false)], args := [d1, d2] }
  | _ => none }
def FnExactReadOffWrongFalsely : Prop := fnExactReadOffRow.holds Try.pinned (OpenSpec.ofChange fnExactReadOffWrong)

/-- 'laws.FnExactValidTallies': WHATEVER THE INPUT: true; the input reads as it did. -/
def fnExactValidTalliesSpec : ChangeSpec := { name := "fnExactValidTallies", fn := fun _ => fun
  | [d] => { results := [.lit (.bool true)], args := [d] }
  | _ => none }
def fnExactValidTalliesRow : OpenClaim := { program := "yteoplkhhlligcaa", sum := "092a5737f8adef990e39bd8f09ac79273df08b8573247223f3afe59870a72774", func := "loop.example/g01227/laws.FnExactValidTallies", spec := "fnExactValidTallies", apart := false }
def FnExactValidTalliesSaid : Prop := fnExactValidTalliesRow.holds Try.pinned (OpenSpec.ofChange fnExactValidTalliesSpec)

/-- ITS FALSE NEIGHBOUR: 'it returns false'. Refute it at one input. -/
def fnExactValidTalliesWrong : ChangeSpec := { name := "fnExactValidTallies", fn := fun _ => fun
  | [d] => { results := [.lit (.bool false)], args := [d] }
  | _ => none }
def FnExactValidTalliesWrongFalsely : Prop := fnExactValidTalliesRow.holds Try.pinned (OpenSpec.ofChange fnExactValidTalliesWrong)

/-- 'laws.FnExactSumOfTallies': WHATEVER THE INPUT: true; the input reads as it did. -/
def fnExactSumOfTalliesSpec : ChangeSpec := { name := "fnExactSumOfTallies", fn := fun _ => fun
  | [d] => { results := [.lit (.bool true)], args := [d] }
  | _ => none }
def fnExactSumOfTalliesRow : OpenClaim := { program := "yteoplkhhlligcaa", sum := "092a5737f8adef990e39bd8f09ac79273df08b8573247223f3afe59870a72774", func := "loop.example/g01227/laws.FnExactSumOfTallies", spec := "fnExactSumOfTallies", apart := false }
def FnExactSumOfTalliesSaid : Prop := fnExactSumOfTalliesRow.holds Try.pinned (OpenSpec.ofChange fnExactSumOfTalliesSpec)

/-- ITS FALSE NEIGHBOUR: 'it returns false'. Refute it at one input. -/
def fnExactSumOfTalliesWrong : ChangeSpec := { name := "fnExactSumOfTallies", fn := fun _ => fun
  | [d] => { results := [.lit (.bool false)], args := [d] }
  | _ => none }
def FnExactSumOfTalliesWrongFalsely : Prop := fnExactSumOfTalliesRow.holds Try.pinned (OpenSpec.ofChange fnExactSumOfTalliesWrong)

/-- 'laws.FnExactMeanFull': WHATEVER THE INPUT: true; the input reads as it did. -/
def fnExactMeanFullSpec : ChangeSpec := { name := "fnExactMeanFull", fn := fun _ => fun
  | [d] => { results := [.lit (.bool true)], args := [d] }
  | _ => none }
def fnExactMeanFullRow : OpenClaim := { program := "yteoplkhhlligcaa", sum := "092a5737f8adef990e39bd8f09ac79273df08b8573247223f3afe59870a72774", func := "loop.example/g01227/laws.FnExactMeanFull", spec := "fnExactMeanFull", apart := false }
def FnExactMeanFullSaid : Prop := fnExactMeanFullRow.holds Try.pinned (OpenSpec.ofChange fnExactMeanFullSpec)

/-- ITS FALSE NEIGHBOUR: 'it returns false'. Refute it at one input. -/
def fnExactMeanFullWrong : ChangeSpec := { name := "fnExactMeanFull", fn := fun _ => fun
  | [d] => { results := [.lit (.bool false)], args := [d] }
  | _ => none }
def FnExactMeanFullWrongFalsely : Prop := fnExactMeanFullRow.holds Try.pinned (OpenSpec.ofChange fnExactMeanFullWrong)

/-- 'laws.FnExactBusiestTurn': WHATEVER THE INPUT: true; the input reads as it did. -/
def fnExactBusiestTurnSpec : ChangeSpec := { name := "fnExactBusiestTurn", fn := fun _ => fun
  | [d] => { results := [.lit (.bool true)], args := [d] }
  | _ => none }
def fnExactBusiestTurnRow : OpenClaim := { program := "yteoplkhhlligcaa", sum := "092a5737f8adef990e39bd8f09ac79273df08b8573247223f3afe59870a72774", func := "loop.example/g01227/laws.FnExactBusiestTurn", spec := "fnExactBusiestTurn", unfollowed := true, recurses := true, apart := false }
def FnExactBusiestTurnSaid : Prop := fnExactBusiestTurnRow.holds Try.pinned (OpenSpec.ofChange fnExactBusiestTurnSpec)

/-- ITS FALSE NEIGHBOUR: 'it returns false'. Refute it at one input. -/
def fnExactBusiestTurnWrong : ChangeSpec := { name := "fnExactBusiestTurn", fn := fun _ => fun
  | [d] => { results := [.lit (.bool false)], args := [d] }
  | _ => none }
def FnExactBusiestTurnWrongFalsely : Prop := fnExactBusiestTurnRow.holds Try.pinned (OpenSpec.ofChange fnExactBusiestTurnWrong)

/-- 'laws.FnExactFirstStuck': WHATEVER THE INPUT: true; the input reads as it did. -/
def fnExactFirstStuckSpec : ChangeSpec := { name := "fnExactFirstStuck", fn := fun _ => fun
  | [d1, d2] => { results := [.lit (.bool true)], args := [d1, d2] }
  | _ => none }
def fnExactFirstStuckRow : OpenClaim := { program := "yteoplkhhlligcaa", sum := "092a5737f8adef990e39bd8f09ac79273df08b8573247223f3afe59870a72774", func := "loop.example/g01227/laws.FnExactFirstStuck", spec := "fnExactFirstStuck", apart := false }
def FnExactFirstStuckSaid : Prop := fnExactFirstStuckRow.holds Try.pinned (OpenSpec.ofChange fnExactFirstStuckSpec)

/-- ITS FALSE NEIGHBOUR: 'it returns false'. Refute it at one input. -/
def fnExactFirstStuckWrong : ChangeSpec := { name := "fnExactFirstStuck", fn := fun _ => fun
  | [d1, d2] => { results := [.lit (.bool false)], args := [d1, d2] }
  | _ => none }
def FnExactFirstStuckWrongFalsely : Prop := fnExactFirstStuckRow.holds Try.pinned (OpenSpec.ofChange fnExactFirstStuckWrong)

/-- 'laws.FnExactCallsOf': WHATEVER THE INPUT: true; the input reads as it did. -/
def fnExactCallsOfSpec : ChangeSpec := { name := "fnExactCallsOf", fn := fun _ => fun
  | [d1, d2] => { results := [.lit (.bool true)], args := [d1, d2] }
  | _ => none }
def fnExactCallsOfRow : OpenClaim := { program := "yteoplkhhlligcaa", sum := "092a5737f8adef990e39bd8f09ac79273df08b8573247223f3afe59870a72774", func := "loop.example/g01227/laws.FnExactCallsOf", spec := "fnExactCallsOf", apart := false }
def FnExactCallsOfSaid : Prop := fnExactCallsOfRow.holds Try.pinned (OpenSpec.ofChange fnExactCallsOfSpec)

/-- ITS FALSE NEIGHBOUR: 'it returns false'. Refute it at one input. -/
def fnExactCallsOfWrong : ChangeSpec := { name := "fnExactCallsOf", fn := fun _ => fun
  | [d1, d2] => { results := [.lit (.bool false)], args := [d1, d2] }
  | _ => none }
def FnExactCallsOfWrongFalsely : Prop := fnExactCallsOfRow.holds Try.pinned (OpenSpec.ofChange fnExactCallsOfWrong)

/-- 'laws.FnExactWithoutWrong': WHATEVER THE INPUT: true; the input reads as it did. -/
def fnExactWithoutWrongSpec : ChangeSpec := { name := "fnExactWithoutWrong", fn := fun _ => fun
  | [d1, d2] => { results := [.lit (.bool true)], args := [d1, d2] }
  | _ => none }
def fnExactWithoutWrongRow : OpenClaim := { program := "yteoplkhhlligcaa", sum := "092a5737f8adef990e39bd8f09ac79273df08b8573247223f3afe59870a72774", func := "loop.example/g01227/laws.FnExactWithoutWrong", spec := "fnExactWithoutWrong", apart := false }
def FnExactWithoutWrongSaid : Prop := fnExactWithoutWrongRow.holds Try.pinned (OpenSpec.ofChange fnExactWithoutWrongSpec)

/-- ITS FALSE NEIGHBOUR: 'it returns false'. Refute it at one input. -/
def fnExactWithoutWrongWrong : ChangeSpec := { name := "fnExactWithoutWrong", fn := fun _ => fun
  | [d1, d2] => { results := [.lit (.bool false)], args := [d1, d2] }
  | _ => none }
def FnExactWithoutWrongWrongFalsely : Prop := fnExactWithoutWrongRow.holds Try.pinned (OpenSpec.ofChange fnExactWithoutWrongWrong)

/- THE SECOND FORM. 'bulk': how many values and letters a reading holds, each counted each time it is reached (what is shared counts as often as it is met; a slice's spare places count too). A statement '..UptoSaid' is the law's where the arguments, and the package variables that the reading takes, are together of bulk at most 1048576: NARROWER than '..Said'. Prove '..Said' where nothing that the law and all that it calls make is longer than what came in: it says more and counts as full. Else prove '..UptoSaid'. A law counts once. -/
mutual
def uptoBulk {H : Type} : DataW H → Nat
  | .lit (.string bytes) => bytes.length + 1
  | .lit _ => 1
  | .nil => 1
  | .ptr d => uptoBulk d + 1
  | .slice elems spare => uptoBulkAll elems + uptoBulkAll spare + 1
  | .agg parts => uptoBulkAll parts + 1
  | .iface _ d => uptoBulk d + 1
  | .map entries => uptoBulkEntries entries + 1
  | .held _ => 1
def uptoBulkAll {H : Type} : List (DataW H) → Nat
  | [] => 0
  | d :: r => uptoBulk d + uptoBulkAll r
def uptoBulkEntries {H : Type} : List (Lit × DataW H) → Nat
  | [] => 0
  | x :: r => uptoBulkEntry x + uptoBulkEntries r
def uptoBulkEntry {H : Type} : Lit × DataW H → Nat
  | (.string bytes, d) => bytes.length + uptoBulk d + 1
  | (_, d) => uptoBulk d + 1
 end
def uptoSmall : (H : Type) → List (DataW H) → Bool := fun _ ds => decide (uptoBulkAll ds ≤ 1048576)
def OpenSpec.upto (s : _root_.Go.ChangeSpec) : _root_.Go.OpenSpec := { _root_.Go.OpenSpec.ofChange s with cond := some uptoSmall }

/-- 'laws.FnExactToCount', WHERE WHAT IT READS IS OF BULK AT MOST 1048576: true; the input reads as it did. -/
def fnExactToCountUptoRow : OpenClaim := { program := "yteoplkhhlligcaa", sum := "092a5737f8adef990e39bd8f09ac79273df08b8573247223f3afe59870a72774", func := "loop.example/g01227/laws.FnExactToCount", spec := "fnExactToCount", inPlace := ["math.RoundToEven"], unfollowed := true, recurses := true, apart := false, narrowed := true }
def FnExactToCountUptoSaid : Prop := fnExactToCountUptoRow.holds Try.pinned (OpenSpec.upto fnExactToCountSpec)

/-- 'laws.FnExactValidDetector', WHERE WHAT IT READS IS OF BULK AT MOST 1048576: true; the input reads as it did. -/
def fnExactValidDetectorUptoRow : OpenClaim := { program := "yteoplkhhlligcaa", sum := "092a5737f8adef990e39bd8f09ac79273df08b8573247223f3afe59870a72774", func := "loop.example/g01227/laws.FnExactValidDetector", spec := "fnExactValidDetector", inPlace := ["math.Float32bits", "math.Float64bits"], apart := false, narrowed := true }
def FnExactValidDetectorUptoSaid : Prop := fnExactValidDetectorUptoRow.holds Try.pinned (OpenSpec.upto fnExactValidDetectorSpec)

/-- 'laws.FnExactSameDetector', WHERE WHAT IT READS IS OF BULK AT MOST 1048576: true; the input reads as it did. -/
def fnExactSameDetectorUptoRow : OpenClaim := { program := "yteoplkhhlligcaa", sum := "092a5737f8adef990e39bd8f09ac79273df08b8573247223f3afe59870a72774", func := "loop.example/g01227/laws.FnExactSameDetector", spec := "fnExactSameDetector", inPlace := ["math.Float32bits"], apart := false, narrowed := true }
def FnExactSameDetectorUptoSaid : Prop := fnExactSameDetectorUptoRow.holds Try.pinned (OpenSpec.upto fnExactSameDetectorSpec)

/-- 'laws.FnExactPlaceDetector', WHERE WHAT IT READS IS OF BULK AT MOST 1048576: true; the input reads as it did. -/
def fnExactPlaceDetectorUptoRow : OpenClaim := { program := "yteoplkhhlligcaa", sum := "092a5737f8adef990e39bd8f09ac79273df08b8573247223f3afe59870a72774", func := "loop.example/g01227/laws.FnExactPlaceDetector", spec := "fnExactPlaceDetector", apart := false, narrowed := true }
def FnExactPlaceDetectorUptoSaid : Prop := fnExactPlaceDetectorUptoRow.holds Try.pinned (OpenSpec.upto fnExactPlaceDetectorSpec)

/-- 'laws.FnExactReadOff', WHERE WHAT IT READS IS OF BULK AT MOST 1048576: true; the input reads as it did. -/
def fnExactReadOffUptoRow : OpenClaim := { program := "yteoplkhhlligcaa", sum := "092a5737f8adef990e39bd8f09ac79273df08b8573247223f3afe59870a72774", func := "loop.example/g01227/laws.FnExactReadOff", spec := "fnExactReadOff", inPlace := ["math.Float32bits", "math.RoundToEven", "math.Float64bits"], unfollowed := true, recurses := true, apart := false, narrowed := true }
def FnExactReadOffUptoSaid : Prop := fnExactReadOffUptoRow.holds Try.pinned (OpenSpec.upto fnExactReadOffSpec)

/-- 'laws.FnExactValidTallies', WHERE WHAT IT READS IS OF BULK AT MOST 1048576: true; the input reads as it did. -/
def fnExactValidTalliesUptoRow : OpenClaim := { program := "yteoplkhhlligcaa", sum := "092a5737f8adef990e39bd8f09ac79273df08b8573247223f3afe59870a72774", func := "loop.example/g01227/laws.FnExactValidTallies", spec := "fnExactValidTallies", apart := false, narrowed := true }
def FnExactValidTalliesUptoSaid : Prop := fnExactValidTalliesUptoRow.holds Try.pinned (OpenSpec.upto fnExactValidTalliesSpec)

/-- 'laws.FnExactSumOfTallies', WHERE WHAT IT READS IS OF BULK AT MOST 1048576: true; the input reads as it did. -/
def fnExactSumOfTalliesUptoRow : OpenClaim := { program := "yteoplkhhlligcaa", sum := "092a5737f8adef990e39bd8f09ac79273df08b8573247223f3afe59870a72774", func := "loop.example/g01227/laws.FnExactSumOfTallies", spec := "fnExactSumOfTallies", apart := false, narrowed := true }
def FnExactSumOfTalliesUptoSaid : Prop := fnExactSumOfTalliesUptoRow.holds Try.pinned (OpenSpec.upto fnExactSumOfTalliesSpec)

/-- 'laws.FnExactMeanFull', WHERE WHAT IT READS IS OF BULK AT MOST 1048576: true; the input reads as it did. -/
def fnExactMeanFullUptoRow : OpenClaim := { program := "yteoplkhhlligcaa", sum := "092a5737f8adef990e39bd8f09ac79273df08b8573247223f3afe59870a72774", func := "loop.example/g01227/laws.FnExactMeanFull", spec := "fnExactMeanFull", apart := false, narrowed := true }
def FnExactMeanFullUptoSaid : Prop := fnExactMeanFullUptoRow.holds Try.pinned (OpenSpec.upto fnExactMeanFullSpec)

/-- 'laws.FnExactBusiestTurn', WHERE WHAT IT READS IS OF BULK AT MOST 1048576: true; the input reads as it did. -/
def fnExactBusiestTurnUptoRow : OpenClaim := { program := "yteoplkhhlligcaa", sum := "092a5737f8adef990e39bd8f09ac79273df08b8573247223f3afe59870a72774", func := "loop.example/g01227/laws.FnExactBusiestTurn", spec := "fnExactBusiestTurn", unfollowed := true, recurses := true, apart := false, narrowed := true }
def FnExactBusiestTurnUptoSaid : Prop := fnExactBusiestTurnUptoRow.holds Try.pinned (OpenSpec.upto fnExactBusiestTurnSpec)

/-- 'laws.FnExactFirstStuck', WHERE WHAT IT READS IS OF BULK AT MOST 1048576: true; the input reads as it did. -/
def fnExactFirstStuckUptoRow : OpenClaim := { program := "yteoplkhhlligcaa", sum := "092a5737f8adef990e39bd8f09ac79273df08b8573247223f3afe59870a72774", func := "loop.example/g01227/laws.FnExactFirstStuck", spec := "fnExactFirstStuck", apart := false, narrowed := true }
def FnExactFirstStuckUptoSaid : Prop := fnExactFirstStuckUptoRow.holds Try.pinned (OpenSpec.upto fnExactFirstStuckSpec)

/-- 'laws.FnExactCallsOf', WHERE WHAT IT READS IS OF BULK AT MOST 1048576: true; the input reads as it did. -/
def fnExactCallsOfUptoRow : OpenClaim := { program := "yteoplkhhlligcaa", sum := "092a5737f8adef990e39bd8f09ac79273df08b8573247223f3afe59870a72774", func := "loop.example/g01227/laws.FnExactCallsOf", spec := "fnExactCallsOf", apart := false, narrowed := true }
def FnExactCallsOfUptoSaid : Prop := fnExactCallsOfUptoRow.holds Try.pinned (OpenSpec.upto fnExactCallsOfSpec)

/-- 'laws.FnExactWithoutWrong', WHERE WHAT IT READS IS OF BULK AT MOST 1048576: true; the input reads as it did. -/
def fnExactWithoutWrongUptoRow : OpenClaim := { program := "yteoplkhhlligcaa", sum := "092a5737f8adef990e39bd8f09ac79273df08b8573247223f3afe59870a72774", func := "loop.example/g01227/laws.FnExactWithoutWrong", spec := "fnExactWithoutWrong", apart := false, narrowed := true }
def FnExactWithoutWrongUptoSaid : Prop := fnExactWithoutWrongUptoRow.holds Try.pinned (OpenSpec.upto fnExactWithoutWrongSpec)

end Rows
end Go.Proofs.Yteoplkhhlligcaa
