/-
  No cell of these rows narrows 'for every input' (looked for: loops, veiled, ifaces, maps, wideKeys, modest, calm, conditions, laid).
  DERIVED. THE GIVEN ROWS OF THIS SEAT. 6 by the template 'for every input the law returns true; each argument reads behind the call as it read before'; 0 by the template 'total and deterministic' (their statements: YtkaghfoaicbngabTotals.lean).
  GIVEN WITH THE SEED: the statements are not yours to turn. If you find one false, say at which input.
  Laid BY PROGRAM, IN A SANDBOX (cutbox-rows.mjs): the forced cells as the released guide's own fill.sh prints them over the translation 6023321f5a8b356a… (all of the seat's roots in one cut). By AI agents, Wed Nov 11 2026. No macro, syntax, notation, axiom, sorry.
-/
import Derived.Test.YtkaghfoaicbngabChecked
import GoSem.Claim
import GoSem.ClaimJoined
import GoSem.ClaimMapViews
import Derived.JoinedTies
import Derived.KernelRfl
namespace Go.Proofs.Ytkaghfoaicbngab
/- THE CELL 'sum', in the pinned program and in every row, IS THE sha256 OF THE DUMP (.gsa) THAT YtkaghfoaicbngabProg.lean LOADS. Nothing in Lean hashes anything: it is a label: what it is worth is what the hold of that sum in a sandbox is worth. -/
noncomputable def Try.pinned : Pinned := { name := "ytkaghfoaicbngab", sum := "6023321f5a8b356acd2cba31a6e3149e6c429b88eae48a88903475a0afa81e73", checked := Try.checked }
namespace Rows
def none {H : Type} : Left H := { results := [], args := [] }

/-- 'laws.FnExactWaveOf': WHATEVER THE INPUT: true; the input reads as it did. -/
def fnExactWaveOfSpec : ChangeSpec := { name := "fnExactWaveOf", fn := fun _ => fun
  | [d1, d2, d3] => { results := [.lit (.bool true)], args := [d1, d2, d3] }
  | _ => none }
def fnExactWaveOfRow : OpenClaim := { program := "ytkaghfoaicbngab", sum := "6023321f5a8b356acd2cba31a6e3149e6c429b88eae48a88903475a0afa81e73", func := "loop.example/g01227/laws.FnExactWaveOf", spec := "fnExactWaveOf", unfollowed := true, recurses := true, plainKeys := false, apart := false }
def FnExactWaveOfSaid : Prop := fnExactWaveOfRow.holds Try.pinned (OpenSpec.ofChange fnExactWaveOfSpec)

/-- ITS FALSE NEIGHBOUR: 'it returns false'. Refute it at one input. -/
def fnExactWaveOfWrong : ChangeSpec := { name := "fnExactWaveOf", fn := fun _ => fun
  | [d1, d2, d3] => { results := [.lit (.bool false)], args := [d1, d2, d3] }
  | _ => none }
def FnExactWaveOfWrongFalsely : Prop := fnExactWaveOfRow.holds Try.pinned (OpenSpec.ofChange fnExactWaveOfWrong)

/-- 'laws.FnExactWaveWidth': WHATEVER THE INPUT: true; the input reads as it did. -/
def fnExactWaveWidthSpec : ChangeSpec := { name := "fnExactWaveWidth", fn := fun _ => fun
  | [d1, d2, d3] => { results := [.lit (.bool true)], args := [d1, d2, d3] }
  | _ => none }
def fnExactWaveWidthRow : OpenClaim := { program := "ytkaghfoaicbngab", sum := "6023321f5a8b356acd2cba31a6e3149e6c429b88eae48a88903475a0afa81e73", func := "loop.example/g01227/laws.FnExactWaveWidth", spec := "fnExactWaveWidth", unfollowed := true, recurses := true, plainKeys := false, apart := false }
def FnExactWaveWidthSaid : Prop := fnExactWaveWidthRow.holds Try.pinned (OpenSpec.ofChange fnExactWaveWidthSpec)

/-- ITS FALSE NEIGHBOUR: 'it returns false'. Refute it at one input. -/
def fnExactWaveWidthWrong : ChangeSpec := { name := "fnExactWaveWidth", fn := fun _ => fun
  | [d1, d2, d3] => { results := [.lit (.bool false)], args := [d1, d2, d3] }
  | _ => none }
def FnExactWaveWidthWrongFalsely : Prop := fnExactWaveWidthRow.holds Try.pinned (OpenSpec.ofChange fnExactWaveWidthWrong)

/-- 'laws.FnExactSoundPlan': WHATEVER THE INPUT: true; the input reads as it did. -/
def fnExactSoundPlanSpec : ChangeSpec := { name := "fnExactSoundPlan", fn := fun _ => fun
  | [d1, d2] => { results := [.lit (.bool true)], args := [d1, d2] }
  | _ => none }
def fnExactSoundPlanRow : OpenClaim := { program := "ytkaghfoaicbngab", sum := "6023321f5a8b356acd2cba31a6e3149e6c429b88eae48a88903475a0afa81e73", func := "loop.example/g01227/laws.FnExactSoundPlan", spec := "fnExactSoundPlan", unfollowed := true, recurses := true, plainKeys := false, apart := false }
def FnExactSoundPlanSaid : Prop := fnExactSoundPlanRow.holds Try.pinned (OpenSpec.ofChange fnExactSoundPlanSpec)

/-- ITS FALSE NEIGHBOUR: 'it returns false'. Refute it at one input. -/
def fnExactSoundPlanWrong : ChangeSpec := { name := "fnExactSoundPlan", fn := fun _ => fun
  | [d1, d2] => { results := [.lit (.bool false)], args := [d1, d2] }
  | _ => none }
def FnExactSoundPlanWrongFalsely : Prop := fnExactSoundPlanRow.holds Try.pinned (OpenSpec.ofChange fnExactSoundPlanWrong)

/-- 'laws.FnExactMiddleCount': WHATEVER THE INPUT: true; the input reads as it did. -/
def fnExactMiddleCountSpec : ChangeSpec := { name := "fnExactMiddleCount", fn := fun _ => fun
  | [d] => { results := [.lit (.bool true)], args := [d] }
  | _ => none }
def fnExactMiddleCountRow : OpenClaim := { program := "ytkaghfoaicbngab", sum := "6023321f5a8b356acd2cba31a6e3149e6c429b88eae48a88903475a0afa81e73", func := "loop.example/g01227/laws.FnExactMiddleCount", spec := "fnExactMiddleCount", recurses := true, plainKeys := false, apart := false }
def FnExactMiddleCountSaid : Prop := fnExactMiddleCountRow.holds Try.pinned (OpenSpec.ofChange fnExactMiddleCountSpec)

/-- ITS FALSE NEIGHBOUR: 'it returns false'. Refute it at one input. -/
def fnExactMiddleCountWrong : ChangeSpec := { name := "fnExactMiddleCount", fn := fun _ => fun
  | [d] => { results := [.lit (.bool false)], args := [d] }
  | _ => none }
def FnExactMiddleCountWrongFalsely : Prop := fnExactMiddleCountRow.holds Try.pinned (OpenSpec.ofChange fnExactMiddleCountWrong)

/-- 'laws.FnExactValidCentre': WHATEVER THE INPUT: true; the input reads as it did. -/
def fnExactValidCentreSpec : ChangeSpec := { name := "fnExactValidCentre", fn := fun _ => fun
  | [d] => { results := [.lit (.bool true)], args := [d] }
  | _ => none }
def fnExactValidCentreRow : OpenClaim := { program := "ytkaghfoaicbngab", sum := "6023321f5a8b356acd2cba31a6e3149e6c429b88eae48a88903475a0afa81e73", func := "loop.example/g01227/laws.FnExactValidCentre", spec := "fnExactValidCentre", plainKeys := false, apart := false }
def FnExactValidCentreSaid : Prop := fnExactValidCentreRow.holds Try.pinned (OpenSpec.ofChange fnExactValidCentreSpec)

/-- ITS FALSE NEIGHBOUR: 'it returns false'. Refute it at one input. -/
def fnExactValidCentreWrong : ChangeSpec := { name := "fnExactValidCentre", fn := fun _ => fun
  | [d] => { results := [.lit (.bool false)], args := [d] }
  | _ => none }
def FnExactValidCentreWrongFalsely : Prop := fnExactValidCentreRow.holds Try.pinned (OpenSpec.ofChange fnExactValidCentreWrong)

/-- 'laws.FnExactValidDeed': WHATEVER THE INPUT: true; the input reads as it did. -/
def fnExactValidDeedSpec : ChangeSpec := { name := "fnExactValidDeed", fn := fun _ => fun
  | [d] => { results := [.lit (.bool true)], args := [d] }
  | _ => none }
def fnExactValidDeedRow : OpenClaim := { program := "ytkaghfoaicbngab", sum := "6023321f5a8b356acd2cba31a6e3149e6c429b88eae48a88903475a0afa81e73", func := "loop.example/g01227/laws.FnExactValidDeed", spec := "fnExactValidDeed", plainKeys := false, apart := false }
def FnExactValidDeedSaid : Prop := fnExactValidDeedRow.holds Try.pinned (OpenSpec.ofChange fnExactValidDeedSpec)

/-- ITS FALSE NEIGHBOUR: 'it returns false'. Refute it at one input. -/
def fnExactValidDeedWrong : ChangeSpec := { name := "fnExactValidDeed", fn := fun _ => fun
  | [d] => { results := [.lit (.bool false)], args := [d] }
  | _ => none }
def FnExactValidDeedWrongFalsely : Prop := fnExactValidDeedRow.holds Try.pinned (OpenSpec.ofChange fnExactValidDeedWrong)

/- THE SECOND FORM. 'bulk': how many values and letters a reading holds, each counted each time it is reached (what is shared counts as often as it is met; a slice's spare places count too). A statement '..UptoSaid' is the law's where the arguments, and the package variables that the reading takes, are together of bulk at most 1048576: NARROWER than '..Said'. Prove '..Said' where nothing that the law and all that it calls make is longer than what came in: it says more and counts as full. Else prove '..UptoSaid'. A law counts once. -/
mutual
def uptoBulk {H : Type} : DataW H → Nat
  | .lit (.string bytes) => bytes.length + 1
  | .lit _ => 1
  | .nil => 1
  | .ptr d => uptoBulk d + 1
  | .slice elems spare => uptoBulkAll elems + uptoBulkAll spare + 1
  | .agg parts => uptoBulkAll parts + 1
  | .iface _ d => uptoBulk d + 1
  | .map entries => uptoBulkEntries entries + 1
  | .held _ => 1
def uptoBulkAll {H : Type} : List (DataW H) → Nat
  | [] => 0
  | d :: r => uptoBulk d + uptoBulkAll r
def uptoBulkEntries {H : Type} : List (Lit × DataW H) → Nat
  | [] => 0
  | x :: r => uptoBulkEntry x + uptoBulkEntries r
def uptoBulkEntry {H : Type} : Lit × DataW H → Nat
  | (.string bytes, d) => bytes.length + uptoBulk d + 1
  | (_, d) => uptoBulk d + 1
 end
def uptoSmall : (H : Type) → List (DataW H) → Bool := fun _ ds => decide (uptoBulkAll ds ≤ 1048576)
def OpenSpec.upto (s : _root_.Go.ChangeSpec) : _root_.Go.OpenSpec := { _root_.Go.OpenSpec.ofChange s with cond := some uptoSmall }

/-- 'laws.FnExactWaveOf', WHERE WHAT IT READS IS OF BULK AT MOST 1048576: true; the input reads as it did. -/
def fnExactWaveOfUptoRow : OpenClaim := { program := "ytkaghfoaicbngab", sum := "6023321f5a8b356acd2cba31a6e3149e6c429b88eae48a88903475a0afa81e73", func := "loop.example/g01227/laws.FnExactWaveOf", spec := "fnExactWaveOf", unfollowed := true, recurses := true, plainKeys := false, apart := false, narrowed := true }
def FnExactWaveOfUptoSaid : Prop := fnExactWaveOfUptoRow.holds Try.pinned (OpenSpec.upto fnExactWaveOfSpec)

/-- 'laws.FnExactWaveWidth', WHERE WHAT IT READS IS OF BULK AT MOST 1048576: true; the input reads as it did. -/
def fnExactWaveWidthUptoRow : OpenClaim := { program := "ytkaghfoaicbngab", sum := "6023321f5a8b356acd2cba31a6e3149e6c429b88eae48a88903475a0afa81e73", func := "loop.example/g01227/laws.FnExactWaveWidth", spec := "fnExactWaveWidth", unfollowed := true, recurses := true, plainKeys := false, apart := false, narrowed := true }
def FnExactWaveWidthUptoSaid : Prop := fnExactWaveWidthUptoRow.holds Try.pinned (OpenSpec.upto fnExactWaveWidthSpec)

/-- 'laws.FnExactSoundPlan', WHERE WHAT IT READS IS OF BULK AT MOST 1048576: true; the input reads as it did. -/
def fnExactSoundPlanUptoRow : OpenClaim := { program := "ytkaghfoaicbngab", sum := "6023321f5a8b356acd2cba31a6e3149e6c429b88eae48a88903475a0afa81e73", func := "loop.example/g01227/laws.FnExactSoundPlan", spec := "fnExactSoundPlan", unfollowed := true, recurses := true, plainKeys := false, apart := false, narrowed := true }
def FnExactSoundPlanUptoSaid : Prop := fnExactSoundPlanUptoRow.holds Try.pinned (OpenSpec.upto fnExactSoundPlanSpec)

/-- 'laws.FnExactMiddleCount', WHERE WHAT IT READS IS OF BULK AT MOST 1048576: true; the input reads as it did. -/
def fnExactMiddleCountUptoRow : OpenClaim := { program := "ytkaghfoaicbngab", sum := "6023321f5a8b356acd2cba31a6e3149e6c429b88eae48a88903475a0afa81e73", func := "loop.example/g01227/laws.FnExactMiddleCount", spec := "fnExactMiddleCount", recurses := true, plainKeys := false, apart := false, narrowed := true }
def FnExactMiddleCountUptoSaid : Prop := fnExactMiddleCountUptoRow.holds Try.pinned (OpenSpec.upto fnExactMiddleCountSpec)

/-- 'laws.FnExactValidCentre', WHERE WHAT IT READS IS OF BULK AT MOST 1048576: true; the input reads as it did. -/
def fnExactValidCentreUptoRow : OpenClaim := { program := "ytkaghfoaicbngab", sum := "6023321f5a8b356acd2cba31a6e3149e6c429b88eae48a88903475a0afa81e73", func := "loop.example/g01227/laws.FnExactValidCentre", spec := "fnExactValidCentre", plainKeys := false, apart := false, narrowed := true }
def FnExactValidCentreUptoSaid : Prop := fnExactValidCentreUptoRow.holds Try.pinned (OpenSpec.upto fnExactValidCentreSpec)

/-- 'laws.FnExactValidDeed', WHERE WHAT IT READS IS OF BULK AT MOST 1048576: true; the input reads as it did. -/
def fnExactValidDeedUptoRow : OpenClaim := { program := "ytkaghfoaicbngab", sum := "6023321f5a8b356acd2cba31a6e3149e6c429b88eae48a88903475a0afa81e73", func := "loop.example/g01227/laws.FnExactValidDeed", spec := "fnExactValidDeed", plainKeys := false, apart := false, narrowed := true }
def FnExactValidDeedUptoSaid : Prop := fnExactValidDeedUptoRow.holds Try.pinned (OpenSpec.upto fnExactValidDeedSpec)

end Rows
end Go.Proofs.Ytkaghfoaicbngab
