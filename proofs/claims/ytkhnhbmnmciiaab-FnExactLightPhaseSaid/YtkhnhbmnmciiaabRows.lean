/-
  No cell of these rows narrows 'for every input' (looked for: loops, veiled, ifaces, maps, wideKeys, modest, calm, conditions, laid).
  DERIVED. THE GIVEN ROWS OF THIS SEAT. 12 by the template 'for every input the law returns true; each argument reads behind the call as it read before'; 0 by the template 'total and deterministic' (their statements: YtkhnhbmnmciiaabTotals.lean).
  GIVEN WITH THE SEED: the statements are not yours to turn. If you find one false, say at which input.
  Laid BY PROGRAM, IN A SANDBOX (cutbox-rows.mjs): the forced cells as the released guide's own fill.sh prints them over the translation be75332c33bf786a… (all of the seat's roots in one cut). By AI agents, Wed Nov 11 2026. No macro, syntax, notation, axiom, sorry.
-/
import Derived.Test.YtkhnhbmnmciiaabChecked
import GoSem.Claim
import GoSem.ClaimJoined
import GoSem.ClaimMapViews
import Derived.JoinedTies
import Derived.KernelRfl
namespace Go.Proofs.Ytkhnhbmnmciiaab
/- THE CELL 'sum', in the pinned program and in every row, IS THE sha256 OF THE DUMP (.gsa) THAT YtkhnhbmnmciiaabProg.lean LOADS. Nothing in Lean hashes anything: it is a label: what it is worth is what the hold of that sum in a sandbox is worth. -/
noncomputable def Try.pinned : Pinned := { name := "ytkhnhbmnmciiaab", sum := "be75332c33bf786a4923bf795590ed0afb8aa6d2b5807c15d32c2b6c6724401d", checked := Try.checked }
namespace Rows
def none {H : Type} : Left H := { results := [], args := [] }

/-- 'laws.FnExactValidPlan': WHATEVER THE INPUT: true; the input reads as it did. -/
def fnExactValidPlanSpec : ChangeSpec := { name := "fnExactValidPlan", fn := fun _ => fun
  | [d] => { results := [.lit (.bool true)], args := [d] }
  | _ => none }
def fnExactValidPlanRow : OpenClaim := { program := "ytkhnhbmnmciiaab", sum := "be75332c33bf786a4923bf795590ed0afb8aa6d2b5807c15d32c2b6c6724401d", func := "loop.example/g01227/laws.FnExactValidPlan", spec := "fnExactValidPlan", apart := false }
def FnExactValidPlanSaid : Prop := fnExactValidPlanRow.holds Try.pinned (OpenSpec.ofChange fnExactValidPlanSpec)

/-- ITS FALSE NEIGHBOUR: 'it returns false'. Refute it at one input. -/
def fnExactValidPlanWrong : ChangeSpec := { name := "fnExactValidPlan", fn := fun _ => fun
  | [d] => { results := [.lit (.bool false)], args := [d] }
  | _ => none }
def FnExactValidPlanWrongFalsely : Prop := fnExactValidPlanRow.holds Try.pinned (OpenSpec.ofChange fnExactValidPlanWrong)

/-- 'laws.FnExactCycleOf': WHATEVER THE INPUT: true; the input reads as it did. -/
def fnExactCycleOfSpec : ChangeSpec := { name := "fnExactCycleOf", fn := fun _ => fun
  | [d] => { results := [.lit (.bool true)], args := [d] }
  | _ => none }
def fnExactCycleOfRow : OpenClaim := { program := "ytkhnhbmnmciiaab", sum := "be75332c33bf786a4923bf795590ed0afb8aa6d2b5807c15d32c2b6c6724401d", func := "loop.example/g01227/laws.FnExactCycleOf", spec := "fnExactCycleOf", unfollowed := true, recurses := true, apart := false }
def FnExactCycleOfSaid : Prop := fnExactCycleOfRow.holds Try.pinned (OpenSpec.ofChange fnExactCycleOfSpec)

/-- ITS FALSE NEIGHBOUR: 'it returns false'. Refute it at one input. -/
def fnExactCycleOfWrong : ChangeSpec := { name := "fnExactCycleOf", fn := fun _ => fun
  | [d] => { results := [.lit (.bool false)], args := [d] }
  | _ => none }
def FnExactCycleOfWrongFalsely : Prop := fnExactCycleOfRow.holds Try.pinned (OpenSpec.ofChange fnExactCycleOfWrong)

/-- 'laws.FnExactGreenAt': WHATEVER THE INPUT: true; the input reads as it did. -/
def fnExactGreenAtSpec : ChangeSpec := { name := "fnExactGreenAt", fn := fun _ => fun
  | [d1, d2] => { results := [.lit (.bool true)], args := [d1, d2] }
  | _ => none }
def fnExactGreenAtRow : OpenClaim := { program := "ytkhnhbmnmciiaab", sum := "be75332c33bf786a4923bf795590ed0afb8aa6d2b5807c15d32c2b6c6724401d", func := "loop.example/g01227/laws.FnExactGreenAt", spec := "fnExactGreenAt", unfollowed := true, recurses := true, apart := false }
def FnExactGreenAtSaid : Prop := fnExactGreenAtRow.holds Try.pinned (OpenSpec.ofChange fnExactGreenAtSpec)

/-- ITS FALSE NEIGHBOUR: 'it returns false'. Refute it at one input. -/
def fnExactGreenAtWrong : ChangeSpec := { name := "fnExactGreenAt", fn := fun _ => fun
  | [d1, d2] => { results := [.lit (.bool false)], args := [d1, d2] }
  | _ => none }
def FnExactGreenAtWrongFalsely : Prop := fnExactGreenAtRow.holds Try.pinned (OpenSpec.ofChange fnExactGreenAtWrong)

/-- 'laws.FnExactGreenTicks': WHATEVER THE INPUT: true; the input reads as it did. -/
def fnExactGreenTicksSpec : ChangeSpec := { name := "fnExactGreenTicks", fn := fun _ => fun
  | [d1, d2] => { results := [.lit (.bool true)], args := [d1, d2] }
  | _ => none }
def fnExactGreenTicksRow : OpenClaim := { program := "ytkhnhbmnmciiaab", sum := "be75332c33bf786a4923bf795590ed0afb8aa6d2b5807c15d32c2b6c6724401d", func := "loop.example/g01227/laws.FnExactGreenTicks", spec := "fnExactGreenTicks", unfollowed := true, recurses := true, apart := false }
def FnExactGreenTicksSaid : Prop := fnExactGreenTicksRow.holds Try.pinned (OpenSpec.ofChange fnExactGreenTicksSpec)

/-- ITS FALSE NEIGHBOUR: 'it returns false'. Refute it at one input. -/
def fnExactGreenTicksWrong : ChangeSpec := { name := "fnExactGreenTicks", fn := fun _ => fun
  | [d1, d2] => { results := [.lit (.bool false)], args := [d1, d2] }
  | _ => none }
def FnExactGreenTicksWrongFalsely : Prop := fnExactGreenTicksRow.holds Try.pinned (OpenSpec.ofChange fnExactGreenTicksWrong)

/-- 'laws.FnExactNextGreen': WHATEVER THE INPUT: true; the input reads as it did. -/
def fnExactNextGreenSpec : ChangeSpec := { name := "fnExactNextGreen", fn := fun _ => fun
  | [d1, d2, d3] => { results := [.lit (.bool true)], args := [d1, d2, d3] }
  | _ => none }
def fnExactNextGreenRow : OpenClaim := { program := "ytkhnhbmnmciiaab", sum := "be75332c33bf786a4923bf795590ed0afb8aa6d2b5807c15d32c2b6c6724401d", func := "loop.example/g01227/laws.FnExactNextGreen", spec := "fnExactNextGreen", unfollowed := true, recurses := true, apart := false }
def FnExactNextGreenSaid : Prop := fnExactNextGreenRow.holds Try.pinned (OpenSpec.ofChange fnExactNextGreenSpec)

/-- ITS FALSE NEIGHBOUR: 'it returns false'. Refute it at one input. -/
def fnExactNextGreenWrong : ChangeSpec := { name := "fnExactNextGreen", fn := fun _ => fun
  | [d1, d2, d3] => { results := [.lit (.bool false)], args := [d1, d2, d3] }
  | _ => none }
def FnExactNextGreenWrongFalsely : Prop := fnExactNextGreenRow.holds Try.pinned (OpenSpec.ofChange fnExactNextGreenWrong)

/-- 'laws.FnExactLongestRed': WHATEVER THE INPUT: true; the input reads as it did. -/
def fnExactLongestRedSpec : ChangeSpec := { name := "fnExactLongestRed", fn := fun _ => fun
  | [d1, d2] => { results := [.lit (.bool true)], args := [d1, d2] }
  | _ => none }
def fnExactLongestRedRow : OpenClaim := { program := "ytkhnhbmnmciiaab", sum := "be75332c33bf786a4923bf795590ed0afb8aa6d2b5807c15d32c2b6c6724401d", func := "loop.example/g01227/laws.FnExactLongestRed", spec := "fnExactLongestRed", unfollowed := true, recurses := true, apart := false }
def FnExactLongestRedSaid : Prop := fnExactLongestRedRow.holds Try.pinned (OpenSpec.ofChange fnExactLongestRedSpec)

/-- ITS FALSE NEIGHBOUR: 'it returns false'. Refute it at one input. -/
def fnExactLongestRedWrong : ChangeSpec := { name := "fnExactLongestRed", fn := fun _ => fun
  | [d1, d2] => { results := [.lit (.bool false)], args := [d1, d2] }
  | _ => none }
def FnExactLongestRedWrongFalsely : Prop := fnExactLongestRedRow.holds Try.pinned (OpenSpec.ofChange fnExactLongestRedWrong)

/-- 'laws.FnExactShiftPlan': WHATEVER THE INPUT: true; the input reads as it did. -/
def fnExactShiftPlanSpec : ChangeSpec := { name := "fnExactShiftPlan", fn := fun _ => fun
  | [d1, d2] => { results := [.lit (.bool true)], args := [d1, d2] }
  | _ => none }
def fnExactShiftPlanRow : OpenClaim := { program := "ytkhnhbmnmciiaab", sum := "be75332c33bf786a4923bf795590ed0afb8aa6d2b5807c15d32c2b6c6724401d", func := "loop.example/g01227/laws.FnExactShiftPlan", spec := "fnExactShiftPlan", unfollowed := true, recurses := true, apart := false }
def FnExactShiftPlanSaid : Prop := fnExactShiftPlanRow.holds Try.pinned (OpenSpec.ofChange fnExactShiftPlanSpec)

/-- ITS FALSE NEIGHBOUR: 'it returns false'. Refute it at one input. -/
def fnExactShiftPlanWrong : ChangeSpec := { name := "fnExactShiftPlan", fn := fun _ => fun
  | [d1, d2] => { results := [.lit (.bool false)], args := [d1, d2] }
  | _ => none }
def FnExactShiftPlanWrongFalsely : Prop := fnExactShiftPlanRow.holds Try.pinned (OpenSpec.ofChange fnExactShiftPlanWrong)

/-- 'laws.FnExactShareGreen': WHATEVER THE INPUT: true; the input reads as it did. -/
def fnExactShareGreenSpec : ChangeSpec := { name := "fnExactShareGreen", fn := fun _ => fun
  | [d1, d2, d3, d4] => { results := [.lit (.bool true)], args := [d1, d2, d3, d4] }
  | _ => none }
def fnExactShareGreenRow : OpenClaim := { program := "ytkhnhbmnmciiaab", sum := "be75332c33bf786a4923bf795590ed0afb8aa6d2b5807c15d32c2b6c6724401d", func := "loop.example/g01227/laws.FnExactShareGreen", spec := "fnExactShareGreen", inPlace := ["math.Float32bits", "math.Float64bits"], unfollowed := true, recurses := true, apart := false }
def FnExactShareGreenSaid : Prop := fnExactShareGreenRow.holds Try.pinned (OpenSpec.ofChange fnExactShareGreenSpec)

/-- ITS FALSE NEIGHBOUR: 'it returns false'. Refute it at one input. -/
def fnExactShareGreenWrong : ChangeSpec := { name := "fnExactShareGreen", fn := fun _ => fun
  | [d1, d2, d3, d4] => { results := [.lit (.bool false)], args := [d1, d2, d3, d4] }
  | _ => none }
def FnExactShareGreenWrongFalsely : Prop := fnExactShareGreenRow.holds Try.pinned (OpenSpec.ofChange fnExactShareGreenWrong)

/-- 'laws.FnExactWaveOf': WHATEVER THE INPUT: true; the input reads as it did. -/
def fnExactWaveOfSpec : ChangeSpec := { name := "fnExactWaveOf", fn := fun _ => fun
  | [d1, d2, d3] => { results := [.lit (.bool true)], args := [d1, d2, d3] }
  | _ => none }
def fnExactWaveOfRow : OpenClaim := { program := "ytkhnhbmnmciiaab", sum := "be75332c33bf786a4923bf795590ed0afb8aa6d2b5807c15d32c2b6c6724401d", func := "loop.example/g01227/laws.FnExactWaveOf", spec := "fnExactWaveOf", unfollowed := true, recurses := true, apart := false }
def FnExactWaveOfSaid : Prop := fnExactWaveOfRow.holds Try.pinned (OpenSpec.ofChange fnExactWaveOfSpec)

/-- ITS FALSE NEIGHBOUR: 'it returns false'. Refute it at one input. -/
def fnExactWaveOfWrong : ChangeSpec := { name := "fnExactWaveOf", fn := fun _ => fun
  | [d1, d2, d3] => { results := [.lit (.bool false)], args := [d1, d2, d3] }
  | _ => none }
def FnExactWaveOfWrongFalsely : Prop := fnExactWaveOfRow.holds Try.pinned (OpenSpec.ofChange fnExactWaveOfWrong)

/-- 'laws.FnExactWaveWidth': WHATEVER THE INPUT: true; the input reads as it did. -/
def fnExactWaveWidthSpec : ChangeSpec := { name := "fnExactWaveWidth", fn := fun _ => fun
  | [d1, d2, d3] => { results := [.lit (.bool true)], args := [d1, d2, d3] }
  | _ => none }
def fnExactWaveWidthRow : OpenClaim := { program := "ytkhnhbmnmciiaab", sum := "be75332c33bf786a4923bf795590ed0afb8aa6d2b5807c15d32c2b6c6724401d", func := "loop.example/g01227/laws.FnExactWaveWidth", spec := "fnExactWaveWidth", unfollowed := true, recurses := true, apart := false }
def FnExactWaveWidthSaid : Prop := fnExactWaveWidthRow.holds Try.pinned (OpenSpec.ofChange fnExactWaveWidthSpec)

/-- ITS FALSE NEIGHBOUR: 'it returns false'. Refute it at one input. -/
def fnExactWaveWidthWrong : ChangeSpec := { name := "fnExactWaveWidth", fn := fun _ => fun
  | [d1, d2, d3] => { results := [.lit (.bool false)], args := [d1, d2, d3] }
  | _ => none }
def FnExactWaveWidthWrongFalsely : Prop := fnExactWaveWidthRow.holds Try.pinned (OpenSpec.ofChange fnExactWaveWidthWrong)

/-- 'laws.FnExactLightPhase': WHATEVER THE INPUT: true; the input reads as it did. -/
def fnExactLightPhaseSpec : ChangeSpec := { name := "fnExactLightPhase", fn := fun _ => fun
  | [d1, d2] => { results := [.lit (.bool true)], args := [d1, d2] }
  | _ => none }
def fnExactLightPhaseRow : OpenClaim := { program := "ytkhnhbmnmciiaab", sum := "be75332c33bf786a4923bf795590ed0afb8aa6d2b5807c15d32c2b6c6724401d", func := "loop.example/g01227/laws.FnExactLightPhase", spec := "fnExactLightPhase", unfollowed := true, recurses := true, apart := false }
def FnExactLightPhaseSaid : Prop := fnExactLightPhaseRow.holds Try.pinned (OpenSpec.ofChange fnExactLightPhaseSpec)

/-- ITS FALSE NEIGHBOUR: 'it returns false'. Refute it at one input. -/
def fnExactLightPhaseWrong : ChangeSpec := { name := "fnExactLightPhase", fn := fun _ => fun
  | [d1, d2] => { results := [.lit (.bool false)], args := [d1, d2] }
  | _ => none }
def FnExactLightPhaseWrongFalsely : Prop := fnExactLightPhaseRow.holds Try.pinned (OpenSpec.ofChange fnExactLightPhaseWrong)

/-- 'laws.FnExactStepLight': WHATEVER THE INPUT: true; the input reads as it did. -/
def fnExactStepLightSpec : ChangeSpec := { name := "fnExactStepLight", fn := fun _ => fun
  | [d1, d2, d3, d4, d5] => { results := [.lit (.bool true)], args := [d1, d2, d3, d4, d5] }
  | _ => none }
def fnExactStepLightRow : OpenClaim := { program := "ytkhnhbmnmciiaab", sum := "be75332c33bf786a4923bf795590ed0afb8aa6d2b5807c15d32c2b6c6724401d", func := "loop.example/g01227/laws.FnExactStepLight", spec := "fnExactStepLight", unfollowed := true, recurses := true, apart := false }
def FnExactStepLightSaid : Prop := fnExactStepLightRow.holds Try.pinned (OpenSpec.ofChange fnExactStepLightSpec)

/-- ITS FALSE NEIGHBOUR: 'it returns false'. Refute it at one input. -/
def fnExactStepLightWrong : ChangeSpec := { name := "fnExactStepLight", fn := fun _ => fun
  | [d1, d2, d3, d4, d5] => { results := [.lit (.bool false)], args := [d1, d2, d3, d4, d5] }
  | _ => none }
def FnExactStepLightWrongFalsely : Prop := fnExactStepLightRow.holds Try.pinned (OpenSpec.ofChange fnExactStepLightWrong)

/- THE SECOND FORM. 'bulk': how many values and letters a reading holds, each counted each time it is reached (what is shared counts as often as it is met; a slice's spare places count too). A statement '..UptoSaid' is the law's where the arguments, and the package variables that the reading takes, are together of bulk at most 1048576: NARROWER than '..Said'. Prove '..Said' where nothing that the law and all that it calls make is longer than what came in: it says more and counts as full. Else prove '..UptoSaid'. A law counts once. -/
mutual
def uptoBulk {H : Type} : DataW H → Nat
  | .lit (.string bytes) => bytes.length + 1
  | .lit _ => 1
  | .nil => 1
  | .ptr d => uptoBulk d + 1
  | .slice elems spare => uptoBulkAll elems + uptoBulkAll spare + 1
  | .agg parts => uptoBulkAll parts + 1
  | .iface _ d => uptoBulk d + 1
  | .map entries => uptoBulkEntries entries + 1
  | .held _ => 1
def uptoBulkAll {H : Type} : List (DataW H) → Nat
  | [] => 0
  | d :: r => uptoBulk d + uptoBulkAll r
def uptoBulkEntries {H : Type} : List (Lit × DataW H) → Nat
  | [] => 0
  | x :: r => uptoBulkEntry x + uptoBulkEntries r
def uptoBulkEntry {H : Type} : Lit × DataW H → Nat
  | (.string bytes, d) => bytes.length + uptoBulk d + 1
  | (_, d) => uptoBulk d + 1
 end
def uptoSmall : (H : Type) → List (DataW H) → Bool := fun _ ds => decide (uptoBulkAll ds ≤ 1048576)
def OpenSpec.upto (s : _root_.Go.ChangeSpec) : _root_.Go.OpenSpec := { _root_.Go.OpenSpec.ofChange s with cond := some uptoSmall }

/-- 'laws.FnExactValidPlan', WHERE WHAT IT READS IS OF BULK AT MOST 1048576: true; the input reads as it did. -/
def fnExactValidPlanUptoRow : OpenClaim := { program := "ytkhnhbmnmciiaab", sum := "be75332c33bf786a4923bf795590ed0afb8aa6d2b5807c15d32c2b6c6724401d", func := "loop.example/g01227/laws.FnExactValidPlan", spec := "fnExactValidPlan", apart := false, narrowed := true }
def FnExactValidPlanUptoSaid : Prop := fnExactValidPlanUptoRow.holds Try.pinned (OpenSpec.upto fnExactValidPlanSpec)

/-- 'laws.FnExactCycleOf', WHERE WHAT IT READS IS OF BULK AT MOST 1048576: true; the input reads as it did. -/
def fnExactCycleOfUptoRow : OpenClaim := { program := "ytkhnhbmnmciiaab", sum := "be75332c33bf786a4923bf795590ed0afb8aa6d2b5807c15d32c2b6c6724401d", func := "loop.example/g01227/laws.FnExactCycleOf", spec := "fnExactCycleOf", unfollowed := true, recurses := true, apart := false, narrowed := true }
def FnExactCycleOfUptoSaid : Prop := fnExactCycleOfUptoRow.holds Try.pinned (OpenSpec.upto fnExactCycleOfSpec)

/-- 'laws.FnExactGreenAt', WHERE WHAT IT READS IS OF BULK AT MOST 1048576: true; the input reads as it did. -/
def fnExactGreenAtUptoRow : OpenClaim := { program := "ytkhnhbmnmciiaab", sum := "be75332c33bf786a4923bf795590ed0afb8aa6d2b5807c15d32c2b6c6724401d", func := "loop.example/g01227/laws.FnExactGreenAt", spec := "fnExactGreenAt", unfollowed := true, recurses := true, apart := false, narrowed := true }
def FnExactGreenAtUptoSaid : Prop := fnExactGreenAtUptoRow.holds Try.pinned (OpenSpec.upto fnExactGreenAtSpec)

/-- 'laws.FnExactGreenTicks', WHERE WHAT IT READS IS OF BULK AT MOST 1048576: true; the input reads as it did. -/
def fnExactGreenTicksUptoRow : OpenClaim := { program := "ytkhnhbmnmciiaab", sum := "be75332c33bf786a4923bf795590ed0afb8aa6d2b5807c15d32c2b6c6724401d", func := "loop.example/g01227/laws.FnExactGreenTicks", spec := "fnExactGreenTicks", unfollowed := true, recurses := true, apart := false, narrowed := true }
def FnExactGreenTicksUptoSaid : Prop := fnExactGreenTicksUptoRow.holds Try.pinned (OpenSpec.upto fnExactGreenTicksSpec)

/-- 'laws.FnExactNextGreen', WHERE WHAT IT READS IS OF BULK AT MOST 1048576: true; the input reads as it did. -/
def fnExactNextGreenUptoRow : OpenClaim := { program := "ytkhnhbmnmciiaab", sum := "be75332c33bf786a4923bf795590ed0afb8aa6d2b5807c15d32c2b6c6724401d", func := "loop.example/g01227/laws.FnExactNextGreen", spec := "fnExactNextGreen", unfollowed := true, recurses := true, apart := false, narrowed := true }
def FnExactNextGreenUptoSaid : Prop := fnExactNextGreenUptoRow.holds Try.pinned (OpenSpec.upto fnExactNextGreenSpec)

/-- 'laws.FnExactLongestRed', WHERE WHAT IT READS IS OF BULK AT MOST 1048576: true; the input reads as it did. -/
def fnExactLongestRedUptoRow : OpenClaim := { program := "ytkhnhbmnmciiaab", sum := "be75332c33bf786a4923bf795590ed0afb8aa6d2b5807c15d32c2b6c6724401d", func := "loop.example/g01227/laws.FnExactLongestRed", spec := "fnExactLongestRed", unfollowed := true, recurses := true, apart := false, narrowed := true }
def FnExactLongestRedUptoSaid : Prop := fnExactLongestRedUptoRow.holds Try.pinned (OpenSpec.upto fnExactLongestRedSpec)

/-- 'laws.FnExactShiftPlan', WHERE WHAT IT READS IS OF BULK AT MOST 1048576: true; the input reads as it did. -/
def fnExactShiftPlanUptoRow : OpenClaim := { program := "ytkhnhbmnmciiaab", sum := "be75332c33bf786a4923bf795590ed0afb8aa6d2b5807c15d32c2b6c6724401d", func := "loop.example/g01227/laws.FnExactShiftPlan", spec := "fnExactShiftPlan", unfollowed := true, recurses := true, apart := false, narrowed := true }
def FnExactShiftPlanUptoSaid : Prop := fnExactShiftPlanUptoRow.holds Try.pinned (OpenSpec.upto fnExactShiftPlanSpec)

/-- 'laws.FnExactShareGreen', WHERE WHAT IT READS IS OF BULK AT MOST 1048576: true; the input reads as it did. -/
def fnExactShareGreenUptoRow : OpenClaim := { program := "ytkhnhbmnmciiaab", sum := "be75332c33bf786a4923bf795590ed0afb8aa6d2b5807c15d32c2b6c6724401d", func := "loop.example/g01227/laws.FnExactShareGreen", spec := "fnExactShareGreen", inPlace := ["math.Float32bits", "math.Float64bits"], unfollowed := true, recurses := true, apart := false, narrowed := true }
def FnExactShareGreenUptoSaid : Prop := fnExactShareGreenUptoRow.holds Try.pinned (OpenSpec.upto fnExactShareGreenSpec)

/-- 'laws.FnExactWaveOf', WHERE WHAT IT READS IS OF BULK AT MOST 1048576: true; the input reads as it did. -/
def fnExactWaveOfUptoRow : OpenClaim := { program := "ytkhnhbmnmciiaab", sum := "be75332c33bf786a4923bf795590ed0afb8aa6d2b5807c15d32c2b6c6724401d", func := "loop.example/g01227/laws.FnExactWaveOf", spec := "fnExactWaveOf", unfollowed := true, recurses := true, apart := false, narrowed := true }
def FnExactWaveOfUptoSaid : Prop := fnExactWaveOfUptoRow.holds Try.pinned (OpenSpec.upto fnExactWaveOfSpec)

/-- 'laws.FnExactWaveWidth', WHERE WHAT IT READS IS OF BULK AT MOST 1048576: true; the input reads as it did. -/
def fnExactWaveWidthUptoRow : OpenClaim := { program := "ytkhnhbmnmciiaab", sum := "be75332c33bf786a4923bf795590ed0afb8aa6d2b5807c15d32c2b6c6724401d", func := "loop.example/g01227/laws.FnExactWaveWidth", spec := "fnExactWaveWidth", unfollowed := true, recurses := true, apart := false, narrowed := true }
def FnExactWaveWidthUptoSaid : Prop := fnExactWaveWidthUptoRow.holds Try.pinned (OpenSpec.upto fnExactWaveWidthSpec)

/-- 'laws.FnExactLightPhase', WHERE WHAT IT READS IS OF BULK AT MOST 1048576: true; the input reads as it did. -/
def fnExactLightPhaseUptoRow : OpenClaim := { program := "ytkhnhbmnmciiaab", sum := "be75332c33bf786a4923bf795590ed0afb8aa6d2b5807c15d32c2b6c6724401d", func := "loop.example/g01227/laws.FnExactLightPhase", spec := "fnExactLightPhase", unfollowed := true, recurses := true, apart := false, narrowed := true }
def FnExactLightPhaseUptoSaid : Prop := fnExactLightPhaseUptoRow.holds Try.pinned (OpenSpec.upto fnExactLightPhaseSpec)

/-- 'laws.FnExactStepLight', WHERE WHAT IT READS IS OF BULK AT MOST 1048576: true; the input reads as it did. -/
def fnExactStepLightUptoRow : OpenClaim := { program := "ytkhnhbmnmciiaab", sum := "be75332c33bf786a4923bf795590ed0afb8aa6d2b5807c15d32c2b6c6724401d", func := "loop.example/g01227/laws.FnExactStepLight", spec := "fnExactStepLight", unfollowed := true, recurses := true, apart := false, narrowed := true }
def FnExactStepLightUptoSaid : Prop := fnExactStepLightUptoRow.holds Try.pinned (OpenSpec.upto fnExactStepLightSpec)

end Rows
end Go.Proofs.Ytkhnhbmnmciiaab
