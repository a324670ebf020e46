/-
  No cell of these rows narrows 'for every input' (looked for: loops, veiled, ifaces, maps, wideKeys, modest, calm, conditions, laid).
  DERIVED. THE GIVEN ROWS OF THIS SEAT. 12 by the template 'for every input the law returns true; each argument reads behind the call as it read before'; 0 by the template 'total and deterministic' (their statements: YtkhnhbmnmciiaaaTotals.lean).
  GIVEN WITH THE SEED: the statements are not yours to turn. If you find one false, say at which input.
  Laid BY PROGRAM, IN A SANDBOX (cutbox-rows.mjs): the forced cells as the released guide's own fill.sh prints them over the translation aa9a6db268d09b24… (all of the seat's roots in one cut). By AI agents, Wed Nov 11 2026. No macro, syntax, notation, axiom, sorry.
-/
import Derived.Test.YtkhnhbmnmciiaaaChecked
import GoSem.Claim
import GoSem.ClaimJoined
import GoSem.ClaimMapViews
import Derived.JoinedTies
import Derived.KernelRfl
namespace Go.Proofs.Ytkhnhbmnmciiaaa
/- THE CELL 'sum', in the pinned program and in every row, IS THE sha256 OF THE DUMP (.gsa) THAT YtkhnhbmnmciiaaaProg.lean LOADS. Nothing in Lean hashes anything: it is a label: what it is worth is what the hold of that sum in a sandbox is worth. -/
noncomputable def Try.pinned : Pinned := { name := "ytkhnhbmnmciiaaa", sum := "aa9a6db268d09b249df069ea972a40944026b14aaedb337cac21928c557ae405", checked := Try.checked }
namespace Rows
def none {H : Type} : Left H := { results := [], args := [] }

/-- 'laws.FnExactValidTable': WHATEVER THE INPUT: true; the input reads as it did. -/
def fnExactValidTableSpec : ChangeSpec := { name := "fnExactValidTable", fn := fun _ => fun
  | [d] => { results := [.lit (.bool true)], args := [d] }
  | _ => none }
def fnExactValidTableRow : OpenClaim := { program := "ytkhnhbmnmciiaaa", sum := "aa9a6db268d09b249df069ea972a40944026b14aaedb337cac21928c557ae405", func := "loop.example/g01227/laws.FnExactValidTable", spec := "fnExactValidTable", plainKeys := false, apart := false }
def FnExactValidTableSaid : Prop := fnExactValidTableRow.holds Try.pinned (OpenSpec.ofChange fnExactValidTableSpec)

/-- ITS FALSE NEIGHBOUR: 'it returns false'. Refute it at one input. -/
def fnExactValidTableWrong : ChangeSpec := { name := "fnExactValidTable", fn := fun _ => fun
  | [d] => { results := [.lit (.bool false)], args := [d] }
  | _ => none }
def FnExactValidTableWrongFalsely : Prop := fnExactValidTableRow.holds Try.pinned (OpenSpec.ofChange fnExactValidTableWrong)

/-- 'laws.FnExactCrossTable': WHATEVER THE INPUT: true; the input reads as it did. -/
def fnExactCrossTableSpec : ChangeSpec := { name := "fnExactCrossTable", fn := fun _ => fun
  | [d1, d2, d3] => { results := [.lit (.bool true)], args := [d1, d2, d3] }
  | _ => none }
def fnExactCrossTableRow : OpenClaim := { program := "ytkhnhbmnmciiaaa", sum := "aa9a6db268d09b249df069ea972a40944026b14aaedb337cac21928c557ae405", func := "loop.example/g01227/laws.FnExactCrossTable", spec := "fnExactCrossTable", plainKeys := false, apart := false }
def FnExactCrossTableSaid : Prop := fnExactCrossTableRow.holds Try.pinned (OpenSpec.ofChange fnExactCrossTableSpec)

/-- ITS FALSE NEIGHBOUR: 'it returns false'. Refute it at one input. -/
def fnExactCrossTableWrong : ChangeSpec := { name := "fnExactCrossTable", fn := fun _ => fun
  | [d1, d2, d3] => { results := [.lit (.bool false)], args := [d1, d2, d3] }
  | _ => none }
def FnExactCrossTableWrongFalsely : Prop := fnExactCrossTableRow.holds Try.pinned (OpenSpec.ofChange fnExactCrossTableWrong)

/-- 'laws.FnExactIsClear': WHATEVER THE INPUT: true; the input reads as it did. -/
def fnExactIsClearSpec : ChangeSpec := { name := "fnExactIsClear", fn := fun _ => fun
  | [d1, d2] => { results := [.lit (.bool true)], args := [d1, d2] }
  | _ => none }
def fnExactIsClearRow : OpenClaim := { program := "ytkhnhbmnmciiaaa", sum := "aa9a6db268d09b249df069ea972a40944026b14aaedb337cac21928c557ae405", func := "loop.example/g01227/laws.FnExactIsClear", spec := "fnExactIsClear", plainKeys := false, apart := false }
def FnExactIsClearSaid : Prop := fnExactIsClearRow.holds Try.pinned (OpenSpec.ofChange fnExactIsClearSpec)

/-- ITS FALSE NEIGHBOUR: 'it returns false'. Refute it at one input. -/
def fnExactIsClearWrong : ChangeSpec := { name := "fnExactIsClear", fn := fun _ => fun
  | [d1, d2] => { results := [.lit (.bool false)], args := [d1, d2] }
  | _ => none }
def FnExactIsClearWrongFalsely : Prop := fnExactIsClearRow.holds Try.pinned (OpenSpec.ofChange fnExactIsClearWrong)

/-- 'laws.FnExactFirstConflict': WHATEVER THE INPUT: true; the input reads as it did. -/
def fnExactFirstConflictSpec : ChangeSpec := { name := "fnExactFirstConflict", fn := fun _ => fun
  | [d1, d2] => { results := [.lit (.bool true)], args := [d1, d2] }
  | _ => none }
def fnExactFirstConflictRow : OpenClaim := { program := "ytkhnhbmnmciiaaa", sum := "aa9a6db268d09b249df069ea972a40944026b14aaedb337cac21928c557ae405", func := "loop.example/g01227/laws.FnExactFirstConflict", spec := "fnExactFirstConflict", plainKeys := false, apart := false }
def FnExactFirstConflictSaid : Prop := fnExactFirstConflictRow.holds Try.pinned (OpenSpec.ofChange fnExactFirstConflictSpec)

/-- ITS FALSE NEIGHBOUR: 'it returns false'. Refute it at one input. -/
def fnExactFirstConflictWrong : ChangeSpec := { name := "fnExactFirstConflict", fn := fun _ => fun
  | [d1, d2] => { results := [.lit (.bool false)], args := [d1, d2] }
  | _ => none }
def FnExactFirstConflictWrongFalsely : Prop := fnExactFirstConflictRow.holds Try.pinned (OpenSpec.ofChange fnExactFirstConflictWrong)

/-- 'laws.FnExactNumberOfPhase': WHATEVER THE INPUT: true; the input reads as it did. -/
def fnExactNumberOfPhaseSpec : ChangeSpec := { name := "fnExactNumberOfPhase", fn := fun _ => fun
  | [d] => { results := [.lit (.bool true)], args := [d] }
  | _ => none }
def fnExactNumberOfPhaseRow : OpenClaim := { program := "ytkhnhbmnmciiaaa", sum := "aa9a6db268d09b249df069ea972a40944026b14aaedb337cac21928c557ae405", func := "loop.example/g01227/laws.FnExactNumberOfPhase", spec := "fnExactNumberOfPhase", plainKeys := false, apart := false }
def FnExactNumberOfPhaseSaid : Prop := fnExactNumberOfPhaseRow.holds Try.pinned (OpenSpec.ofChange fnExactNumberOfPhaseSpec)

/-- ITS FALSE NEIGHBOUR: 'it returns false'. Refute it at one input. -/
def fnExactNumberOfPhaseWrong : ChangeSpec := { name := "fnExactNumberOfPhase", fn := fun _ => fun
  | [d] => { results := [.lit (.bool false)], args := [d] }
  | _ => none }
def FnExactNumberOfPhaseWrongFalsely : Prop := fnExactNumberOfPhaseRow.holds Try.pinned (OpenSpec.ofChange fnExactNumberOfPhaseWrong)

/-- 'laws.FnExactPhaseOf': WHATEVER THE INPUT: true; the input reads as it did. -/
def fnExactPhaseOfSpec : ChangeSpec := { name := "fnExactPhaseOf", fn := fun _ => fun
  | [d] => { results := [.lit (.bool true)], args := [d] }
  | _ => none }
def fnExactPhaseOfRow : OpenClaim := { program := "ytkhnhbmnmciiaaa", sum := "aa9a6db268d09b249df069ea972a40944026b14aaedb337cac21928c557ae405", func := "loop.example/g01227/laws.FnExactPhaseOf", spec := "fnExactPhaseOf", plainKeys := false, apart := false }
def FnExactPhaseOfSaid : Prop := fnExactPhaseOfRow.holds Try.pinned (OpenSpec.ofChange fnExactPhaseOfSpec)

/-- ITS FALSE NEIGHBOUR: 'it returns false'. Refute it at one input. -/
def fnExactPhaseOfWrong : ChangeSpec := { name := "fnExactPhaseOf", fn := fun _ => fun
  | [d] => { results := [.lit (.bool false)], args := [d] }
  | _ => none }
def FnExactPhaseOfWrongFalsely : Prop := fnExactPhaseOfRow.holds Try.pinned (OpenSpec.ofChange fnExactPhaseOfWrong)

/-- 'laws.FnExactGreatestPhases': WHATEVER THE INPUT: true; the input reads as it did. -/
def fnExactGreatestPhasesSpec : ChangeSpec := { name := "fnExactGreatestPhases", fn := fun _ => fun
  | [d] => { results := [.lit (.bool true)], args := [d] }
  | _ => none }
def fnExactGreatestPhasesRow : OpenClaim := { program := "ytkhnhbmnmciiaaa", sum := "aa9a6db268d09b249df069ea972a40944026b14aaedb337cac21928c557ae405", func := "loop.example/g01227/laws.FnExactGreatestPhases", spec := "fnExactGreatestPhases", unfollowed := true, recurses := true, plainKeys := false, apart := false }
def FnExactGreatestPhasesSaid : Prop := fnExactGreatestPhasesRow.holds Try.pinned (OpenSpec.ofChange fnExactGreatestPhasesSpec)

/-- ITS FALSE NEIGHBOUR: 'it returns false'. Refute it at one input. -/
def fnExactGreatestPhasesWrong : ChangeSpec := { name := "fnExactGreatestPhases", fn := fun _ => fun
  | [d] => { results := [.lit (.bool false)], args := [d] }
  | _ => none }
def FnExactGreatestPhasesWrongFalsely : Prop := fnExactGreatestPhasesRow.holds Try.pinned (OpenSpec.ofChange fnExactGreatestPhasesWrong)

/-- 'laws.FnExactFewestPhases': WHATEVER THE INPUT: true; the input reads as it did. -/
def fnExactFewestPhasesSpec : ChangeSpec := { name := "fnExactFewestPhases", fn := fun _ => fun
  | [d1, d2] => { results := [.lit (.bool true)], args := [d1, d2] }
  | _ => none }
def fnExactFewestPhasesRow : OpenClaim := { program := "ytkhnhbmnmciiaaa", sum := "aa9a6db268d09b249df069ea972a40944026b14aaedb337cac21928c557ae405", func := "loop.example/g01227/laws.FnExactFewestPhases", spec := "fnExactFewestPhases", unfollowed := true, recurses := true, plainKeys := false, apart := false }
def FnExactFewestPhasesSaid : Prop := fnExactFewestPhasesRow.holds Try.pinned (OpenSpec.ofChange fnExactFewestPhasesSpec)

/-- ITS FALSE NEIGHBOUR: 'it returns false'. Refute it at one input. -/
def fnExactFewestPhasesWrong : ChangeSpec := { name := "fnExactFewestPhases", fn := fun _ => fun
  | [d1, d2] => { results := [.lit (.bool false)], args := [d1, d2] }
  | _ => none }
def FnExactFewestPhasesWrongFalsely : Prop := fnExactFewestPhasesRow.holds Try.pinned (OpenSpec.ofChange fnExactFewestPhasesWrong)

/-- 'laws.FnExactSoundPlan': WHATEVER THE INPUT: true; the input reads as it did. -/
def fnExactSoundPlanSpec : ChangeSpec := { name := "fnExactSoundPlan", fn := fun _ => fun
  | [d1, d2] => { results := [.lit (.bool true)], args := [d1, d2] }
  | _ => none }
def fnExactSoundPlanRow : OpenClaim := { program := "ytkhnhbmnmciiaaa", sum := "aa9a6db268d09b249df069ea972a40944026b14aaedb337cac21928c557ae405", func := "loop.example/g01227/laws.FnExactSoundPlan", spec := "fnExactSoundPlan", unfollowed := true, recurses := true, plainKeys := false, apart := false }
def FnExactSoundPlanSaid : Prop := fnExactSoundPlanRow.holds Try.pinned (OpenSpec.ofChange fnExactSoundPlanSpec)

/-- ITS FALSE NEIGHBOUR: 'it returns false'. Refute it at one input. -/
def fnExactSoundPlanWrong : ChangeSpec := { name := "fnExactSoundPlan", fn := fun _ => fun
  | [d1, d2] => { results := [.lit (.bool false)], args := [d1, d2] }
  | _ => none }
def FnExactSoundPlanWrongFalsely : Prop := fnExactSoundPlanRow.holds Try.pinned (OpenSpec.ofChange fnExactSoundPlanWrong)

/-- 'laws.FnConflicts': WHATEVER THE INPUT: true; the input reads as it did. -/
def fnConflictsSpec : ChangeSpec := { name := "fnConflicts", fn := fun _ => fun
  | [d1, d2] => { results := [.lit (.bool true)], args := [d1, d2] }
  | _ => none }
def fnConflictsRow : OpenClaim := { program := "ytkhnhbmnmciiaaa", sum := "aa9a6db268d09b249df069ea972a40944026b14aaedb337cac21928c557ae405", func := "loop.example/g01227/laws.FnConflicts", spec := "fnConflicts", plainKeys := false, apart := false }
def FnConflictsSaid : Prop := fnConflictsRow.holds Try.pinned (OpenSpec.ofChange fnConflictsSpec)

/-- ITS FALSE NEIGHBOUR: 'it returns false'. Refute it at one input. -/
def fnConflictsWrong : ChangeSpec := { name := "fnConflicts", fn := fun _ => fun
  | [d1, d2] => { results := [.lit (.bool false)], args := [d1, d2] }
  | _ => none }
def FnConflictsWrongFalsely : Prop := fnConflictsRow.holds Try.pinned (OpenSpec.ofChange fnConflictsWrong)

/-- 'laws.FnPhases': WHATEVER THE INPUT: true; the input reads as it did. -/
def fnPhasesSpec : ChangeSpec := { name := "fnPhases", fn := fun _ => fun
  | [d1, d2] => { results := [.lit (.bool true)], args := [d1, d2] }
  | _ => none }
def fnPhasesRow : OpenClaim := { program := "ytkhnhbmnmciiaaa", sum := "aa9a6db268d09b249df069ea972a40944026b14aaedb337cac21928c557ae405", func := "loop.example/g01227/laws.FnPhases", spec := "fnPhases", unfollowed := true, recurses := true, plainKeys := false, apart := false }
def FnPhasesSaid : Prop := fnPhasesRow.holds Try.pinned (OpenSpec.ofChange fnPhasesSpec)

/-- ITS FALSE NEIGHBOUR: 'it returns false'. Refute it at one input. -/
def fnPhasesWrong : ChangeSpec := { name := "fnPhases", fn := fun _ => fun
  | [d1, d2] => { results := [.lit (.bool false)], args := [d1, d2] }
  | _ => none }
def FnPhasesWrongFalsely : Prop := fnPhasesRow.holds Try.pinned (OpenSpec.ofChange fnPhasesWrong)

/-- 'laws.FnExactSamePlan': WHATEVER THE INPUT: true; the input reads as it did. -/
def fnExactSamePlanSpec : ChangeSpec := { name := "fnExactSamePlan", fn := fun _ => fun
  | [d1, d2] => { results := [.lit (.bool true)], args := [d1, d2] }
  | _ => none }
def fnExactSamePlanRow : OpenClaim := { program := "ytkhnhbmnmciiaaa", sum := "aa9a6db268d09b249df069ea972a40944026b14aaedb337cac21928c557ae405", func := "loop.example/g01227/laws.FnExactSamePlan", spec := "fnExactSamePlan", plainKeys := false, apart := false }
def FnExactSamePlanSaid : Prop := fnExactSamePlanRow.holds Try.pinned (OpenSpec.ofChange fnExactSamePlanSpec)

/-- ITS FALSE NEIGHBOUR: 'it returns false'. Refute it at one input. -/
def fnExactSamePlanWrong : ChangeSpec := { name := "fnExactSamePlan", fn := fun _ => fun
  | [d1, d2] => { results := [.lit (.bool false)], args := [d1, d2] }
  | _ => none }
def FnExactSamePlanWrongFalsely : Prop := fnExactSamePlanRow.holds Try.pinned (OpenSpec.ofChange fnExactSamePlanWrong)

/- THE SECOND FORM. 'bulk': how many values and letters a reading holds, each counted each time it is reached (what is shared counts as often as it is met; a slice's spare places count too). A statement '..UptoSaid' is the law's where the arguments, and the package variables that the reading takes, are together of bulk at most 1048576: NARROWER than '..Said'. Prove '..Said' where nothing that the law and all that it calls make is longer than what came in: it says more and counts as full. Else prove '..UptoSaid'. A law counts once. -/
mutual
def uptoBulk {H : Type} : DataW H → Nat
  | .lit (.string bytes) => bytes.length + 1
  | .lit _ => 1
  | .nil => 1
  | .ptr d => uptoBulk d + 1
  | .slice elems spare => uptoBulkAll elems + uptoBulkAll spare + 1
  | .agg parts => uptoBulkAll parts + 1
  | .iface _ d => uptoBulk d + 1
  | .map entries => uptoBulkEntries entries + 1
  | .held _ => 1
def uptoBulkAll {H : Type} : List (DataW H) → Nat
  | [] => 0
  | d :: r => uptoBulk d + uptoBulkAll r
def uptoBulkEntries {H : Type} : List (Lit × DataW H) → Nat
  | [] => 0
  | x :: r => uptoBulkEntry x + uptoBulkEntries r
def uptoBulkEntry {H : Type} : Lit × DataW H → Nat
  | (.string bytes, d) => bytes.length + uptoBulk d + 1
  | (_, d) => uptoBulk d + 1
 end
def uptoSmall : (H : Type) → List (DataW H) → Bool := fun _ ds => decide (uptoBulkAll ds ≤ 1048576)
def OpenSpec.upto (s : _root_.Go.ChangeSpec) : _root_.Go.OpenSpec := { _root_.Go.OpenSpec.ofChange s with cond := some uptoSmall }

/-- 'laws.FnExactValidTable', WHERE WHAT IT READS IS OF BULK AT MOST 1048576: true; the input reads as it did. -/
def fnExactValidTableUptoRow : OpenClaim := { program := "ytkhnhbmnmciiaaa", sum := "aa9a6db268d09b249df069ea972a40944026b14aaedb337cac21928c557ae405", func := "loop.example/g01227/laws.FnExactValidTable", spec := "fnExactValidTable", plainKeys := false, apart := false, narrowed := true }
def FnExactValidTableUptoSaid : Prop := fnExactValidTableUptoRow.holds Try.pinned (OpenSpec.upto fnExactValidTableSpec)

/-- 'laws.FnExactCrossTable', WHERE WHAT IT READS IS OF BULK AT MOST 1048576: true; the input reads as it did. -/
def fnExactCrossTableUptoRow : OpenClaim := { program := "ytkhnhbmnmciiaaa", sum := "aa9a6db268d09b249df069ea972a40944026b14aaedb337cac21928c557ae405", func := "loop.example/g01227/laws.FnExactCrossTable", spec := "fnExactCrossTable", plainKeys := false, apart := false, narrowed := true }
def FnExactCrossTableUptoSaid : Prop := fnExactCrossTableUptoRow.holds Try.pinned (OpenSpec.upto fnExactCrossTableSpec)

/-- 'laws.FnExactIsClear', WHERE WHAT IT READS IS OF BULK AT MOST 1048576: true; the input reads as it did. -/
def fnExactIsClearUptoRow : OpenClaim := { program := "ytkhnhbmnmciiaaa", sum := "aa9a6db268d09b249df069ea972a40944026b14aaedb337cac21928c557ae405", func := "loop.example/g01227/laws.FnExactIsClear", spec := "fnExactIsClear", plainKeys := false, apart := false, narrowed := true }
def FnExactIsClearUptoSaid : Prop := fnExactIsClearUptoRow.holds Try.pinned (OpenSpec.upto fnExactIsClearSpec)

/-- 'laws.FnExactFirstConflict', WHERE WHAT IT READS IS OF BULK AT MOST 1048576: true; the input reads as it did. -/
def fnExactFirstConflictUptoRow : OpenClaim := { program := "ytkhnhbmnmciiaaa", sum := "aa9a6db268d09b249df069ea972a40944026b14aaedb337cac21928c557ae405", func := "loop.example/g01227/laws.FnExactFirstConflict", spec := "fnExactFirstConflict", plainKeys := false, apart := false, narrowed := true }
def FnExactFirstConflictUptoSaid : Prop := fnExactFirstConflictUptoRow.holds Try.pinned (OpenSpec.upto fnExactFirstConflictSpec)

/-- 'laws.FnExactNumberOfPhase', WHERE WHAT IT READS IS OF BULK AT MOST 1048576: true; the input reads as it did. -/
def fnExactNumberOfPhaseUptoRow : OpenClaim := { program := "ytkhnhbmnmciiaaa", sum := "aa9a6db268d09b249df069ea972a40944026b14aaedb337cac21928c557ae405", func := "loop.example/g01227/laws.FnExactNumberOfPhase", spec := "fnExactNumberOfPhase", plainKeys := false, apart := false, narrowed := true }
def FnExactNumberOfPhaseUptoSaid : Prop := fnExactNumberOfPhaseUptoRow.holds Try.pinned (OpenSpec.upto fnExactNumberOfPhaseSpec)

/-- 'laws.FnExactPhaseOf', WHERE WHAT IT READS IS OF BULK AT MOST 1048576: true; the input reads as it did. -/
def fnExactPhaseOfUptoRow : OpenClaim := { program := "ytkhnhbmnmciiaaa", sum := "aa9a6db268d09b249df069ea972a40944026b14aaedb337cac21928c557ae405", func := "loop.example/g01227/laws.FnExactPhaseOf", spec := "fnExactPhaseOf", plainKeys := false, apart := false, narrowed := true }
def FnExactPhaseOfUptoSaid : Prop := fnExactPhaseOfUptoRow.holds Try.pinned (OpenSpec.upto fnExactPhaseOfSpec)

/-- 'laws.FnExactGreatestPhases', WHERE WHAT IT READS IS OF BULK AT MOST 1048576: true; the input reads as it did. -/
def fnExactGreatestPhasesUptoRow : OpenClaim := { program := "ytkhnhbmnmciiaaa", sum := "aa9a6db268d09b249df069ea972a40944026b14aaedb337cac21928c557ae405", func := "loop.example/g01227/laws.FnExactGreatestPhases", spec := "fnExactGreatestPhases", unfollowed := true, recurses := true, plainKeys := false, apart := false, narrowed := true }
def FnExactGreatestPhasesUptoSaid : Prop := fnExactGreatestPhasesUptoRow.holds Try.pinned (OpenSpec.upto fnExactGreatestPhasesSpec)

/-- 'laws.FnExactFewestPhases', WHERE WHAT IT READS IS OF BULK AT MOST 1048576: true; the input reads as it did. -/
def fnExactFewestPhasesUptoRow : OpenClaim := { program := "ytkhnhbmnmciiaaa", sum := "aa9a6db268d09b249df069ea972a40944026b14aaedb337cac21928c557ae405", func := "loop.example/g01227/laws.FnExactFewestPhases", spec := "fnExactFewestPhases", unfollowed := true, recurses := true, plainKeys := false, apart := false, narrowed := true }
def FnExactFewestPhasesUptoSaid : Prop := fnExactFewestPhasesUptoRow.holds Try.pinned (OpenSpec.upto fnExactFewestPhasesSpec)

/-- 'laws.FnExactSoundPlan', WHERE WHAT IT READS IS OF BULK AT MOST 1048576: true; the input reads as it did. -/
def fnExactSoundPlanUptoRow : OpenClaim := { program := "ytkhnhbmnmciiaaa", sum := "aa9a6db268d09b249df069ea972a40944026b14aaedb337cac21928c557ae405", func := "loop.example/g01227/laws.FnExactSoundPlan", spec := "fnExactSoundPlan", unfollowed := true, recurses := true, plainKeys := false, apart := false, narrowed := true }
def FnExactSoundPlanUptoSaid : Prop := fnExactSoundPlanUptoRow.holds Try.pinned (OpenSpec.upto fnExactSoundPlanSpec)

/-- 'laws.FnConflicts', WHERE WHAT IT READS IS OF BULK AT MOST 1048576: true; the input reads as it did. -/
def fnConflictsUptoRow : OpenClaim := { program := "ytkhnhbmnmciiaaa", sum := "aa9a6db268d09b249df069ea972a40944026b14aaedb337cac21928c557ae405", func := "loop.example/g01227/laws.FnConflicts", spec := "fnConflicts", plainKeys := false, apart := false, narrowed := true }
def FnConflictsUptoSaid : Prop := fnConflictsUptoRow.holds Try.pinned (OpenSpec.upto fnConflictsSpec)

/-- 'laws.FnPhases', WHERE WHAT IT READS IS OF BULK AT MOST 1048576: true; the input reads as it did. -/
def fnPhasesUptoRow : OpenClaim := { program := "ytkhnhbmnmciiaaa", sum := "aa9a6db268d09b249df069ea972a40944026b14aaedb337cac21928c557ae405", func := "loop.example/g01227/laws.FnPhases", spec := "fnPhases", unfollowed := true, recurses := true, plainKeys := false, apart := false, narrowed := true }
def FnPhasesUptoSaid : Prop := fnPhasesUptoRow.holds Try.pinned (OpenSpec.upto fnPhasesSpec)

/-- 'laws.FnExactSamePlan', WHERE WHAT IT READS IS OF BULK AT MOST 1048576: true; the input reads as it did. -/
def fnExactSamePlanUptoRow : OpenClaim := { program := "ytkhnhbmnmciiaaa", sum := "aa9a6db268d09b249df069ea972a40944026b14aaedb337cac21928c557ae405", func := "loop.example/g01227/laws.FnExactSamePlan", spec := "fnExactSamePlan", plainKeys := false, apart := false, narrowed := true }
def FnExactSamePlanUptoSaid : Prop := fnExactSamePlanUptoRow.holds Try.pinned (OpenSpec.upto fnExactSamePlanSpec)

end Rows
end Go.Proofs.Ytkhnhbmnmciiaaa
