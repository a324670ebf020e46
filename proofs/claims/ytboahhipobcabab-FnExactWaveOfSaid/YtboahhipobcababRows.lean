/-
  No cell of these rows narrows 'for every input' (looked for: loops, veiled, ifaces, maps, wideKeys, modest, calm, conditions, laid).
  DERIVED. THE GIVEN ROWS OF THIS SEAT. 6 by the template 'for every input the law returns true; each argument reads behind the call as it read before'; 0 by the template 'total and deterministic' (their statements: YtboahhipobcababTotals.lean).
  GIVEN WITH THE SEED: the statements are not yours to turn. If you find one false, say at which input.
  Laid BY PROGRAM, IN A SANDBOX (cutbox-rows.mjs): the forced cells as the released guide's own fill.sh prints them over the translation 17bc70893ad429de… (all of the seat's roots in one cut). By AI agents, Wed Nov 11 2026. No macro, syntax, notation, axiom, sorry.
-/
import Derived.Test.YtboahhipobcababChecked
import GoSem.Claim
import GoSem.ClaimJoined
import GoSem.ClaimMapViews
import Derived.JoinedTies
import Derived.KernelRfl
namespace Go.Proofs.Ytboahhipobcabab
/- THE CELL 'sum', in the pinned program and in every row, IS THE sha256 OF THE DUMP (.gsa) THAT YtboahhipobcababProg.lean LOADS. Nothing in Lean hashes anything: it is a label: what it is worth is what the hold of that sum in a sandbox is worth. -/
noncomputable def Try.pinned : Pinned := { name := "ytboahhipobcabab", sum := "17bc70893ad429de7267077de3704542657ed10c2fb65a8bd3476df0f2ea6e03", checked := Try.checked }
namespace Rows
def none {H : Type} : Left H := { results := [], args := [] }

/-- 'laws.FnExactWaveOf': WHATEVER THE INPUT: true; the input reads as it did. -/
def fnExactWaveOfSpec : ChangeSpec := { name := "fnExactWaveOf", fn := fun _ => fun
  | [d1, d2, d3] => { results := [.lit (.bool true)], args := [d1, d2, d3] }
  | _ => none }
def fnExactWaveOfRow : OpenClaim := { program := "ytboahhipobcabab", sum := "17bc70893ad429de7267077de3704542657ed10c2fb65a8bd3476df0f2ea6e03", func := "loop.example/g01227/laws.FnExactWaveOf", spec := "fnExactWaveOf", unfollowed := true, recurses := true, plainKeys := false, apart := false }
def FnExactWaveOfSaid : Prop := fnExactWaveOfRow.holds Try.pinned (OpenSpec.ofChange fnExactWaveOfSpec)

/-- ITS FALSE NEIGHBOUR: 'it returns false'. Refute it at one input. -/
def fnExactWaveOfWrong : ChangeSpec := { name := "fnExactWaveOf", fn := fun _ => fun
  | [d1, d2, d3] => { results := [.lit (.bool false)], args := [d1, d2, d3] }
  | _ => none }
def FnExactWaveOfWrongFalsely : Prop := fnExactWaveOfRow.holds Try.pinned (OpenSpec.ofChange fnExactWaveOfWrong)

/-- 'laws.FnExactShareGreen': WHATEVER THE INPUT: true; the input reads as it did. -/
def fnExactShareGreenSpec : ChangeSpec := { name := "fnExactShareGreen", fn := fun _ => fun
  | [d1, d2, d3, d4] => { results := [.lit (.bool true)], args := [d1, d2, d3, d4] }
  | _ => none }
def fnExactShareGreenRow : OpenClaim := { program := "ytboahhipobcabab", sum := "17bc70893ad429de7267077de3704542657ed10c2fb65a8bd3476df0f2ea6e03", func := "loop.example/g01227/laws.FnExactShareGreen", spec := "fnExactShareGreen", inPlace := ["math.Float32bits", "math.Float64bits"], unfollowed := true, recurses := true, plainKeys := false, apart := false }
def FnExactShareGreenSaid : Prop := fnExactShareGreenRow.holds Try.pinned (OpenSpec.ofChange fnExactShareGreenSpec)

/-- ITS FALSE NEIGHBOUR: 'it returns false'. Refute it at one input. -/
def fnExactShareGreenWrong : ChangeSpec := { name := "fnExactShareGreen", fn := fun _ => fun
  | [d1, d2, d3, d4] => { results := [.lit (.bool false)], args := [d1, d2, d3, d4] }
  | _ => none }
def FnExactShareGreenWrongFalsely : Prop := fnExactShareGreenRow.holds Try.pinned (OpenSpec.ofChange fnExactShareGreenWrong)

/-- 'laws.FnExactMiddleCount': WHATEVER THE INPUT: true; the input reads as it did. -/
def fnExactMiddleCountSpec : ChangeSpec := { name := "fnExactMiddleCount", fn := fun _ => fun
  | [d] => { results := [.lit (.bool true)], args := [d] }
  | _ => none }
def fnExactMiddleCountRow : OpenClaim := { program := "ytboahhipobcabab", sum := "17bc70893ad429de7267077de3704542657ed10c2fb65a8bd3476df0f2ea6e03", func := "loop.example/g01227/laws.FnExactMiddleCount", spec := "fnExactMiddleCount", recurses := true, plainKeys := false, apart := false }
def FnExactMiddleCountSaid : Prop := fnExactMiddleCountRow.holds Try.pinned (OpenSpec.ofChange fnExactMiddleCountSpec)

/-- ITS FALSE NEIGHBOUR: 'it returns false'. Refute it at one input. -/
def fnExactMiddleCountWrong : ChangeSpec := { name := "fnExactMiddleCount", fn := fun _ => fun
  | [d] => { results := [.lit (.bool false)], args := [d] }
  | _ => none }
def FnExactMiddleCountWrongFalsely : Prop := fnExactMiddleCountRow.holds Try.pinned (OpenSpec.ofChange fnExactMiddleCountWrong)

/-- 'laws.FnExactGreatestPhases': WHATEVER THE INPUT: true; the input reads as it did. -/
def fnExactGreatestPhasesSpec : ChangeSpec := { name := "fnExactGreatestPhases", fn := fun _ => fun
  | [d] => { results := [.lit (.bool true)], args := [d] }
  | _ => none }
def fnExactGreatestPhasesRow : OpenClaim := { program := "ytboahhipobcabab", sum := "17bc70893ad429de7267077de3704542657ed10c2fb65a8bd3476df0f2ea6e03", func := "loop.example/g01227/laws.FnExactGreatestPhases", spec := "fnExactGreatestPhases", unfollowed := true, recurses := true, plainKeys := false, apart := false }
def FnExactGreatestPhasesSaid : Prop := fnExactGreatestPhasesRow.holds Try.pinned (OpenSpec.ofChange fnExactGreatestPhasesSpec)

/-- ITS FALSE NEIGHBOUR: 'it returns false'. Refute it at one input. -/
def fnExactGreatestPhasesWrong : ChangeSpec := { name := "fnExactGreatestPhases", fn := fun _ => fun
  | [d] => { results := [.lit (.bool false)], args := [d] }
  | _ => none }
def FnExactGreatestPhasesWrongFalsely : Prop := fnExactGreatestPhasesRow.holds Try.pinned (OpenSpec.ofChange fnExactGreatestPhasesWrong)

/-- 'laws.FnExactFewestPhases': WHATEVER THE INPUT: true; the input reads as it did. -/
def fnExactFewestPhasesSpec : ChangeSpec := { name := "fnExactFewestPhases", fn := fun _ => fun
  | [d1, d2] => { results := [.lit (.bool true)], args := [d1, d2] }
  | _ => none }
def fnExactFewestPhasesRow : OpenClaim := { program := "ytboahhipobcabab", sum := "17bc70893ad429de7267077de3704542657ed10c2fb65a8bd3476df0f2ea6e03", func := "loop.example/g01227/laws.FnExactFewestPhases", spec := "fnExactFewestPhases", unfollowed := true, recurses := true, plainKeys := false, apart := false }
def FnExactFewestPhasesSaid : Prop := fnExactFewestPhasesRow.holds Try.pinned (OpenSpec.ofChange fnExactFewestPhasesSpec)

/-- ITS FALSE NEIGHBOUR: 'it returns false'. Refute it at one input. -/
def fnExactFewestPhasesWrong : ChangeSpec := { name := "fnExactFewestPhases", fn := fun _ => fun
  | [d1, d2] => { results := [.lit (.bool false)], args := [d1, d2] }
  | _ => none }
def FnExactFewestPhasesWrongFalsely : Prop := fnExactFewestPhasesRow.holds Try.pinned (OpenSpec.ofChange fnExactFewestPhasesWrong)

/-- 'laws.FnConflicts': WHATEVER THE INPUT: true; the input reads as it did. -/
def fnConflictsSpec : ChangeSpec := { name := "fnConflicts", fn := fun _ => fun
  | [d1, d2] => { results := [.lit (.bool true)], args := [d1, d2] }
  | _ => none }
def fnConflictsRow : OpenClaim := { program := "ytboahhipobcabab", sum := "17bc70893ad429de7267077de3704542657ed10c2fb65a8bd3476df0f2ea6e03", func := "loop.example/g01227/laws.FnConflicts", spec := "fnConflicts", plainKeys := false, apart := false }
def FnConflictsSaid : Prop := fnConflictsRow.holds Try.pinned (OpenSpec.ofChange fnConflictsSpec)

/-- ITS FALSE NEIGHBOUR: 'it returns false'. Refute it at one input. -/
def fnConflictsWrong : ChangeSpec := { name := "fnConflicts", fn := fun _ => fun
  | [d1, d2] => { results := [.lit (.bool false)], args := [d1, d2] }
  | _ => none }
def FnConflictsWrongFalsely : Prop := fnConflictsRow.holds Try.pinned (OpenSpec.ofChange fnConflictsWrong)

/- THE SECOND FORM. 'bulk': how many values and letters a reading holds, each counted each time it is reached (what is shared counts as often as it is met; a slice's spare places count too). A statement '..UptoSaid' is the law's where the arguments, and the package variables that the reading takes, are together of bulk at most 1048576: NARROWER than '..Said'. Prove '..Said' where nothing that the law and all that it calls make is longer than what came in: it says more and counts as full. Else prove '..UptoSaid'. A law counts once. -/
mutual
def uptoBulk {H : Type} : DataW H → Nat
  | .lit (.string bytes) => bytes.length + 1
  | .lit _ => 1
  | .nil => 1
  | .ptr d => uptoBulk d + 1
  | .slice elems spare => uptoBulkAll elems + uptoBulkAll spare + 1
  | .agg parts => uptoBulkAll parts + 1
  | .iface _ d => uptoBulk d + 1
  | .map entries => uptoBulkEntries entries + 1
  | .held _ => 1
def uptoBulkAll {H : Type} : List (DataW H) → Nat
  | [] => 0
  | d :: r => uptoBulk d + uptoBulkAll r
def uptoBulkEntries {H : Type} : List (Lit × DataW H) → Nat
  | [] => 0
  | x :: r => uptoBulkEntry x + uptoBulkEntries r
def uptoBulkEntry {H : Type} : Lit × DataW H → Nat
  | (.string bytes, d) => bytes.length + uptoBulk d + 1
  | (_, d) => uptoBulk d + 1
 end
def uptoSmall : (H : Type) → List (DataW H) → Bool := fun _ ds => decide (uptoBulkAll ds ≤ 1048576)
def OpenSpec.upto (s : _root_.Go.ChangeSpec) : _root_.Go.OpenSpec := { _root_.Go.OpenSpec.ofChange s with cond := some uptoSmall }

/-- 'laws.FnExactWaveOf', WHERE WHAT IT READS IS OF BULK AT MOST 1048576: true; the input reads as it did. -/
def fnExactWaveOfUptoRow : OpenClaim := { program := "ytboahhipobcabab", sum := "17bc70893ad429de7267077de3704542657ed10c2fb65a8bd3476df0f2ea6e03", func := "loop.example/g01227/laws.FnExactWaveOf", spec := "fnExactWaveOf", unfollowed := true, recurses := true, plainKeys := false, apart := false, narrowed := true }
def FnExactWaveOfUptoSaid : Prop := fnExactWaveOfUptoRow.holds Try.pinned (OpenSpec.upto fnExactWaveOfSpec)

/-- 'laws.FnExactShareGreen', WHERE WHAT IT READS IS OF BULK AT MOST 1048576: true; the input reads as it did. -/
def fnExactShareGreenUptoRow : OpenClaim := { program := "ytboahhipobcabab", sum := "17bc70893ad429de7267077de3704542657ed10c2fb65a8bd3476df0f2ea6e03", func := "loop.example/g01227/laws.FnExactShareGreen", spec := "fnExactShareGreen", inPlace := ["math.Float32bits", "math.Float64bits"], unfollowed := true, recurses := true, plainKeys := false, apart := false, narrowed := true }
def FnExactShareGreenUptoSaid : Prop := fnExactShareGreenUptoRow.holds Try.pinned (OpenSpec.upto fnExactShareGreenSpec)

/-- 'laws.FnExactMiddleCount', WHERE WHAT IT READS IS OF BULK AT MOST 1048576: true; the input reads as it did. -/
def fnExactMiddleCountUptoRow : OpenClaim := { program := "ytboahhipobcabab", sum := "17bc70893ad429de7267077de3704542657ed10c2fb65a8bd3476df0f2ea6e03", func := "loop.example/g01227/laws.FnExactMiddleCount", spec := "fnExactMiddleCount", recurses := true, plainKeys := false, apart := false, narrowed := true }
def FnExactMiddleCountUptoSaid : Prop := fnExactMiddleCountUptoRow.holds Try.pinned (OpenSpec.upto fnExactMiddleCountSpec)

/-- 'laws.FnExactGreatestPhases', WHERE WHAT IT READS IS OF BULK AT MOST 1048576: true; the input reads as it did. -/
def fnExactGreatestPhasesUptoRow : OpenClaim := { program := "ytboahhipobcabab", sum := "17bc70893ad429de7267077de3704542657ed10c2fb65a8bd3476df0f2ea6e03", func := "loop.example/g01227/laws.FnExactGreatestPhases", spec := "fnExactGreatestPhases", unfollowed := true, recurses := true, plainKeys := false, apart := false, narrowed := true }
def FnExactGreatestPhasesUptoSaid : Prop := fnExactGreatestPhasesUptoRow.holds Try.pinned (OpenSpec.upto fnExactGreatestPhasesSpec)

/-- 'laws.FnExactFewestPhases', WHERE WHAT IT READS IS OF BULK AT MOST 1048576: true; the input reads as it did. -/
def fnExactFewestPhasesUptoRow : OpenClaim := { program := "ytboahhipobcabab", sum := "17bc70893ad429de7267077de3704542657ed10c2fb65a8bd3476df0f2ea6e03", func := "loop.example/g01227/laws.FnExactFewestPhases", spec := "fnExactFewestPhases", unfollowed := true, recurses := true, plainKeys := false, apart := false, narrowed := true }
def FnExactFewestPhasesUptoSaid : Prop := fnExactFewestPhasesUptoRow.holds Try.pinned (OpenSpec.upto fnExactFewestPhasesSpec)

/-- 'laws.FnConflicts', WHERE WHAT IT READS IS OF BULK AT MOST 1048576: true; the input reads as it did. -/
def fnConflictsUptoRow : OpenClaim := { program := "ytboahhipobcabab", sum := "17bc70893ad429de7267077de3704542657ed10c2fb65a8bd3476df0f2ea6e03", func := "loop.example/g01227/laws.FnConflicts", spec := "fnConflicts", plainKeys := false, apart := false, narrowed := true }
def FnConflictsUptoSaid : Prop := fnConflictsUptoRow.holds Try.pinned (OpenSpec.upto fnConflictsSpec)

end Rows
end Go.Proofs.Ytboahhipobcabab
