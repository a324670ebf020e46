/-
  No cell of these rows narrows 'for every input' (looked for: loops, veiled, ifaces, maps, wideKeys, modest, calm, conditions, laid).
  DERIVED. THE GIVEN ROWS OF THIS SEAT. 6 by the template 'for every input the law returns true; each argument reads behind the call as it read before'; 0 by the template 'total and deterministic' (their statements: YtopjikgkoodbmabTotals.lean).
  GIVEN WITH THE SEED: the statements are not yours to turn. If you find one false, say at which input.
  Laid BY PROGRAM, IN A SANDBOX (cutbox-rows.mjs): the forced cells as the released guide's own fill.sh prints them over the translation ed9c9d6e7eff9e81… (all of the seat's roots in one cut). By AI agents, Wed Nov 11 2026. No macro, syntax, notation, axiom, sorry.
-/
import Derived.Test.YtopjikgkoodbmabChecked
import GoSem.Claim
import GoSem.ClaimJoined
import GoSem.ClaimMapViews
import Derived.JoinedTies
import Derived.KernelRfl
namespace Go.Proofs.Ytopjikgkoodbmab
/- THE CELL 'sum', in the pinned program and in every row, IS THE sha256 OF THE DUMP (.gsa) THAT YtopjikgkoodbmabProg.lean LOADS. Nothing in Lean hashes anything: it is a label: what it is worth is what the hold of that sum in a sandbox is worth. -/
noncomputable def Try.pinned : Pinned := { name := "ytopjikgkoodbmab", sum := "ed9c9d6e7eff9e819ca53c7f4c90f8b226445aabb57f7e1e367bda080e27eb3e", checked := Try.checked }
namespace Rows
def none {H : Type} : Left H := { results := [], args := [] }

/-- 'laws.FnIncidents': WHATEVER THE INPUT: true; the input reads as it did. -/
def fnIncidentsSpec : ChangeSpec := { name := "fnIncidents", fn := fun _ => fun
  | [d1, d2] => { results := [.lit (.bool true)], args := [d1, d2] }
  | _ => none }
def fnIncidentsRow : OpenClaim := { program := "ytopjikgkoodbmab", sum := "ed9c9d6e7eff9e819ca53c7f4c90f8b226445aabb57f7e1e367bda080e27eb3e", func := "loop.example/g01227/laws.FnIncidents", spec := "fnIncidents", inPlace := ["math.Float64bits", "math.Float32bits"], apart := false }
def FnIncidentsSaid : Prop := fnIncidentsRow.holds Try.pinned (OpenSpec.ofChange fnIncidentsSpec)

/-- ITS FALSE NEIGHBOUR: 'it returns false'. Refute it at one input. -/
def fnIncidentsWrong : ChangeSpec := { name := "fnIncidents", fn := fun _ => fun
  | [d1, d2] => { results := [.lit (.bool false)], args := [d1, d2] }
  | _ => none }
def FnIncidentsWrongFalsely : Prop := fnIncidentsRow.holds Try.pinned (OpenSpec.ofChange fnIncidentsWrong)

/-- 'laws.FnConflicts': WHATEVER THE INPUT: true; the input reads as it did. -/
def fnConflictsSpec : ChangeSpec := { name := "fnConflicts", fn := fun _ => fun
  | [d1, d2] => { results := [.lit (.bool true)], args := [d1, d2] }
  | _ => none }
def fnConflictsRow : OpenClaim := { program := "ytopjikgkoodbmab", sum := "ed9c9d6e7eff9e819ca53c7f4c90f8b226445aabb57f7e1e367bda080e27eb3e", func := "loop.example/g01227/laws.FnConflicts", spec := "fnConflicts", apart := false }
def FnConflictsSaid : Prop := fnConflictsRow.holds Try.pinned (OpenSpec.ofChange fnConflictsSpec)

/-- ITS FALSE NEIGHBOUR: 'it returns false'. Refute it at one input. -/
def fnConflictsWrong : ChangeSpec := { name := "fnConflicts", fn := fun _ => fun
  | [d1, d2] => { results := [.lit (.bool false)], args := [d1, d2] }
  | _ => none }
def FnConflictsWrongFalsely : Prop := fnConflictsRow.holds Try.pinned (OpenSpec.ofChange fnConflictsWrong)

/-- 'laws.FnTallies': WHATEVER THE INPUT: true; the input reads as it did. -/
def fnTalliesSpec : ChangeSpec := { name := "fnTallies", fn := fun _ => fun
  | [d1, d2] => { results := [.lit (.bool true)], args := [d1, d2] }
  | _ => none }
def fnTalliesRow : OpenClaim := { program := "ytopjikgkoodbmab", sum := "ed9c9d6e7eff9e819ca53c7f4c90f8b226445aabb57f7e1e367bda080e27eb3e", func := "loop.example/g01227/laws.FnTallies", spec := "fnTallies", inPlace := ["math.Float64bits", "math.Float32bits", "math.RoundToEven"], unfollowed := true, recurses := true, apart := false }
def FnTalliesSaid : Prop := fnTalliesRow.holds Try.pinned (OpenSpec.ofChange fnTalliesSpec)

/-- ITS FALSE NEIGHBOUR: 'it returns false'. Refute it at one input. -/
def fnTalliesWrong : ChangeSpec := { name := "fnTallies", fn := fun _ => fun
  | [d1, d2] => { results := [.lit (.bool false)], args := [d1, d2] }
  | _ => none }
def FnTalliesWrongFalsely : Prop := fnTalliesRow.holds Try.pinned (OpenSpec.ofChange fnTalliesWrong)

/-- 'laws.FnMerged': WHATEVER THE INPUT: true; the input reads as it did. -/
def fnMergedSpec : ChangeSpec := { name := "fnMerged", fn := fun _ => fun
  | [d1, d2] => { results := [.lit (.bool true)], args := [d1, d2] }
  | _ => none }
def fnMergedRow : OpenClaim := { program := "ytopjikgkoodbmab", sum := "ed9c9d6e7eff9e819ca53c7f4c90f8b226445aabb57f7e1e367bda080e27eb3e", func := "loop.example/g01227/laws.FnMerged", spec := "fnMerged", inPlace := ["math.Float64bits", "math.Float32bits"], unfollowed := true, recurses := true, apart := false }
def FnMergedSaid : Prop := fnMergedRow.holds Try.pinned (OpenSpec.ofChange fnMergedSpec)

/-- ITS FALSE NEIGHBOUR: 'it returns false'. Refute it at one input. -/
def fnMergedWrong : ChangeSpec := { name := "fnMerged", fn := fun _ => fun
  | [d1, d2] => { results := [.lit (.bool false)], args := [d1, d2] }
  | _ => none }
def FnMergedWrongFalsely : Prop := fnMergedRow.holds Try.pinned (OpenSpec.ofChange fnMergedWrong)

/-- 'laws.FnSent': WHATEVER THE INPUT: true; the input reads as it did. -/
def fnSentSpec : ChangeSpec := { name := "fnSent", fn := fun _ => fun
  | [d1, d2] => { results := [.lit (.bool true)], args := [d1, d2] }
  | _ => none }
def fnSentRow : OpenClaim := { program := "ytopjikgkoodbmab", sum := "ed9c9d6e7eff9e819ca53c7f4c90f8b226445aabb57f7e1e367bda080e27eb3e", func := "loop.example/g01227/laws.FnSent", spec := "fnSent", inPlace := ["math.Float64bits", "math.Float32bits"], apart := false }
def FnSentSaid : Prop := fnSentRow.holds Try.pinned (OpenSpec.ofChange fnSentSpec)

/-- ITS FALSE NEIGHBOUR: 'it returns false'. Refute it at one input. -/
def fnSentWrong : ChangeSpec := { name := "fnSent", fn := fun _ => fun
  | [d1, d2] => { results := [.lit (.bool false)], args := [d1, d2] }
  | _ => none }
def FnSentWrongFalsely : Prop := fnSentRow.holds Try.pinned (OpenSpec.ofChange fnSentWrong)

/-- 'laws.FnExactWatchRoad': WHATEVER THE INPUT: true; the input reads as it did. -/
def fnExactWatchRoadSpec : ChangeSpec := { name := "fnExactWatchRoad", fn := fun _ => fun
  | [d1, d2] => { results := [.lit (.bool true)], args := [d1, d2] }
  | _ => none }
def fnExactWatchRoadRow : OpenClaim := { program := "ytopjikgkoodbmab", sum := "ed9c9d6e7eff9e819ca53c7f4c90f8b226445aabb57f7e1e367bda080e27eb3e", func := "loop.example/g01227/laws.FnExactWatchRoad", spec := "fnExactWatchRoad", inPlace := ["math.Float32bits", "math.archFloor", "math.Float64bits", "math.Float64frombits", "math.archTrunc", "math.RoundToEven"], unfollowed := true, recurses := true, apart := false }
def FnExactWatchRoadSaid : Prop := fnExactWatchRoadRow.holds Try.pinned (OpenSpec.ofChange fnExactWatchRoadSpec)

/-- ITS FALSE NEIGHBOUR: 'it returns false'. Refute it at one input. -/
def fnExactWatchRoadWrong : ChangeSpec := { name := "fnExactWatchRoad", fn := fun _ => fun
  | [d1, d2] => { results := [.lit (.bool false)], args := [d1, d2] }
  | _ => none }
def FnExactWatchRoadWrongFalsely : Prop := fnExactWatchRoadRow.holds Try.pinned (OpenSpec.ofChange fnExactWatchRoadWrong)

/- THE SECOND FORM. 'bulk': how many values and letters a reading holds, each counted each time it is reached (what is shared counts as often as it is met; a slice's spare places count too). A statement '..UptoSaid' is the law's where the arguments, and the package variables that the reading takes, are together of bulk at most 1048576: NARROWER than '..Said'. Prove '..Said' where nothing that the law and all that it calls make is longer than what came in: it says more and counts as full. Else prove '..UptoSaid'. A law counts once. -/
mutual
def uptoBulk {H : Type} : DataW H → Nat
  | .lit (.string bytes) => bytes.length + 1
  | .lit _ => 1
  | .nil => 1
  | .ptr d => uptoBulk d + 1
  | .slice elems spare => uptoBulkAll elems + uptoBulkAll spare + 1
  | .agg parts => uptoBulkAll parts + 1
  | .iface _ d => uptoBulk d + 1
  | .map entries => uptoBulkEntries entries + 1
  | .held _ => 1
def uptoBulkAll {H : Type} : List (DataW H) → Nat
  | [] => 0
  | d :: r => uptoBulk d + uptoBulkAll r
def uptoBulkEntries {H : Type} : List (Lit × DataW H) → Nat
  | [] => 0
  | x :: r => uptoBulkEntry x + uptoBulkEntries r
def uptoBulkEntry {H : Type} : Lit × DataW H → Nat
  | (.string bytes, d) => bytes.length + uptoBulk d + 1
  | (_, d) => uptoBulk d + 1
 end
def uptoSmall : (H : Type) → List (DataW H) → Bool := fun _ ds => decide (uptoBulkAll ds ≤ 1048576)
def OpenSpec.upto (s : _root_.Go.ChangeSpec) : _root_.Go.OpenSpec := { _root_.Go.OpenSpec.ofChange s with cond := some uptoSmall }

/-- 'laws.FnIncidents', WHERE WHAT IT READS IS OF BULK AT MOST 1048576: true; the input reads as it did. -/
def fnIncidentsUptoRow : OpenClaim := { program := "ytopjikgkoodbmab", sum := "ed9c9d6e7eff9e819ca53c7f4c90f8b226445aabb57f7e1e367bda080e27eb3e", func := "loop.example/g01227/laws.FnIncidents", spec := "fnIncidents", inPlace := ["math.Float64bits", "math.Float32bits"], apart := false, narrowed := true }
def FnIncidentsUptoSaid : Prop := fnIncidentsUptoRow.holds Try.pinned (OpenSpec.upto fnIncidentsSpec)

/-- 'laws.FnConflicts', WHERE WHAT IT READS IS OF BULK AT MOST 1048576: true; the input reads as it did. -/
def fnConflictsUptoRow : OpenClaim := { program := "ytopjikgkoodbmab", sum := "ed9c9d6e7eff9e819ca53c7f4c90f8b226445aabb57f7e1e367bda080e27eb3e", func := "loop.example/g01227/laws.FnConflicts", spec := "fnConflicts", apart := false, narrowed := true }
def FnConflictsUptoSaid : Prop := fnConflictsUptoRow.holds Try.pinned (OpenSpec.upto fnConflictsSpec)

/-- 'laws.FnTallies', WHERE WHAT IT READS IS OF BULK AT MOST 1048576: true; the input reads as it did. -/
def fnTalliesUptoRow : OpenClaim := { program := "ytopjikgkoodbmab", sum := "ed9c9d6e7eff9e819ca53c7f4c90f8b226445aabb57f7e1e367bda080e27eb3e", func := "loop.example/g01227/laws.FnTallies", spec := "fnTallies", inPlace := ["math.Float64bits", "math.Float32bits", "math.RoundToEven"], unfollowed := true, recurses := true, apart := false, narrowed := true }
def FnTalliesUptoSaid : Prop := fnTalliesUptoRow.holds Try.pinned (OpenSpec.upto fnTalliesSpec)

/-- 'laws.FnMerged', WHERE WHAT IT READS IS OF BULK AT MOST 1048576: true; the input reads as it did. -/
def fnMergedUptoRow : OpenClaim := { program := "ytopjikgkoodbmab", sum := "ed9c9d6e7eff9e819ca53c7f4c90f8b226445aabb57f7e1e367bda080e27eb3e", func := "loop.example/g01227/laws.FnMerged", spec := "fnMerged", inPlace := ["math.Float64bits", "math.Float32bits"], unfollowed := true, recurses := true, apart := false, narrowed := true }
def FnMergedUptoSaid : Prop := fnMergedUptoRow.holds Try.pinned (OpenSpec.upto fnMergedSpec)

/-- 'laws.FnSent', WHERE WHAT IT READS IS OF BULK AT MOST 1048576: true; the input reads as it did. -/
def fnSentUptoRow : OpenClaim := { program := "ytopjikgkoodbmab", sum := "ed9c9d6e7eff9e819ca53c7f4c90f8b226445aabb57f7e1e367bda080e27eb3e", func := "loop.example/g01227/laws.FnSent", spec := "fnSent", inPlace := ["math.Float64bits", "math.Float32bits"], apart := false, narrowed := true }
def FnSentUptoSaid : Prop := fnSentUptoRow.holds Try.pinned (OpenSpec.upto fnSentSpec)

/-- 'laws.FnExactWatchRoad', WHERE WHAT IT READS IS OF BULK AT MOST 1048576: true; the input reads as it did. -/
def fnExactWatchRoadUptoRow : OpenClaim := { program := "ytopjikgkoodbmab", sum := "ed9c9d6e7eff9e819ca53c7f4c90f8b226445aabb57f7e1e367bda080e27eb3e", func := "loop.example/g01227/laws.FnExactWatchRoad", spec := "fnExactWatchRoad", inPlace := ["math.Float32bits", "math.archFloor", "math.Float64bits", "math.Float64frombits", "math.archTrunc", "math.RoundToEven"], unfollowed := true, recurses := true, apart := false, narrowed := true }
def FnExactWatchRoadUptoSaid : Prop := fnExactWatchRoadUptoRow.holds Try.pinned (OpenSpec.upto fnExactWatchRoadSpec)

end Rows
end Go.Proofs.Ytopjikgkoodbmab
