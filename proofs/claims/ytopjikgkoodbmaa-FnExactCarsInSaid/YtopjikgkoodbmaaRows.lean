/-
  No cell of these rows narrows 'for every input' (looked for: loops, veiled, ifaces, maps, wideKeys, modest, calm, conditions, laid).
  DERIVED. THE GIVEN ROWS OF THIS SEAT. 5 by the template 'for every input the law returns true; each argument reads behind the call as it read before'; 0 by the template 'total and deterministic' (their statements: YtopjikgkoodbmaaTotals.lean).
  GIVEN WITH THE SEED: the statements are not yours to turn. If you find one false, say at which input.
  Laid BY PROGRAM, IN A SANDBOX (cutbox-rows.mjs): the forced cells as the released guide's own fill.sh prints them over the translation 8839bfff88b12cde… (all of the seat's roots in one cut). By AI agents, Wed Nov 11 2026. No macro, syntax, notation, axiom, sorry.
-/
import Derived.Test.YtopjikgkoodbmaaChecked
import GoSem.Claim
import GoSem.ClaimJoined
import GoSem.ClaimMapViews
import Derived.JoinedTies
import Derived.KernelRfl
namespace Go.Proofs.Ytopjikgkoodbmaa
/- THE CELL 'sum', in the pinned program and in every row, IS THE sha256 OF THE DUMP (.gsa) THAT YtopjikgkoodbmaaProg.lean LOADS. Nothing in Lean hashes anything: it is a label: what it is worth is what the hold of that sum in a sandbox is worth. -/
noncomputable def Try.pinned : Pinned := { name := "ytopjikgkoodbmaa", sum := "8839bfff88b12cdeac4a267ae27d6a23453e509a9e45b697668b74cb749c32c6", checked := Try.checked }
namespace Rows
def none {H : Type} : Left H := { results := [], args := [] }

/-- 'laws.FnExactValidTown': WHATEVER THE INPUT: true; the input reads as it did. -/
def fnExactValidTownSpec : ChangeSpec := { name := "fnExactValidTown", fn := fun _ => fun
  | [d] => { results := [.lit (.bool true)], args := [d] }
  | _ => none }
def fnExactValidTownRow : OpenClaim := { program := "ytopjikgkoodbmaa", sum := "8839bfff88b12cdeac4a267ae27d6a23453e509a9e45b697668b74cb749c32c6", func := "loop.example/g01227/laws.FnExactValidTown", spec := "fnExactValidTown", inPlace := ["math.Float32bits", "math.Float64bits"], unfollowed := true, recurses := true, plainKeys := false, apart := false }
def FnExactValidTownSaid : Prop := fnExactValidTownRow.holds Try.pinned (OpenSpec.ofChange fnExactValidTownSpec)

/-- ITS FALSE NEIGHBOUR: 'it returns false'. Refute it at one input. -/
def fnExactValidTownWrong : ChangeSpec := { name := "fnExactValidTown", fn := fun _ => fun
  | [d] => { results := [.lit (.bool false)], args := [d] }
  | _ => none }
def FnExactValidTownWrongFalsely : Prop := fnExactValidTownRow.holds Try.pinned (OpenSpec.ofChange fnExactValidTownWrong)

/-- 'laws.FnExactSameTown': WHATEVER THE INPUT: true; the input reads as it did. -/
def fnExactSameTownSpec : ChangeSpec := { name := "fnExactSameTown", fn := fun _ => fun
  | [d1, d2] => { results := [.lit (.bool true)], args := [d1, d2] }
  | _ => none }
def fnExactSameTownRow : OpenClaim := { program := "ytopjikgkoodbmaa", sum := "8839bfff88b12cdeac4a267ae27d6a23453e509a9e45b697668b74cb749c32c6", func := "loop.example/g01227/laws.FnExactSameTown", spec := "fnExactSameTown", inPlace := ["math.Float32bits"], unfollowed := true, recurses := true, plainKeys := false, apart := false }
def FnExactSameTownSaid : Prop := fnExactSameTownRow.holds Try.pinned (OpenSpec.ofChange fnExactSameTownSpec)

/-- ITS FALSE NEIGHBOUR: 'it returns false'. Refute it at one input. -/
def fnExactSameTownWrong : ChangeSpec := { name := "fnExactSameTown", fn := fun _ => fun
  | [d1, d2] => { results := [.lit (.bool false)], args := [d1, d2] }
  | _ => none }
def FnExactSameTownWrongFalsely : Prop := fnExactSameTownRow.holds Try.pinned (OpenSpec.ofChange fnExactSameTownWrong)

/-- 'laws.FnExactCarsIn': WHATEVER THE INPUT: true; the input reads as it did. -/
def fnExactCarsInSpec : ChangeSpec := { name := "fnExactCarsIn", fn := fun _ => fun
  | [d] => { results := [.lit (.bool true)], args := [d] }
  | _ => none }
def fnExactCarsInRow : OpenClaim := { program := "ytopjikgkoodbmaa", sum := "8839bfff88b12cdeac4a267ae27d6a23453e509a9e45b697668b74cb749c32c6", func := "loop.example/g01227/laws.FnExactCarsIn", spec := "fnExactCarsIn", inPlace := ["math.Float32bits", "math.Float64bits"], unfollowed := true, recurses := true, plainKeys := false, apart := false }
def FnExactCarsInSaid : Prop := fnExactCarsInRow.holds Try.pinned (OpenSpec.ofChange fnExactCarsInSpec)

/-- ITS FALSE NEIGHBOUR: 'it returns false'. Refute it at one input. -/
def fnExactCarsInWrong : ChangeSpec := { name := "fnExactCarsIn", fn := fun _ => fun
  | [d] => { results := [.lit (.bool false)], args := [d] }
  | _ => none }
def FnExactCarsInWrongFalsely : Prop := fnExactCarsInRow.holds Try.pinned (OpenSpec.ofChange fnExactCarsInWrong)

/-- 'laws.FnExactLongestQueue': WHATEVER THE INPUT: true; the input reads as it did. -/
def fnExactLongestQueueSpec : ChangeSpec := { name := "fnExactLongestQueue", fn := fun _ => fun
  | [d] => { results := [.lit (.bool true)], args := [d] }
  | _ => none }
def fnExactLongestQueueRow : OpenClaim := { program := "ytopjikgkoodbmaa", sum := "8839bfff88b12cdeac4a267ae27d6a23453e509a9e45b697668b74cb749c32c6", func := "loop.example/g01227/laws.FnExactLongestQueue", spec := "fnExactLongestQueue", inPlace := ["math.Float32bits", "math.Float64bits"], unfollowed := true, recurses := true, plainKeys := false, apart := false }
def FnExactLongestQueueSaid : Prop := fnExactLongestQueueRow.holds Try.pinned (OpenSpec.ofChange fnExactLongestQueueSpec)

/-- ITS FALSE NEIGHBOUR: 'it returns false'. Refute it at one input. -/
def fnExactLongestQueueWrong : ChangeSpec := { name := "fnExactLongestQueue", fn := fun _ => fun
  | [d] => { results := [.lit (.bool false)], args := [d] }
  | _ => none }
def FnExactLongestQueueWrongFalsely : Prop := fnExactLongestQueueRow.holds Try.pinned (OpenSpec.ofChange fnExactLongestQueueWrong)

/-- 'laws.FnExactValidAct': WHATEVER THE INPUT: true; the input reads as it did. -/
def fnExactValidActSpec : ChangeSpec := { name := "fnExactValidAct", fn := fun _ => fun
  | [d] => { results := [.lit (.bool true)], args := [d] }
  | _ => none }
def fnExactValidActRow : OpenClaim := { program := "ytopjikgkoodbmaa", sum := "8839bfff88b12cdeac4a267ae27d6a23453e509a9e45b697668b74cb749c32c6", func := "loop.example/g01227/laws.FnExactValidAct", spec := "fnExactValidAct", inPlace := ["math.Float32bits", "math.Float64bits", "math.Float64frombits", "internal/bytealg.IndexByteString", "internal/bytealg.IndexString"], unfollowed := true, recurses := true, named := ["internal/bytealg.MaxLen"], plainKeys := false, apart := false }
def FnExactValidActSaid : Prop := fnExactValidActRow.holds Try.pinned (OpenSpec.ofChange fnExactValidActSpec)

/-- ITS FALSE NEIGHBOUR: 'it returns false'. Refute it at one input. -/
def fnExactValidActWrong : ChangeSpec := { name := "fnExactValidAct", fn := fun _ => fun
  | [d] => { results := [.lit (.bool false)], args := [d] }
  | _ => none }
def FnExactValidActWrongFalsely : Prop := fnExactValidActRow.holds Try.pinned (OpenSpec.ofChange fnExactValidActWrong)

/- THE SECOND FORM. 'bulk': how many values and letters a reading holds, each counted each time it is reached (what is shared counts as often as it is met; a slice's spare places count too). A statement '..UptoSaid' is the law's where the arguments, and the package variables that the reading takes, are together of bulk at most 1048576: NARROWER than '..Said'. Prove '..Said' where nothing that the law and all that it calls make is longer than what came in: it says more and counts as full. Else prove '..UptoSaid'. A law counts once. -/
mutual
def uptoBulk {H : Type} : DataW H → Nat
  | .lit (.string bytes) => bytes.length + 1
  | .lit _ => 1
  | .nil => 1
  | .ptr d => uptoBulk d + 1
  | .slice elems spare => uptoBulkAll elems + uptoBulkAll spare + 1
  | .agg parts => uptoBulkAll parts + 1
  | .iface _ d => uptoBulk d + 1
  | .map entries => uptoBulkEntries entries + 1
  | .held _ => 1
def uptoBulkAll {H : Type} : List (DataW H) → Nat
  | [] => 0
  | d :: r => uptoBulk d + uptoBulkAll r
def uptoBulkEntries {H : Type} : List (Lit × DataW H) → Nat
  | [] => 0
  | x :: r => uptoBulkEntry x + uptoBulkEntries r
def uptoBulkEntry {H : Type} : Lit × DataW H → Nat
  | (.string bytes, d) => bytes.length + uptoBulk d + 1
  | (_, d) => uptoBulk d + 1
 end
def uptoSmall : (H : Type) → List (DataW H) → Bool := fun _ ds => decide (uptoBulkAll ds ≤ 1048576)
def OpenSpec.upto (s : _root_.Go.ChangeSpec) : _root_.Go.OpenSpec := { _root_.Go.OpenSpec.ofChange s with cond := some uptoSmall }

/-- 'laws.FnExactValidTown', WHERE WHAT IT READS IS OF BULK AT MOST 1048576: true; the input reads as it did. -/
def fnExactValidTownUptoRow : OpenClaim := { program := "ytopjikgkoodbmaa", sum := "8839bfff88b12cdeac4a267ae27d6a23453e509a9e45b697668b74cb749c32c6", func := "loop.example/g01227/laws.FnExactValidTown", spec := "fnExactValidTown", inPlace := ["math.Float32bits", "math.Float64bits"], unfollowed := true, recurses := true, plainKeys := false, apart := false, narrowed := true }
def FnExactValidTownUptoSaid : Prop := fnExactValidTownUptoRow.holds Try.pinned (OpenSpec.upto fnExactValidTownSpec)

/-- 'laws.FnExactSameTown', WHERE WHAT IT READS IS OF BULK AT MOST 1048576: true; the input reads as it did. -/
def fnExactSameTownUptoRow : OpenClaim := { program := "ytopjikgkoodbmaa", sum := "8839bfff88b12cdeac4a267ae27d6a23453e509a9e45b697668b74cb749c32c6", func := "loop.example/g01227/laws.FnExactSameTown", spec := "fnExactSameTown", inPlace := ["math.Float32bits"], unfollowed := true, recurses := true, plainKeys := false, apart := false, narrowed := true }
def FnExactSameTownUptoSaid : Prop := fnExactSameTownUptoRow.holds Try.pinned (OpenSpec.upto fnExactSameTownSpec)

/-- 'laws.FnExactCarsIn', WHERE WHAT IT READS IS OF BULK AT MOST 1048576: true; the input reads as it did. -/
def fnExactCarsInUptoRow : OpenClaim := { program := "ytopjikgkoodbmaa", sum := "8839bfff88b12cdeac4a267ae27d6a23453e509a9e45b697668b74cb749c32c6", func := "loop.example/g01227/laws.FnExactCarsIn", spec := "fnExactCarsIn", inPlace := ["math.Float32bits", "math.Float64bits"], unfollowed := true, recurses := true, plainKeys := false, apart := false, narrowed := true }
def FnExactCarsInUptoSaid : Prop := fnExactCarsInUptoRow.holds Try.pinned (OpenSpec.upto fnExactCarsInSpec)

/-- 'laws.FnExactLongestQueue', WHERE WHAT IT READS IS OF BULK AT MOST 1048576: true; the input reads as it did. -/
def fnExactLongestQueueUptoRow : OpenClaim := { program := "ytopjikgkoodbmaa", sum := "8839bfff88b12cdeac4a267ae27d6a23453e509a9e45b697668b74cb749c32c6", func := "loop.example/g01227/laws.FnExactLongestQueue", spec := "fnExactLongestQueue", inPlace := ["math.Float32bits", "math.Float64bits"], unfollowed := true, recurses := true, plainKeys := false, apart := false, narrowed := true }
def FnExactLongestQueueUptoSaid : Prop := fnExactLongestQueueUptoRow.holds Try.pinned (OpenSpec.upto fnExactLongestQueueSpec)

/-- 'laws.FnExactValidAct', WHERE WHAT IT READS IS OF BULK AT MOST 1048576: true; the input reads as it did. -/
def fnExactValidActUptoRow : OpenClaim := { program := "ytopjikgkoodbmaa", sum := "8839bfff88b12cdeac4a267ae27d6a23453e509a9e45b697668b74cb749c32c6", func := "loop.example/g01227/laws.FnExactValidAct", spec := "fnExactValidAct", inPlace := ["math.Float32bits", "math.Float64bits", "math.Float64frombits", "internal/bytealg.IndexByteString", "internal/bytealg.IndexString"], unfollowed := true, recurses := true, named := ["internal/bytealg.MaxLen"], plainKeys := false, apart := false, narrowed := true }
def FnExactValidActUptoSaid : Prop := fnExactValidActUptoRow.holds Try.pinned (OpenSpec.upto fnExactValidActSpec)

end Rows
end Go.Proofs.Ytopjikgkoodbmaa
