/-
  No cell of these rows narrows 'for every input' (looked for: loops, veiled, ifaces, maps, wideKeys, modest, calm, conditions, laid).
  DERIVED. THE GIVEN ROWS OF THIS SEAT. 3 by the template 'for every input the law returns true; each argument reads behind the call as it read before'; 0 by the template 'total and deterministic' (their statements: YtboahhipobcabaaTotals.lean).
  GIVEN WITH THE SEED: the statements are not yours to turn. If you find one false, say at which input.
  Laid BY PROGRAM, IN A SANDBOX (cutbox-rows.mjs): the forced cells as the released guide's own fill.sh prints them over the translation 57f997b2354d1133… (all of the seat's roots in one cut). By AI agents, Wed Nov 11 2026. No macro, syntax, notation, axiom, sorry.
-/
import Derived.Test.YtboahhipobcabaaChecked
import GoSem.Claim
import GoSem.ClaimJoined
import GoSem.ClaimMapViews
import Derived.JoinedTies
import Derived.KernelRfl
namespace Go.Proofs.Ytboahhipobcabaa
/- THE CELL 'sum', in the pinned program and in every row, IS THE sha256 OF THE DUMP (.gsa) THAT YtboahhipobcabaaProg.lean LOADS. Nothing in Lean hashes anything: it is a label: what it is worth is what the hold of that sum in a sandbox is worth. -/
noncomputable def Try.pinned : Pinned := { name := "ytboahhipobcabaa", sum := "57f997b2354d1133646be1c933736bc9fc869c97f88ec5b732271fc5e1edccc4", checked := Try.checked }
namespace Rows
def none {H : Type} : Left H := { results := [], args := [] }

/-- 'laws.FnExactSameTown': WHATEVER THE INPUT: true; the input reads as it did. -/
def fnExactSameTownSpec : ChangeSpec := { name := "fnExactSameTown", fn := fun _ => fun
  | [d1, d2] => { results := [.lit (.bool true)], args := [d1, d2] }
  | _ => none }
def fnExactSameTownRow : OpenClaim := { program := "ytboahhipobcabaa", sum := "57f997b2354d1133646be1c933736bc9fc869c97f88ec5b732271fc5e1edccc4", func := "loop.example/g01227/laws.FnExactSameTown", spec := "fnExactSameTown", inPlace := ["math.Float32bits"], unfollowed := true, recurses := true, plainKeys := false, apart := false }
def FnExactSameTownSaid : Prop := fnExactSameTownRow.holds Try.pinned (OpenSpec.ofChange fnExactSameTownSpec)

/-- ITS FALSE NEIGHBOUR: 'it returns false'. Refute it at one input. -/
def fnExactSameTownWrong : ChangeSpec := { name := "fnExactSameTown", fn := fun _ => fun
  | [d1, d2] => { results := [.lit (.bool false)], args := [d1, d2] }
  | _ => none }
def FnExactSameTownWrongFalsely : Prop := fnExactSameTownRow.holds Try.pinned (OpenSpec.ofChange fnExactSameTownWrong)

/-- 'laws.FnExactLineTown': WHATEVER THE INPUT: true; the input reads as it did. -/
def fnExactLineTownSpec : ChangeSpec := { name := "fnExactLineTown", fn := fun _ => fun
  | [d1, d2] => { results := [.lit (.bool true)], args := [d1, d2] }
  | _ => none }
def fnExactLineTownRow : OpenClaim := { program := "ytboahhipobcabaa", sum := "57f997b2354d1133646be1c933736bc9fc869c97f88ec5b732271fc5e1edccc4", func := "loop.example/g01227/laws.FnExactLineTown", spec := "fnExactLineTown", inPlace := ["math.Float32bits", "math.Float64bits"], plainKeys := false, apart := false }
def FnExactLineTownSaid : Prop := fnExactLineTownRow.holds Try.pinned (OpenSpec.ofChange fnExactLineTownSpec)

/-- ITS FALSE NEIGHBOUR: 'it returns false'. Refute it at one input. -/
def fnExactLineTownWrong : ChangeSpec := { name := "fnExactLineTown", fn := fun _ => fun
  | [d1, d2] => { results := [.lit (.bool false)], args := [d1, d2] }
  | _ => none }
def FnExactLineTownWrongFalsely : Prop := fnExactLineTownRow.holds Try.pinned (OpenSpec.ofChange fnExactLineTownWrong)

/-- 'laws.FnExactValidAct': WHATEVER THE INPUT: true; the input reads as it did. -/
def fnExactValidActSpec : ChangeSpec := { name := "fnExactValidAct", fn := fun _ => fun
  | [d] => { results := [.lit (.bool true)], args := [d] }
  | _ => none }
def fnExactValidActRow : OpenClaim := { program := "ytboahhipobcabaa", sum := "57f997b2354d1133646be1c933736bc9fc869c97f88ec5b732271fc5e1edccc4", func := "loop.example/g01227/laws.FnExactValidAct", spec := "fnExactValidAct", inPlace := ["math.Float32bits", "math.Float64bits", "math.Float64frombits", "internal/bytealg.IndexByteString", "internal/bytealg.IndexString"], unfollowed := true, recurses := true, named := ["internal/bytealg.MaxLen"], plainKeys := false, apart := false }
def FnExactValidActSaid : Prop := fnExactValidActRow.holds Try.pinned (OpenSpec.ofChange fnExactValidActSpec)

/-- ITS FALSE NEIGHBOUR: 'it returns false'. Refute it at one input. -/
def fnExactValidActWrong : ChangeSpec := { name := "fnExactValidAct", fn := fun _ => fun
  | [d] => { results := [.lit (.bool false)], args := [d] }
  | _ => none }
def FnExactValidActWrongFalsely : Prop := fnExactValidActRow.holds Try.pinned (OpenSpec.ofChange fnExactValidActWrong)

/- THE SECOND FORM. 'bulk': how many values and letters a reading holds, each counted each time it is reached (what is shared counts as often as it is met; a slice's spare places count too). A statement '..UptoSaid' is the law's where the arguments, and the package variables that the reading takes, are together of bulk at most 1048576: NARROWER than '..Said'. Prove '..Said' where nothing that the law and all that it calls make is longer than what came in: it says more and counts as full. Else prove '..UptoSaid'. A law counts once. -/
mutual
def uptoBulk {H : Type} : DataW H → Nat
  | .lit (.string bytes) => bytes.length + 1
  | .lit _ => 1
  | .nil => 1
  | .ptr d => uptoBulk d + 1
  | .slice elems spare => uptoBulkAll elems + uptoBulkAll spare + 1
  | .agg parts => uptoBulkAll parts + 1
  | .iface _ d => uptoBulk d + 1
  | .map entries => uptoBulkEntries entries + 1
  | .held _ => 1
def uptoBulkAll {H : Type} : List (DataW H) → Nat
  | [] => 0
  | d :: r => uptoBulk d + uptoBulkAll r
def uptoBulkEntries {H : Type} : List (Lit × DataW H) → Nat
  | [] => 0
  | x :: r => uptoBulkEntry x + uptoBulkEntries r
def uptoBulkEntry {H : Type} : Lit × DataW H → Nat
  | (.string bytes, d) => bytes.length + uptoBulk d + 1
  | (_, d) => uptoBulk d + 1
 end
def uptoSmall : (H : Type) → List (DataW H) → Bool := fun _ ds => decide (uptoBulkAll ds ≤ 1048576)
def OpenSpec.upto (s : _root_.Go.ChangeSpec) : _root_.Go.OpenSpec := { _root_.Go.OpenSpec.ofChange s with cond := some uptoSmall }

/-- 'laws.FnExactSameTown', WHERE WHAT IT READS IS OF BULK AT MOST 1048576: true; the input reads as it did. -/
def fnExactSameTownUptoRow : OpenClaim := { program := "ytboahhipobcabaa", sum := "57f997b2354d1133646be1c933736bc9fc869c97f88ec5b732271fc5e1edccc4", func := "loop.example/g01227/laws.FnExactSameTown", spec := "fnExactSameTown", inPlace := ["math.Float32bits"], unfollowed := true, recurses := true, plainKeys := false, apart := false, narrowed := true }
def FnExactSameTownUptoSaid : Prop := fnExactSameTownUptoRow.holds Try.pinned (OpenSpec.upto fnExactSameTownSpec)

/-- 'laws.FnExactLineTown', WHERE WHAT IT READS IS OF BULK AT MOST 1048576: true; the input reads as it did. -/
def fnExactLineTownUptoRow : OpenClaim := { program := "ytboahhipobcabaa", sum := "57f997b2354d1133646be1c933736bc9fc869c97f88ec5b732271fc5e1edccc4", func := "loop.example/g01227/laws.FnExactLineTown", spec := "fnExactLineTown", inPlace := ["math.Float32bits", "math.Float64bits"], plainKeys := false, apart := false, narrowed := true }
def FnExactLineTownUptoSaid : Prop := fnExactLineTownUptoRow.holds Try.pinned (OpenSpec.upto fnExactLineTownSpec)

/-- 'laws.FnExactValidAct', WHERE WHAT IT READS IS OF BULK AT MOST 1048576: true; the input reads as it did. -/
def fnExactValidActUptoRow : OpenClaim := { program := "ytboahhipobcabaa", sum := "57f997b2354d1133646be1c933736bc9fc869c97f88ec5b732271fc5e1edccc4", func := "loop.example/g01227/laws.FnExactValidAct", spec := "fnExactValidAct", inPlace := ["math.Float32bits", "math.Float64bits", "math.Float64frombits", "internal/bytealg.IndexByteString", "internal/bytealg.IndexString"], unfollowed := true, recurses := true, named := ["internal/bytealg.MaxLen"], plainKeys := false, apart := false, narrowed := true }
def FnExactValidActUptoSaid : Prop := fnExactValidActUptoRow.holds Try.pinned (OpenSpec.upto fnExactValidActSpec)

end Rows
end Go.Proofs.Ytboahhipobcabaa
