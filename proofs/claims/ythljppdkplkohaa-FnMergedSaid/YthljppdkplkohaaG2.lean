/-
  SEVERAL TEXTS IN ONE.
-/
import Derived.Test.YthljppdkplkohaaQuiet
import Derived.Test.YthljppdkplkohaaJn
import Derived.Deep.LoopGhost
import Derived.IntWalk
import Derived.Test.YthljppdkplkohaaNan

/-
  A part of a row, read in a statement whose order is open.
  No Go text in it. Conditions: those of the theorem.
-/
namespace Go.Proofs.Ythljppdkplkohaa
open Go Go.RowKit
theorem q_part {P : Program} {W : World} {o : Oper} {a : Act} {K : Act → Prop} {g : Nat} {c : Array Value} {T : TypeId} (ty : TypeId) (x : Operand) (ho : o.op = .load ty x) (off : Nat) (hx : a.eval x = .pointer (some ⟨g, off, none⟩)) (hA : At W g c T) (n : Nat) (hn : off + n ≤ c.size) (d : TypeDesc)
    (hu : P.underlying ty = some d) (hd : (match d with | .struct _ | .array _ _ => true | _ => false) = true) (hi : (P.info? ty).map (·.size) = some n) (c' : Array Value) (hc : c.extract off (off + n) = c') (hK : K (a.put o.dst (.agg c'))) : o.quiet P a (Cb W) K :=
  q_load ty x ho _ hx (.agg c') (fun w hw => by
    have := run_loadAt_part (P := P) w g off n ty c T (0, 0) d (At.step hA hw) hu hd hi hn
    rw [hc] at this
    exact this) hK
end Go.Proofs.Ythljppdkplkohaa

/-
  CONTRACTS: four rows of four numbers, a law's made the program's, and held against each other.
-/
namespace Go.Proofs.Ythljppdkplkohaa
open Go Go.RowKit
set_option maxRecDepth 100000

end Go.Proofs.Ythljppdkplkohaa

/-
  CONTRACTS: SumOfFour.
-/
namespace Go.Proofs.Ythljppdkplkohaa
open Go Go.RowKit
set_option maxRecDepth 100000

end Go.Proofs.Ythljppdkplkohaa
