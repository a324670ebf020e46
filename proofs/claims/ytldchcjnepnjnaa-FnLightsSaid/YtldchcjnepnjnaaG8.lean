/-
  SEVERAL TEXTS IN ONE.
-/
import Derived.Test.YtldchcjnepnjnaaSlEq
import Derived.Test.YtldchcjnepnjnaaG4
import Derived.Test.YtldchcjnepnjnaaOneCell

/-
  CONTRACTS: plans held against each other, as the program does it.
-/
namespace Go.Proofs.Ytldchcjnepnjnaa
open Go Go.ChangeShapes Go.WideShapes Go.ChangeAt Go.RowKit
set_option maxRecDepth 100000

section
variable {P : Program} {W : World} {o : Oper} {a : Act} {K : Act → Prop} {g : Nat} {c : Array Value} {T : TypeId}
theorem q_one (ty : TypeId) (x : Operand) (ho : o.op = .load ty x) (d : TypeDesc) (hu : P.underlying ty = some d) (hd : (match d with | .struct _ | .array _ _ => true | _ => false) = false) (k : Nat) (hx : a.eval x = .pointer (some ⟨g, k, none⟩)) (hA : At W g c T) (v : Value) (hk : c[k]? = some v) (hK : K (a.put o.dst v)) : o.quiet P a (Cb W) K :=
  q_load ty x ho _ hx v (fun w hw => run_load_one w ty d hu hd _ v (At.cell (At.step hA hw) hk)) hK

theorem q_neq {C : World → Prop} (ty : TypeId) (x y : Operand) {T : TypeId} (ho : o.op = .binOp .neq ty x y T) (c1 c2 : Array Value) (h1 : a.eval x = .agg c1) (h2 : a.eval y = .agg c2) (hm : P.eqGuardType P.depth ty = false) (v : Value) (hrun : ∀ w, (binOp .neq ty (.agg c1) (.agg c2)).run P w = .ok v w) (hK : K (a.put o.dst v)) : o.quiet P a C K := by
  refine ⟨v, fun w hw => ?_, hK⟩
  have hg := run_eqGuard_agg w .neq ty x y c1 c2 hm
  unfold Oper.quietAt execOp
  simp only [ho, h1, h2, Sem.run_bind, hg, hrun w, Sem.run_pure, Result.andThen_ok]
  exact ⟨rfl, rfl⟩
end

def vSame (xs ys : Slots) (b o b' o' : Int) : Bool := decide (b = b') && (decide (o = o') && decide (xs = ys))

end Go.Proofs.Ytldchcjnepnjnaa

/-
  CONTRACTS: plans held against each other, as the model does it.
-/
namespace Go.Proofs.Ytldchcjnepnjnaa
open Go Go.ChangeShapes Go.WideShapes Go.ChangeAt Go.RowKit
set_option maxRecDepth 100000

end Go.Proofs.Ytldchcjnepnjnaa
