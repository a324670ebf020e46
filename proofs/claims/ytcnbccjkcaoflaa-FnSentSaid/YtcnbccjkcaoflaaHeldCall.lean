/-
  CALLS in a region taken by hand.
  No Go text in it. Conditions: those of each theorem.
-/
import Derived.Test.YtcnbccjkcaoflaaTake
namespace Go.Proofs.Ytcnbccjkcaoflaa
open Go Go.RowKit
set_option maxRecDepth 100000

section
variable {P : Program} {ops : Array Oper} {o : Oper} {v : Value} {a : Act} {w : World} {S : World → Prop} {i : Nat} {K : Act → World → Prop} {Q : Exit → Act → World → Prop}
theorem yig (hw : Region.wanted o (yielded ops a.tmps) = true) (h : ∀ w, S w → (execOp a.eval o).run P w = .ok (.value v) w) : YieldsIf P ops S o v a := .inl ⟨hw, h⟩

theorem op_call_g {f : FuncId} {args : Array Value} (ho : ops[i]? = some o) (hw : Region.wanted o (yielded ops a.tmps) = true) (hx : (execOp a.eval o).run P w = .ok (.enter f args) w) (hc : Calls P f args w fun e w' => ∃ v, e = .returned v ∧ K (a.put o.dst v) w') : wpOp P ops Q i K a w := by
  unfold wpOp
  simp only [ho, hw, if_true]
  refine .inl ?_
  unfold Oper.wp
  rw [hx]
  unfold Oper.upon
  exact Calls.mono hc fun e w' ⟨v, he, hk⟩ => by subst he; exact hk

theorem wpAnyH_call {md : Region.Mode} {j fuel : Nat} {listed : Array Bool} {f : FuncId} {args : Array Value} (hr : Region.ready md ops listed = [j]) (ho : ops[j]? = some o) (hw : Region.wanted o (yielded ops a.tmps) = true) (hx : (execOp a.eval o).run P w = .ok (.enter f args) w)
    (hc : Calls P f args w fun e w' => ∃ v, e = .returned v ∧ S w' ∧ wpAnyH P md ops Q S fuel (listed.setIfInBounds j true) (a.put o.dst v) w') : wpAnyH P md ops Q S (fuel + 1) listed a w :=
  wpAnyH_all hr (by simp) fun i hi => by
    have e : i = j := by simpa using hi
    subst e
    exact op_call_g ho hw hx hc
end

end Go.Proofs.Ytcnbccjkcaoflaa
