/-
  OPERATIONS IN A WALK WHOSE ORDER IS OPEN, by hand: what each yields, its operands by the kernel.
  No Go text in it. Conditions: those of each theorem.
-/
import Derived.Test.YtboahhipobcabaaTake
namespace Go.Proofs.Ytboahhipobcabaa
open Go Go.RowKit
section
variable {P : Program} {o : Oper} {a : Act} {w w' : World} {v : Value}
theorem hx_move (x : Operand) (ho : o.op = .move x) (hx : a.eval x = v) : (execOp a.eval o).run P w = .ok (.value v) w := by
  unfold execOp
  simp only [ho, hx, Sem.run_pure]
theorem hx_index (ty : TypeId) (x y : Operand) (ho : o.op = .indexAddr ty x y) (v1 v2 : Value) (h1 : a.eval x = v1) (h2 : a.eval y = v2) (hrun : (Instr.indexAt ty v1 v2).run P w = .ok v w) : (execOp a.eval o).run P w = .ok (.value v) w := by
  unfold execOp
  simp only [ho, h1, h2, Sem.run_bind, hrun, Sem.run_pure, Result.andThen_ok]
theorem hx_sub (ty : TypeId) (x y : Operand) {T : TypeId} (ho : o.op = .binOp .sub ty x y T) (v1 v2 : Value) (h1 : a.eval x = v1) (h2 : a.eval y = v2) (hrun : (binOp .sub ty v1 v2).run P w = .ok v w') : (execOp a.eval o).run P w = .ok (.value v) w' := by
  have hg : eqGuard .sub ty x y v1 v2 = pure () := rfl
  unfold execOp
  simp only [ho, h1, h2, hg, Sem.run_bind, hrun, Sem.run_pure, Result.andThen_ok]
theorem hx_store (ty : TypeId) (x y : Operand) (ho : o.op = .store ty x y) (v1 v2 : Value) (h1 : a.eval x = v1) (h2 : a.eval y = v2) (hrun : (Instr.storeAt ty v1 v2).run P w = .ok () w') : (execOp a.eval o).run P w = .ok .skip w' := by
  unfold execOp
  simp only [ho, h1, h2, Sem.run_bind, hrun, Sem.run_pure, Result.andThen_ok]
end
theorem run_sub_i64 {P : Program} (W : World) (t : TypeId) (a b : Int) : (binOp .sub t (.int .i64 a) (.int .i64 b)).run P W = .ok (.int .i64 (IntKind.i64.wrap (a - b))) W := by
  simp [binOp, Op.intArith]
end Go.Proofs.Ytboahhipobcabaa
