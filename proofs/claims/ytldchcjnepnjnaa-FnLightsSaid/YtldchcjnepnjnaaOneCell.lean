/-
  ONE CELL OF A BLOCK KNOWN WHOLE, read and written: the walk's arms.
  No Go text in it. Conditions: those of each theorem.
-/
import Derived.Test.YtldchcjnepnjnaaJn
import Derived.Test.YtldchcjnepnjnaaMix
import Derived.Laws.Tables
namespace Go.Proofs.Ytldchcjnepnjnaa
open Go Go.RowKit

theorem run_load_one {P : Program} (w : World) (ty : TypeId) (d : TypeDesc) (hu : P.underlying ty = some d) (hd : (match d with | .struct _ | .array _ _ => true | _ => false) = false) (ad : Addr) (v : Value) (hc : w.cell? ad = some v) : (Instr.loadAt ty (.pointer (some ad))).run P w = .ok v w := by
  have hagg : (isAgg ty).run P w = .ok false w := by
    unfold isAgg
    rw [Sem.run_bind, run_underlying hu w]
    cases d <;> first | rfl | (simp at hd)
  simp only [Instr.loadAt, Instr.sureAddr, Sem.run_bind, Sem.run_pure, Result.andThen]
  simp [loadVar, Sem.run_bind, hagg, hc]

variable {P : Program} {ops : Array Oper} {rest : List Oper} {o : Oper} {a : Act} {w : World} {Q : Exit → Act → World → Prop}
theorem wpList_load_cell (hgd : o.guard = none) (ty : TypeId) (x : Operand) (ho : o.op = .load ty x) (g off : Nat) (hx : a.eval x = .pointer (some ⟨g, off, none⟩)) (c : Array Value) (T : TypeId) (hA : At w g c T) (d : TypeDesc)
    (hu : P.underlying ty = some d) (hd : (match d with | .struct _ | .array _ _ => true | _ => false) = false) (v : Value) (hv : c[off]? = some v) (h : wpList P ops Q rest (a.put o.dst v) w) : wpList P ops Q (o :: rest) a w :=
  wpList_load_of hgd ty x ho ⟨g, off, none⟩ hx _ (run_load_one w ty d hu hd _ _ (hA.cell hv)) h
theorem wpList_store_cell (hgd : o.guard = none) (ty : TypeId) (x y : Operand) (ho : o.op = .store ty x y) (g off : Nat) (hx : a.eval x = .pointer (some ⟨g, off, none⟩)) (v : Value) (hy : a.eval y = v) (old : Array Value) (T : TypeId) (hA : At w g old T) (hle : off < old.size)
    (hi : (P.info? ty).map (·.size) = some 1) (h1 : v.oneCell' = true) (new : Array Value) (hs : old.setIfInBounds off v = new) (h : wpList P ops Q rest (a.put o.dst undef) (w.setRow g new)) : wpList P ops Q (o :: rest) a w :=
  wpList_store_of hgd ty x y ho ⟨g, off, none⟩ hx v hy _ (by
    have := run_storeAt_one (P := P) w g off T ty old v hA hi hle h1
    rwa [hs] at this) h
/-- guarded: a part, a cell -/
theorem wpList_load_of_g (hw : Region.wanted o (yielded ops a.tmps) = true) (ty : TypeId) (x : Operand) (ho : o.op = .load ty x)
    (ad : Addr) (hx : a.eval x = .pointer (some ad)) (v : Value) (hrun : (Instr.loadAt ty (.pointer (some ad))).run P w = .ok v w)
    (h : wpList P ops Q rest (a.put o.dst v) w) : wpList P ops Q (o :: rest) a w := by
  unfold wpList
  rw [if_pos hw]
  refine .inl ?_
  unfold Oper.wp execOp
  simp only [ho, hx, Sem.run_bind, hrun, Sem.run_pure, Result.andThen_ok]
  exact h
theorem wpList_load_cell_g (hw : Region.wanted o (yielded ops a.tmps) = true) (ty : TypeId) (x : Operand) (ho : o.op = .load ty x) (g off : Nat) (hx : a.eval x = .pointer (some ⟨g, off, none⟩)) (c : Array Value) (T : TypeId) (hA : At w g c T) (d : TypeDesc)
    (hu : P.underlying ty = some d) (hd : (match d with | .struct _ | .array _ _ => true | _ => false) = false) (v : Value) (hv : c[off]? = some v) (h : wpList P ops Q rest (a.put o.dst v) w) : wpList P ops Q (o :: rest) a w :=
  wpList_load_of_g hw ty x ho ⟨g, off, none⟩ hx _ (run_load_one w ty d hu hd _ _ (hA.cell hv)) h
theorem wpList_load_part_g (hw : Region.wanted o (yielded ops a.tmps) = true) (ty : TypeId) (x : Operand) (ho : o.op = .load ty x) (g off : Nat) (hx : a.eval x = .pointer (some ⟨g, off, none⟩)) (c : Array Value) (T : TypeId) (hA : At w g c T) (n : Nat) (hn : off + n ≤ c.size) (d : TypeDesc)
    (hu : P.underlying ty = some d) (hd : (match d with | .struct _ | .array _ _ => true | _ => false) = true) (hi : (P.info? ty).map (·.size) = some n) (c' : Array Value) (hc : c.extract off (off + n) = c') (h : wpList P ops Q rest (a.put o.dst (.agg c')) w) : wpList P ops Q (o :: rest) a w :=
  wpList_load_of_g hw ty x ho ⟨g, off, none⟩ hx _ (by subst hc; exact run_loadAt_part w g off n ty c T (0, 0) d hA hu hd hi hn) h
theorem is_build (t : TypeId) (parts : Array (Nat × Operand)) (_ho : o.op = .build t parts) (h : wpList P ops Q (o :: rest) a w) : wpList P ops Q (o :: rest) a w := h
theorem wpList_build2 (hgd : o.guard = none) (t : TypeId) (i0 i1 : Nat) (x0 x1 : Operand) (ho : o.op = .build t #[(i0, x0), (i1, x1)]) (v0 v1 : Value) (e0 : a.eval x0 = v0) (e1 : a.eval x1 = v1) (c : Array Value)
    (hc : P.built t [(i0, v0), (i1, v1)] = some c) (h : wpList P ops Q rest (a.put o.dst (.agg c)) w) : wpList P ops Q (o :: rest) a w :=
  wpList_plain hgd fun _ hK => by
    have hc' : P.built t ((#[(i0, x0), (i1, x1)].map fun (i, x) => (i, a.eval x)).toList) = some c := by simpa [e0, e1] using hc
    unfold Oper.wp execOp
    simp only [ho, Sem.run_bind, run_build w t _ c hc', Result.andThen_ok]
    exact hK _ _ h
end Go.Proofs.Ytldchcjnepnjnaa
