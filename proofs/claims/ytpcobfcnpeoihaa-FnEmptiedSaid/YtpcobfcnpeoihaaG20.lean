/-
  SEVERAL TEXTS IN ONE.
-/
import Derived.Test.YtpcobfcnpeoihaaG2
import Derived.Test.YtpcobfcnpeoihaaG14
import Derived.Test.YtpcobfcnpeoihaaG6
import Derived.Laws.CopyOwn

/-
  ROWS OF YES AND NO IN MEMORY: phases as rows of eight, tables as rows of eight by eight.
  No Go text in it. Conditions: those of each theorem.
-/
namespace Go.Proofs.Ytpcobfcnpeoihaa
open Go Go.RowKit

/-- what stands at a place (no behind the end) -/
def bn (bs : List Bool) (k : Nat) : Bool := bs.getD k false
/-- a row of yes and no -/
def bl (bs : List Bool) : Array Value := (bs.map Value.bool).toArray
theorem bl_size (bs : List Bool) : (bl bs).size = bs.length := by simp [bl]
theorem bl_get {bs : List Bool} {k : Nat} (h : k < bs.length) : (bl bs)[k]? = some (.bool (bn bs k)) := by
  simp [bl, bn, List.getElem?_map, List.getElem?_eq_getElem h, List.getD]
theorem bl_extract (bs : List Bool) (a b : Nat) : (bl bs).extract a b = bl ((bs.take b).drop a) := by
  apply Array.ext'
  simp [bl, List.map_drop, List.map_take, List.drop_take]
theorem bl_set (bs : List Bool) (k : Nat) (x : Bool) : (bl bs).setIfInBounds k (.bool x) = bl (bs.set k x) := by
  apply Array.ext'
  simp [bl]
theorem bl_one (bs : List Bool) : (bl bs).all (·.oneCell') = true := by
  simp only [bl, List.all_toArray, List.all_map]
  rw [List.all_eq_true]
  intro x _
  rfl
theorem splice_bl (xs ys : List Bool) (off : Nat) : splice (bl xs) off (bl ys) = bl (xs.take off ++ ys ++ xs.drop (off + ys.length)) := by
  simp [splice, bl, List.map_take, List.map_drop]
theorem bl_inj {xs ys : List Bool} (h : bl xs = bl ys) : xs = ys := by
  have := congrArg Array.toList h
  simp only [bl] at this
  exact (List.map_inj_right (fun a b e => by cases e; rfl)).1 this

/-- no, n times -/
def noes (n : Nat) : List Bool := List.replicate n false
theorem noes_len (n : Nat) : (noes n).length = n := by simp [noes]
/-- what a copy of n places has after k places -/
def cpB (n : Nat) (ys : List Bool) (k : Nat) : List Bool := ys.take k ++ List.replicate (n - k) false
theorem cpB_len {n : Nat} {ys : List Bool} (h : ys.length = n) (k : Nat) (hk : k ≤ n) : (cpB n ys k).length = n := by simp [cpB, h]; omega
theorem cpB_zero (n : Nat) (ys : List Bool) : cpB n ys 0 = noes n := by simp [cpB, noes]
theorem cpB_set {n : Nat} {ys : List Bool} (h : ys.length = n) {k : Nat} (hk : k < n) : (cpB n ys k).set k (bn ys k) = cpB n ys (k + 1) := by
  unfold cpB bn
  rw [List.set_append_right _ _ (by simp; omega), List.take_succ_eq_append_getElem (by omega), List.getD_eq_getElem?_getD, List.getElem?_eq_getElem (by omega)]
  rw [show k - (List.take k ys).length = 0 from by simp; omega, show n - k = (n - (k + 1)) + 1 from by omega, List.replicate_succ, List.append_assoc]
  rfl
theorem cpB_all {n : Nat} {ys : List Bool} (h : ys.length = n) : cpB n ys n = ys := by simp [cpB, ← h]
section
variable {ts : List Bool}
/-- row k of eight by eight -/
def row8 (ts : List Bool) (k : Nat) : List Bool := (ts.drop (8 * k)).take 8
theorem row8_len (ht : ts.length = 64) {k : Nat} (hk : k < 8) : (row8 ts k).length = 8 := by simp [row8, ht]; omega
theorem row8_nth (_ht : ts.length = 64) (k : Nat) {n : Nat} (hn : n < 8) : bn (row8 ts k) n = bn ts (8 * k + n) := by
  unfold row8 bn; simp only [List.getD]; rw [List.getElem?_take_of_lt hn, List.getElem?_drop]
theorem bl_row (_ht : ts.length = 64) {k off : Nat} (_hk : k < 8) (ho : off = 8 * k) : (bl ts).extract off (off + 8) = bl (row8 ts k) := by
  subst ho
  rw [bl_extract]; congr 1; unfold row8; rw [List.take_drop, Nat.add_comm]
end
/-- a copy by rows -/
def cpT (ts : List Bool) (k : Nat) : List Bool := cpB 64 ts (8 * k)
theorem cpT_len {ts : List Bool} (h : ts.length = 64) {k : Nat} (hk : k ≤ 8) : (cpT ts k).length = 64 := cpB_len h _ (by omega)
theorem cpT_zero (ts : List Bool) : cpT ts 0 = noes 64 := by simp [cpT, cpB, noes]
theorem cpT_all {ts : List Bool} (h : ts.length = 64) : cpT ts 8 = ts := cpB_all h
theorem cpT_splice {ts : List Bool} (h : ts.length = 64) {k off : Nat} (hk : k < 8) (ho : off = 8 * k) : splice (bl (cpT ts k)) off (bl (row8 ts k)) = bl (cpT ts (k + 1)) := by
  subst ho
  rw [splice_bl, row8_len h hk]
  congr 1
  unfold cpT cpB row8
  have e1 : (ts.take (8 * k)).drop (8 * k + 8) = [] := List.drop_eq_nil_of_le (by simp [h]; omega)
  have e2 : (ts.take (8 * k)).length = 8 * k := by simp [h]; omega
  rw [List.take_append_of_le_length (by omega), List.take_take, Nat.min_self, List.drop_append, e1, List.nil_append, e2, List.drop_replicate]
  rw [show 8 * (k + 1) = 8 * k + 8 from by omega, List.take_add]
  congr 2
  omega

variable {P : Program}
/-- an element of a row of yes and no -/
theorem run_index_bl (w : World) (ty e : TypeId) (n : Nat) (xs : List Bool) (k : Nat) (hu : P.underlying ty = some (.array n e)) (hue : P.underlying e = some .bool) (he : (P.info? e).map (·.size) = some 1) (hk : k < n) (hn : n = xs.length) :
    (Instr.index ty (.agg (bl xs)) (.int .i64 k)).run P w = .ok (.bool (bn xs k)) w := by
  subst hn
  have hagg : (isAgg e).run P w = .ok false w := by
    unfold isAgg
    rw [Sem.run_bind, run_underlying hue w]
    rfl
  cases hq : P.info? e with
  | none => simp [hq] at he
  | some i =>
    have hs : i.size = 1 := by simpa [hq] using he
    simp [Instr.index, asIntOf, run_underlying hu, hk, sizeOf, typeInfo, hq, hs, part, hagg, bl_get hk]
end Go.Proofs.Ytpcobfcnpeoihaa

/-
  CALLS in a region taken by hand.
  No Go text in it. Conditions: those of each theorem.
-/
namespace Go.Proofs.Ytpcobfcnpeoihaa
open Go Go.RowKit
set_option maxRecDepth 100000

section
variable {P : Program} {ops : Array Oper} {o : Oper} {v : Value} {a : Act} {w : World} {S : World → Prop} {i : Nat} {K : Act → World → Prop} {Q : Exit → Act → World → Prop}
theorem yig (hw : Region.wanted o (yielded ops a.tmps) = true) (h : ∀ w, S w → (execOp a.eval o).run P w = .ok (.value v) w) : YieldsIf P ops S o v a := .inl ⟨hw, h⟩

theorem op_call_g {f : FuncId} {args : Array Value} (ho : ops[i]? = some o) (hw : Region.wanted o (yielded ops a.tmps) = true) (hx : (execOp a.eval o).run P w = .ok (.enter f args) w) (hc : Calls P f args w fun e w' => ∃ v, e = .returned v ∧ K (a.put o.dst v) w') : wpOp P ops Q i K a w := by
  unfold wpOp
  simp only [ho, hw, if_true]
  refine .inl ?_
  unfold Oper.wp
  rw [hx]
  unfold Oper.upon
  exact Calls.mono hc fun e w' ⟨v, he, hk⟩ => by subst he; exact hk

theorem wpAnyH_call {md : Region.Mode} {j fuel : Nat} {listed : Array Bool} {f : FuncId} {args : Array Value} (hr : Region.ready md ops listed = [j]) (ho : ops[j]? = some o) (hw : Region.wanted o (yielded ops a.tmps) = true) (hx : (execOp a.eval o).run P w = .ok (.enter f args) w)
    (hc : Calls P f args w fun e w' => ∃ v, e = .returned v ∧ S w' ∧ wpAnyH P md ops Q S fuel (listed.setIfInBounds j true) (a.put o.dst v) w') : wpAnyH P md ops Q S (fuel + 1) listed a w :=
  wpAnyH_all hr (by simp) fun i hi => by
    have e : i = j := by simpa using hi
    subst e
    exact op_call_g ho hw hx hc
end

end Go.Proofs.Ytpcobfcnpeoihaa

/-
  OPERATIONS on interface values, structs built of rows, copies between rows.
-/
namespace Go.Proofs.Ytpcobfcnpeoihaa
open Go Go.RowKit
set_option maxRecDepth 100000

section
variable {P : Program} {w w' : World} {ops : Array Oper} {rest : List Oper} {o : Oper} {a : Act} {Q : Exit → Act → World → Prop} {v : Value}
theorem is_ta (x : Operand) (t1 t2 : TypeId) (ok : Bool) (_ho : o.op = .typeAssert x t1 t2 ok) (h : wpList P ops Q (o :: rest) a w) : wpList P ops Q (o :: rest) a w := h

theorem wpList_ta (hg : o.guard = none) (x : Operand) (t1 t2 : TypeId) (ok : Bool) (ho : o.op = .typeAssert x t1 t2 ok) (vx : Value) (hx : a.eval x = vx) (hrun : (Instr.typeAssert vx t1 t2 ok).run P w = .ok v w) (h : wpList P ops Q rest (a.put o.dst v) w) : wpList P ops Q (o :: rest) a w := by
  refine wpList_plain hg fun K hK' => ?_
  unfold Oper.wp execOp
  simp only [ho, hx, Sem.run_bind, hrun, Sem.run_pure, Result.andThen_ok]
  exact hK' _ _ h

theorem is_bld (t : TypeId) (parts : Array (Nat × Operand)) (_ho : o.op = .build t parts) (h : wpList P ops Q (o :: rest) a w) : wpList P ops Q (o :: rest) a w := h

theorem wpList_bld (hg : o.guard = none) (t : TypeId) (parts : Array (Nat × Operand)) (ho : o.op = .build t parts) (ps : Array (Nat × Value)) (hps : (parts.map fun (i, x) => (i, a.eval x)) = ps) (c : Array Value) (hc : P.built t ps.toList = some c) (h : wpList P ops Q rest (a.put o.dst (.agg c)) w) : wpList P ops Q (o :: rest) a w := by
  refine wpList_plain hg fun K hK' => ?_
  unfold Oper.wp execOp
  simp only [ho, hps, Sem.run_bind, run_build w t ps c hc, Sem.run_pure, Result.andThen_ok]
  exact hK' _ _ h

theorem x_bld (t : TypeId) (parts : Array (Nat × Operand)) (ho : o.op = .build t parts) (ps : Array (Nat × Value)) (hps : (parts.map fun (i, x) => (i, a.eval x)) = ps) (c : Array Value) (hc : P.built t ps.toList = some c) : (execOp a.eval o).run P w = .ok (.value (.agg c)) w := by
  unfold execOp
  simp only [ho, hps, Sem.run_bind, run_build w t ps c hc, Sem.run_pure, Result.andThen_ok]

theorem x_copy (d s : Operand) (dT sT : TypeId) (ho : o.op = .call { callee := .builtin .copy, args := #[d, s], argTypes := #[dT, sT] }) (vd vs : Value) (hd : a.eval d = vd) (hs : a.eval s = vs) (hrun : (Builtin.copy_ #[dT, sT] o.type #[vd, vs]).run P w = .ok v w') : (execOp a.eval o).run P w = .ok (.value v) w' := by
  simp [execOp, ho, resolve, invoke, builtin, hd, hs, hrun, Result.andThen]
end

/-- the first k of eight, in a row of four -/
def cp4 (ys : List Bool) (k : Nat) : List Bool := ys.take k ++ List.replicate (4 - k) false

theorem cp4_len {ys : List Bool} (h : ys.length = 8) {k : Nat} (hk : k ≤ 4) : (cp4 ys k).length = 4 := by simp [cp4, h]; omega

theorem cp4_zero (ys : List Bool) : cp4 ys 0 = noes 4 := by simp [cp4, noes]

theorem cp4_set {ys : List Bool} (h : ys.length = 8) {k : Nat} (hk : k < 4) : (cp4 ys k).set k (bn ys k) = cp4 ys (k + 1) := by
  unfold cp4 bn
  rw [List.set_append_right _ _ (by simp; omega), List.take_succ_eq_append_getElem (by omega), List.getD_eq_getElem?_getD, List.getElem?_eq_getElem (by omega)]
  rw [show k - (List.take k ys).length = 0 from by simp; omega, show 4 - k = (4 - (k + 1)) + 1 from by omega, List.replicate_succ, List.append_assoc]
  rfl

theorem cp4_copy {ys : List Bool} (h : ys.length = 8) {k : Nat} (hk : k ≤ 4) : ((bl (noes 4)).toList.take 0 ++ (ys.take k).map Value.bool ++ (bl (noes 4)).toList.drop (0 + ((ys.take k).map Value.bool).length)).toArray = bl (cp4 ys k) := by
  unfold bl cp4 noes
  have e : (List.take k ys).length = k := by simp; omega
  rw [List.length_map, e, Nat.zero_add, List.take_zero, List.nil_append, List.map_append, List.map_replicate, List.map_replicate]
  rw [show (List.replicate 4 (Value.bool false)).toArray.toList = List.replicate 4 (Value.bool false) from rfl, List.drop_replicate]

theorem cp4_same {ys zs : List Bool} (k : Nat) (h : ys.take k = zs.take k) : cp4 ys k = cp4 zs k := by unfold cp4; rw [h]

theorem run_indexT {P : Program} (w : World) (ty e : TypeId) (g off n cap k s : Nat) (hu : P.underlying ty = some (.slice e)) (he : (P.info? e).map (·.size) = some s) (hk : k < n) :
    (Instr.indexAt ty (.slice (some ⟨g, off, none⟩) n cap) (.int .i64 (k : Int))).run P w = .ok (.pointer (some ⟨g, off + k * s, none⟩)) w := by
  cases hq : P.info? e with
  | none => simp [hq] at he
  | some i =>
    have hs : i.size = s := by simpa [hq] using he
    by_cases h0 : k * s = 0
    · simp [Instr.indexAt, Instr.sureAddr, asIntOf, run_underlying hu, hk, sizeOf, typeInfo, hq, hs, Addr.add, h0]
    · simp [Instr.indexAt, Instr.sureAddr, asIntOf, run_underlying hu, hk, sizeOf, typeInfo, hq, hs, Addr.add, h0]

end Go.Proofs.Ytpcobfcnpeoihaa
