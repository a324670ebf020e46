/-
  SEVERAL TEXTS IN ONE.
-/
import Derived.Test.YtboahhipobcabaaGreatG11
import Derived.Test.YtboahhipobcabaaGreatG3
import Derived.Test.YtboahhipobcabaaGreatG5
import Derived.Laws.CopyOwn
import Derived.Test.YtboahhipobcabaaGreatJtS
import Derived.Test.YtboahhipobcabaaGreatTn
import Derived.Test.YtboahhipobcabaaGreatG7

/-
  CALLS in a region taken by hand.
  No Go text in it. Conditions: those of each theorem.
-/
namespace Go.Proofs.YtboahhipobcabaaGreat
open Go Go.RowKit
set_option maxRecDepth 100000

section
variable {P : Program} {ops : Array Oper} {o : Oper} {v : Value} {a : Act} {w : World} {S : World → Prop} {i : Nat} {K : Act → World → Prop} {Q : Exit → Act → World → Prop}
theorem yig (hw : Region.wanted o (yielded ops a.tmps) = true) (h : ∀ w, S w → (execOp a.eval o).run P w = .ok (.value v) w) : YieldsIf P ops S o v a := .inl ⟨hw, h⟩

theorem op_call_g {f : FuncId} {args : Array Value} (ho : ops[i]? = some o) (hw : Region.wanted o (yielded ops a.tmps) = true) (hx : (execOp a.eval o).run P w = .ok (.enter f args) w) (hc : Calls P f args w fun e w' => ∃ v, e = .returned v ∧ K (a.put o.dst v) w') : wpOp P ops Q i K a w := by
  unfold wpOp
  simp only [ho, hw, if_true]
  refine .inl ?_
  unfold Oper.wp
  rw [hx]
  unfold Oper.upon
  exact Calls.mono hc fun e w' ⟨v, he, hk⟩ => by subst he; exact hk

theorem wpAnyH_call {md : Region.Mode} {j fuel : Nat} {listed : Array Bool} {f : FuncId} {args : Array Value} (hr : Region.ready md ops listed = [j]) (ho : ops[j]? = some o) (hw : Region.wanted o (yielded ops a.tmps) = true) (hx : (execOp a.eval o).run P w = .ok (.enter f args) w)
    (hc : Calls P f args w fun e w' => ∃ v, e = .returned v ∧ S w' ∧ wpAnyH P md ops Q S fuel (listed.setIfInBounds j true) (a.put o.dst v) w') : wpAnyH P md ops Q S (fuel + 1) listed a w :=
  wpAnyH_all hr (by simp) fun i hi => by
    have e : i = j := by simpa using hi
    subst e
    exact op_call_g ho hw hx hc
end

end Go.Proofs.YtboahhipobcabaaGreat

/-
  OPERATIONS on interface values, structs built of rows, copies between rows.
-/
namespace Go.Proofs.YtboahhipobcabaaGreat
open Go Go.RowKit
set_option maxRecDepth 100000

section
variable {P : Program} {w w' : World} {ops : Array Oper} {rest : List Oper} {o : Oper} {a : Act} {Q : Exit → Act → World → Prop} {v : Value}
theorem is_ta (x : Operand) (t1 t2 : TypeId) (ok : Bool) (_ho : o.op = .typeAssert x t1 t2 ok) (h : wpList P ops Q (o :: rest) a w) : wpList P ops Q (o :: rest) a w := h

theorem wpList_ta (hg : o.guard = none) (x : Operand) (t1 t2 : TypeId) (ok : Bool) (ho : o.op = .typeAssert x t1 t2 ok) (vx : Value) (hx : a.eval x = vx) (hrun : (Instr.typeAssert vx t1 t2 ok).run P w = .ok v w) (h : wpList P ops Q rest (a.put o.dst v) w) : wpList P ops Q (o :: rest) a w := by
  refine wpList_plain hg fun K hK' => ?_
  unfold Oper.wp execOp
  simp only [ho, hx, Sem.run_bind, hrun, Sem.run_pure, Result.andThen_ok]
  exact hK' _ _ h

theorem is_bld (t : TypeId) (parts : Array (Nat × Operand)) (_ho : o.op = .build t parts) (h : wpList P ops Q (o :: rest) a w) : wpList P ops Q (o :: rest) a w := h

theorem wpList_bld (hg : o.guard = none) (t : TypeId) (parts : Array (Nat × Operand)) (ho : o.op = .build t parts) (ps : Array (Nat × Value)) (hps : (parts.map fun (i, x) => (i, a.eval x)) = ps) (c : Array Value) (hc : P.built t ps.toList = some c) (h : wpList P ops Q rest (a.put o.dst (.agg c)) w) : wpList P ops Q (o :: rest) a w := by
  refine wpList_plain hg fun K hK' => ?_
  unfold Oper.wp execOp
  simp only [ho, hps, Sem.run_bind, run_build w t ps c hc, Sem.run_pure, Result.andThen_ok]
  exact hK' _ _ h

theorem x_bld (t : TypeId) (parts : Array (Nat × Operand)) (ho : o.op = .build t parts) (ps : Array (Nat × Value)) (hps : (parts.map fun (i, x) => (i, a.eval x)) = ps) (c : Array Value) (hc : P.built t ps.toList = some c) : (execOp a.eval o).run P w = .ok (.value (.agg c)) w := by
  unfold execOp
  simp only [ho, hps, Sem.run_bind, run_build w t ps c hc, Sem.run_pure, Result.andThen_ok]

theorem x_copy (d s : Operand) (dT sT : TypeId) (ho : o.op = .call { callee := .builtin .copy, args := #[d, s], argTypes := #[dT, sT] }) (vd vs : Value) (hd : a.eval d = vd) (hs : a.eval s = vs) (hrun : (Builtin.copy_ #[dT, sT] o.type #[vd, vs]).run P w = .ok v w') : (execOp a.eval o).run P w = .ok (.value v) w' := by
  simp [execOp, ho, resolve, invoke, builtin, hd, hs, hrun, Result.andThen]
end

/-- the first k of eight, in a row of four -/
def cp4 (ys : List Bool) (k : Nat) : List Bool := ys.take k ++ List.replicate (4 - k) false

theorem cp4_len {ys : List Bool} (h : ys.length = 8) {k : Nat} (hk : k ≤ 4) : (cp4 ys k).length = 4 := by simp [cp4, h]; omega

theorem cp4_zero (ys : List Bool) : cp4 ys 0 = noes 4 := by simp [cp4, noes]

theorem cp4_set {ys : List Bool} (h : ys.length = 8) {k : Nat} (hk : k < 4) : (cp4 ys k).set k (bn ys k) = cp4 ys (k + 1) := by
  unfold cp4 bn
  rw [List.set_append_right _ _ (by simp; omega), List.take_succ_eq_append_getElem (by omega), List.getD_eq_getElem?_getD, List.getElem?_eq_getElem (by omega)]
  rw [show k - (List.take k ys).length = 0 from by simp; omega, show 4 - k = (4 - (k + 1)) + 1 from by omega, List.replicate_succ, List.append_assoc]
  rfl

theorem cp4_copy {ys : List Bool} (h : ys.length = 8) {k : Nat} (hk : k ≤ 4) : ((bl (noes 4)).toList.take 0 ++ (ys.take k).map Value.bool ++ (bl (noes 4)).toList.drop (0 + ((ys.take k).map Value.bool).length)).toArray = bl (cp4 ys k) := by
  unfold bl cp4 noes
  have e : (List.take k ys).length = k := by simp; omega
  rw [List.length_map, e, Nat.zero_add, List.take_zero, List.nil_append, List.map_append, List.map_replicate, List.map_replicate]
  rw [show (List.replicate 4 (Value.bool false)).toArray.toList = List.replicate 4 (Value.bool false) from rfl, List.drop_replicate]

theorem cp4_same {ys zs : List Bool} (k : Nat) (h : ys.take k = zs.take k) : cp4 ys k = cp4 zs k := by unfold cp4; rw [h]

theorem run_indexT {P : Program} (w : World) (ty e : TypeId) (g off n cap k s : Nat) (hu : P.underlying ty = some (.slice e)) (he : (P.info? e).map (·.size) = some s) (hk : k < n) :
    (Instr.indexAt ty (.slice (some ⟨g, off, none⟩) n cap) (.int .i64 (k : Int))).run P w = .ok (.pointer (some ⟨g, off + k * s, none⟩)) w := by
  cases hq : P.info? e with
  | none => simp [hq] at he
  | some i =>
    have hs : i.size = s := by simpa [hq] using he
    by_cases h0 : k * s = 0
    · simp [Instr.indexAt, Instr.sureAddr, asIntOf, run_underlying hu, hk, sizeOf, typeInfo, hq, hs, Addr.add, h0]
    · simp [Instr.indexAt, Instr.sureAddr, asIntOf, run_underlying hu, hk, sizeOf, typeInfo, hq, hs, Addr.add, h0]

end Go.Proofs.YtboahhipobcabaaGreat

/-
  CONTRACTS: crossings: joints with what tells who may go.
-/
namespace Go.Proofs.YtboahhipobcabaaGreat
open Go Go.ChangeShapes Go.WideShapes Go.ChangeAt Go.RowKit
set_option maxRecDepth 100000

theorem built_open (y : Jr) : Tryz.prog.built 134 [(0, .agg (jrC y))] = some (jrC y) := by
  have h1 := y.1.hlt
  have h2 := y.1.hlp
  unfold jrC jr
  generalize y.1.ts = ts at h1 ⊢
  generalize y.1.ps = ps at h2 ⊢
  match ts, h1, ps, h2 with
  | [x0, x1, x2, x3, x4, x5, x6, x7, x8, x9, x10, x11, x12, x13, x14, x15], _, [q0, q1, q2, q3], _ => show _ = _; kernel_rfl

theorem built_lit (y : Jr) (v : Value) (b o : Int) : Tryz.prog.built 136 [(0, .agg (jrC y)), (1, .agg (plC v b o))] = some (jrC y ++ plC v b o) := by
  have h1 := y.1.hlt
  have h2 := y.1.hlp
  unfold jrC jr
  generalize y.1.ts = ts at h1 ⊢
  generalize y.1.ps = ps at h2 ⊢
  match ts, h1, ps, h2 with
  | [x0, x1, x2, x3, x4, x5, x6, x7, x8, x9, x10, x11, x12, x13, x14, x15], _, [q0, q1, q2, q3], _ => show _ = _; kernel_rfl

theorem ltR_size (y : Jr) (v : Value) (b o : Int) : (jrC y ++ plC v b o).size = 28 := by rw [Array.size_append, jrC_size]; rfl

theorem jrC_0 (y : Jr) : (jrC y)[0]? = some (.int .i64 y.1.i) := (jr_lo y.1.hlt y.1.hlp _ _ _ _ _ (by omega)).trans (jn_ins _ _ _ _)

theorem jrC_22 (y : Jr) : (jrC y)[22]? = some y.2.1 := jr_v y.1.hlt y.1.hlp _ _ _ _ _

theorem jrC_24 (y : Jr) : (jrC y)[24]? = some (.int .i64 y.1.p) := jr_p y.1.hlt y.1.hlp _ _ _ _ _

theorem ltR_0 (y : Jr) (v : Value) (b o : Int) : (jrC y ++ plC v b o)[0]? = some (.int .i64 y.1.i) := by
  rw [Array.getElem?_append_left (by rw [jrC_size]; omega)]
  exact jrC_0 y

theorem ltR_pl (y : Jr) (v : Value) (b o : Int) : (jrC y ++ plC v b o).extract 25 (25 + 3) = plC v b o := by
  rw [Array.extract_append, jrC_size]
  have h : (jrC y).extract 25 (25 + 3) = #[] := by
    apply Array.eq_empty_of_size_eq_zero
    rw [Array.size_extract, jrC_size]
    omega
  rw [h]
  rfl

theorem ltR_one (y : Jr) (v : Value) (b o : Int) (h1 : y.2.1.oneCell' = true) (h2 : y.2.2.oneCell' = true) (h3 : v.oneCell' = true) : (jrC y ++ plC v b o).all (·.oneCell') = true := by
  rw [Array.all_append]
  rw [show (jrC y).all (·.oneCell') = true from jr_one _ _ _ _ _ _ _ h1 h2, pl_one v h3 b o]
  rfl

theorem insOpen_own (y : Jr) (w : World) : Calls Tryz.prog 242 #[.agg (jrC y)] w fun e w' => e = .returned (.int .i64 y.1.i) ∧ Below w.heap.size w w' := by
  have A0 := At.new w (jrC y) 134
  have B0 := Lib.hid (b0 w (.cells (jrC y) 134))
  have h0 := jrC_0 y
  go_enter Tryz.func242, Tryz.ntmps242
  go_wp2_with (((with_reducible refine is_load 2 _ rfl ?_); refine wpList_load_cell rfl 2 _ rfl _ 0 rfl (jrC y) _ (by with_reducible assumption) _ Tryz.underlying2 rfl (.int .i64 y.1.i) (h0) ?_))
  go_ret
  exact ⟨rfl, B0.out⟩

theorem insLit_own (y : Jr) (v : Value) (b o : Int) (w : World) : Calls Tryz.prog 243 #[.agg (jrC y ++ plC v b o)] w fun e w' => e = .returned (.int .i64 y.1.i) ∧ Below w.heap.size w w' := by
  have h0 := ltR_0 y v b o
  generalize (jrC y ++ plC v b o) = R at *
  have A0 := At.new w R 136
  have B0 := Lib.hid (b0 w (.cells R 136))
  go_enter Tryz.func243, Tryz.ntmps243
  go_wp2_with (((with_reducible refine is_load 2 _ rfl ?_); refine wpList_load_cell rfl 2 _ rfl _ 0 rfl (R) _ (by with_reducible assumption) _ Tryz.underlying2 rfl (.int .i64 y.1.i) (h0) ?_))
  go_ret
  exact ⟨rfl, B0.out⟩

theorem crossing_open (y : Jr) (hp : y.1.p = -1) (row : Array Value) (w : World) : Calls Tryz.prog 33 #[.agg row, .agg (jrC y)] w fun e w' => e = .returned (.iface 134 (.agg (jrC y))) ∧ Below w.heap.size w w' := by
  have A0 : At ((w.alloc (.cells row 37)).alloc (.cells (jrC y) 73)) (w.heap.size + 1) (jrC y) 73 := At.last1 w _ _ _
  have B0 := Lib.hid (bnew (b0 w (.cells row 37)) (.cells (jrC y) 73))
  have h24 := jrC_24 y
  rw [hp] at h24
  go_enter Tryz.func33, Tryz.ntmps33
  go_wp2_with (first | ((with_reducible refine is_load 2 _ rfl ?_); refine wpList_load_cell rfl 2 _ rfl _ 24 rfl (jrC y) _ (by with_reducible assumption) _ Tryz.underlying2 rfl (.int .i64 (-1)) (h24) ?_) | ((with_reducible refine is_load 73 _ rfl ?_); refine wpList_load_at rfl 73 _ rfl _ rfl (jrC y) _ (by with_reducible assumption) 25 (jrC_size _) _ Tryz.underlying73 rfl (by kernel_rfl) ?_) | ((with_reducible refine is_bld 134 _ rfl ?_); refine wpList_bld rfl 134 _ rfl #[(0, .agg (jrC y))] (by kernel_rfl) _ (built_open y) ?_))
  go_ret
  exact ⟨rfl, B0.out⟩

set_option maxHeartbeats 1000000 in
theorem crossing_lit (y : Jr) (k np gp : Nat) (hp : y.1.p = (k : Int)) (hk : k < np) (hnp : np ≤ 1048576) (vr vf vj : Value) (tk : Int) (ca we : Nat) (R : Array Value) (v : Value) (b o : Int) (w : World) (hR : At w gp R 58) (hle : k * 3 + 3 ≤ R.size) (hsl : R.extract (k * 3) (k * 3 + 3) = plC v b o) :
    Calls Tryz.prog 33 #[.agg (tnC vr vf vj (.slice (some ⟨gp, 0, none⟩) np np) tk ca we), .agg (jrC y)] w fun e w' => e = .returned (.iface 136 (.agg (jrC y ++ plC v b o))) ∧ Below w.heap.size w w' := by
  have T0 : At ((w.alloc (.cells (tnC vr vf vj (.slice (some ⟨gp, 0, none⟩) np np) tk ca we) 37)).alloc (.cells (jrC y) 73)) w.heap.size (tnC vr vf vj (.slice (some ⟨gp, 0, none⟩) np np) tk ca we) 37 := (At.new w _ _).alloc _
  have A0 : At ((w.alloc (.cells (tnC vr vf vj (.slice (some ⟨gp, 0, none⟩) np np) tk ca we) 37)).alloc (.cells (jrC y) 73)) (w.heap.size + 1) (jrC y) 73 := At.last1 w _ _ _
  have R0 := (hR.alloc (.cells (tnC vr vf vj (.slice (some ⟨gp, 0, none⟩) np np) tk ca we) 37)).alloc (.cells (jrC y) 73)
  have B0 := Lib.hid (bnew (b0 w (.cells (tnC vr vf vj (.slice (some ⟨gp, 0, none⟩) np np) tk ca we) 37)) (.cells (jrC y) 73))
  have h24 := jrC_24 y
  have hpn : (y.1.p == (-1 : Int)) = false := by rw [hp]; exact beq_eq_false_iff_ne.2 (by omega)
  have hbld := built_lit y v b o
  obtain ⟨X, hX⟩ : ∃ X, X = (jrC y ++ plC v b o) := ⟨_, rfl⟩
  rw [← hX] at hbld ⊢
  clear hR hX
  generalize y.1.p = p at *
  subst hp
  go_enter Tryz.func33, Tryz.ntmps33
  go_wp2_with (first | ((with_reducible refine is_load 2 _ rfl ?_); refine wpList_load_cell rfl 2 _ rfl _ 24 rfl (jrC y) _ (by with_reducible assumption) _ Tryz.underlying2 rfl (.int .i64 (k : Int)) (h24) ?_))
  generalize ((w.alloc (.cells (tnC vr vf vj (.slice (some ⟨gp, 0, none⟩) np np) tk ca we) 37)).alloc (.cells (jrC y) 73)) = w1 at *
  refine wp_region_held (S := fun w' => Below w1.heap.size w1 w') (by kernel_rfl) ?_
  show wpAnyH _ _ _ _ _ 10 (Array.replicate 10 false) _ _
  have S0 : Below w1.heap.size w1 { w1 with drawn := w1.drawn + 1 } := bdrew (Below.refl _ w1) 1
  generalize hw0 : ({ w1 with drawn := w1.drawn + 1 } : World) = w2 at S0 ⊢
  clear hw0
  refine wpAnyH_take (i := 0) (v := .agg (jrC y)) rfl (by kernel_rfl) (by kernel_rfl) (by kernel_rfl) (fun _ _ _ h => h) (yif rfl fun w' hw' => x_load 73 (.tmp 3) rfl ⟨w.heap.size + 1, 0, none⟩ (by kernel_rfl) (run_loadAt_part w' _ 0 25 73 (jrC y) 73 (0, 0) _ (A0.step hw') Tryz.underlying73 rfl (by kernel_rfl) (by rw [jrC_size]; omega) |>.trans (by rw [show (jrC y).extract 0 (0 + 25) = jrC y from by rw [Nat.zero_add, Array.extract_eq_self_of_le (by rw [jrC_size]; omega)]]))) (by assumption) ?_
  refine wpAnyH_take (i := 1) (v := .pointer (some ⟨w.heap.size, 3, none⟩)) rfl (by kernel_rfl) (by kernel_rfl) (by kernel_rfl) (fun _ _ _ h => h) (yif rfl fun w2 hw2 => by kernel_rfl) (by assumption) ?_
  refine wpAnyH_take (i := 2) (v := .slice (some ⟨gp, 0, none⟩) np np) rfl (by kernel_rfl) (by kernel_rfl) (by kernel_rfl) (fun _ _ _ h => h) (yif rfl fun w' hw' => x_load 35 (.tmp 12) rfl ⟨w.heap.size, 3, none⟩ (by kernel_rfl) (run_load_one w' 35 _ Tryz.underlying35 rfl _ _ ((T0.step hw').cell (tnC_3 _ _ _ _ _ _ _)))) (by assumption) ?_
  refine wpAnyH_take (i := 3) (v := .pointer (some ⟨w.heap.size + 1, 24, none⟩)) rfl (by kernel_rfl) (by kernel_rfl) (by kernel_rfl) (fun _ _ _ h => h) (yif rfl fun w2 hw2 => by kernel_rfl) (by assumption) ?_
  refine wpAnyH_take (i := 4) (v := .int .i64 (k : Int)) rfl (by kernel_rfl) (by kernel_rfl) (by kernel_rfl) (fun _ _ _ h => h) (yif rfl fun w' hw' => x_load 2 (.tmp 14) rfl ⟨w.heap.size + 1, 24, none⟩ (by kernel_rfl) (run_load_one w' 2 _ Tryz.underlying2 rfl _ _ ((A0.step hw').cell h24))) (by assumption) ?_
  refine wpAnyH_take (i := 5) (v := .pointer (some ⟨gp, k * 3, none⟩)) rfl (by kernel_rfl) (by kernel_rfl) (by kernel_rfl) (fun _ _ _ h => h) (yif rfl fun w' hw' => hx_index 35 (.tmp 13) (.tmp 15) rfl (.slice (some ⟨gp, 0, none⟩) np np) (.int .i64 (k : Int)) (by kernel_rfl) (by kernel_rfl) ((run_indexT w' 35 58 gp 0 np np k 3 Tryz.underlying35 (by kernel_rfl) hk).trans (by rw [Nat.zero_add]))) (by assumption) ?_
  refine wpAnyH_take (i := 6) (v := .agg (plC v b o)) rfl (by kernel_rfl) (by kernel_rfl) (by kernel_rfl) (fun _ _ _ h => h) (yif rfl fun w' hw' => x_load 58 (.tmp 16) rfl ⟨gp, k * 3, none⟩ (by kernel_rfl) ((run_loadAt_part w' gp (k * 3) 3 58 R 58 (0, 0) _ (R0.step hw') Tryz.underlying58 rfl (by kernel_rfl) hle).trans (by rw [hsl]))) (by assumption) ?_
  refine wpAnyH_take (i := 7) (v := .agg X) rfl (by kernel_rfl) (by kernel_rfl) (by kernel_rfl) (fun _ _ _ h => h) (yif rfl fun w' hw' => x_bld 136 _ rfl #[(0, .agg (jrC y)), (1, .agg (plC v b o))] (by kernel_rfl) _ hbld) (by assumption) ?_
  refine wpAnyH_take (i := 8) (v := .iface 136 (.agg X)) rfl (by kernel_rfl) (by kernel_rfl) (by kernel_rfl) (fun _ _ _ h => h) (yif rfl fun w2 hw2 => by kernel_rfl) (by assumption) ?_
  refine wpAnyH_take (i := 9) (v := .iface 136 (.agg X)) rfl (by kernel_rfl) (by kernel_rfl) (by kernel_rfl) (fun _ _ _ h => h) (yif rfl fun w2 hw2 => by kernel_rfl) (by assumption) ?_
  refine wpAnyH_done (by kernel_rfl) ?_ _
  have B2 := Lib.hid (bthen B0.out S0)
  clear S0 T0 A0 R0 hsl hle hbld
  go_simp
  go_wp2
  go_ret
  exact ⟨rfl, B2.out⟩

end Go.Proofs.YtboahhipobcabaaGreat

/-
  PLANS, AS NUMBERS: the cycle of a plan, what a valid plan is.
  No Go text in it. Conditions: those of each theorem.
-/
namespace Go.Proofs.YtboahhipobcabaaGreat
open Go Go.RowKit

/-- the ticks of the first m slots -/
def tks (xs : Slots) : Nat → Int
  | 0 => 0
  | m + 1 => tks xs m + st xs m
def tkOne (t : Int) : Bool := decide (1 ≤ t ∧ t ≤ 240)
/-- the first m slots have 1 to 240 ticks -/
def tkOk (xs : Slots) : Nat → Bool
  | 0 => true
  | m + 1 => tkOk xs m && tkOne (st xs m)
def btw (b : Int) : Bool := decide (0 ≤ b ∧ b ≤ 240)
/-- the cycle -/
def cyc (xs : Slots) (b : Int) : Int := (xs.length : Int) * b + tks xs xs.length
def lenOk (xs : Slots) : Bool := decide (1 ≤ xs.length ∧ xs.length ≤ 8)
/-- a valid plan -/
def okP (xs : Slots) (b o : Int) : Bool := lenOk xs && (btw b && (tkOk xs xs.length && (decide (cyc xs b ≤ 240) && decide (0 ≤ o ∧ o < cyc xs b))))
theorem tkOk_no {xs : Slots} : ∀ {m k : Nat}, k < m → tkOne (st xs k) = false → tkOk xs m = false
  | 0, k, h, _ => by omega
  | m + 1, k, h, e => by
    unfold tkOk
    by_cases c : k = m
    · subst c; rw [e, Bool.and_false]
    · rw [tkOk_no (by omega : k < m) e, Bool.false_and]
theorem tkOk_next {xs : Slots} {m : Nat} (h : tkOk xs m = true) (e : tkOne (st xs m) = true) : tkOk xs (m + 1) = true := by
  unfold tkOk; rw [h, e]; rfl
theorem tkOk_at {xs : Slots} : ∀ {m k : Nat}, k < m → tkOk xs m = true → 1 ≤ st xs k ∧ st xs k ≤ 240
  | 0, k, h, _ => by omega
  | m + 1, k, h, e => by
    unfold tkOk at e
    rw [Bool.and_eq_true] at e
    by_cases c : k = m
    · subst c; simpa [tkOne] using e.2
    · exact tkOk_at (by omega) e.1
theorem tks_bnd {xs : Slots} : ∀ {m n : Nat}, m ≤ n → tkOk xs n = true → (m : Int) ≤ tks xs m ∧ tks xs m ≤ 240 * m
  | 0, n, _, _ => by unfold tks; omega
  | m + 1, n, h, e => by
    have := tks_bnd (m := m) (n := n) (by omega) e
    have := tkOk_at (k := m) (m := n) (by omega) e
    unfold tks
    omega
theorem okP_parts {xs : Slots} {b o : Int} (h : okP xs b o = true) : (1 ≤ xs.length ∧ xs.length ≤ 8) ∧ (0 ≤ b ∧ b ≤ 240) ∧ tkOk xs xs.length = true ∧ cyc xs b ≤ 240 ∧ 0 ≤ o ∧ o < cyc xs b := by
  unfold okP lenOk btw at h
  simpa [and_assoc] using h
theorem okP_len {xs : Slots} {b o : Int} (h : lenOk xs = false) : okP xs b o = false := by unfold okP; rw [h]; rfl
theorem okP_btw {xs : Slots} {b o : Int} (h : btw b = false) : okP xs b o = false := by unfold okP; rw [h]; simp
theorem okP_tk {xs : Slots} {b o : Int} {k : Nat} (hk : k < xs.length) (h : tkOne (st xs k) = false) : okP xs b o = false := by unfold okP; rw [tkOk_no hk h]; simp
theorem okP_rest {xs : Slots} {b o : Int} (h1 : lenOk xs = true) (h2 : btw b = true) (h3 : tkOk xs xs.length = true) : okP xs b o = (decide (cyc xs b ≤ 240) && decide (0 ≤ o ∧ o < cyc xs b)) := by unfold okP; rw [h1, h2, h3]; rfl
end Go.Proofs.YtboahhipobcabaaGreat
