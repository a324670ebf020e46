/-
  SEVERAL TEXTS IN ONE.
-/
import Derived.Test.YtldchcjnepnjnaaG4
import Derived.Test.YtldchcjnepnjnaaG9
import Derived.Test.YtldchcjnepnjnaaG3
import Derived.Laws.CopyOwn
import Derived.Test.YtldchcjnepnjnaaLtZ

/-
  OPERATIONS on interface values, structs built of rows, copies between rows.
-/
namespace Go.Proofs.Ytldchcjnepnjnaa
open Go Go.RowKit
set_option maxRecDepth 100000

section
variable {P : Program} {w w' : World} {ops : Array Oper} {rest : List Oper} {o : Oper} {a : Act} {Q : Exit → Act → World → Prop} {v : Value}
theorem is_ta (x : Operand) (t1 t2 : TypeId) (ok : Bool) (_ho : o.op = .typeAssert x t1 t2 ok) (h : wpList P ops Q (o :: rest) a w) : wpList P ops Q (o :: rest) a w := h

theorem wpList_ta (hg : o.guard = none) (x : Operand) (t1 t2 : TypeId) (ok : Bool) (ho : o.op = .typeAssert x t1 t2 ok) (vx : Value) (hx : a.eval x = vx) (hrun : (Instr.typeAssert vx t1 t2 ok).run P w = .ok v w) (h : wpList P ops Q rest (a.put o.dst v) w) : wpList P ops Q (o :: rest) a w := by
  refine wpList_plain hg fun K hK' => ?_
  unfold Oper.wp execOp
  simp only [ho, hx, Sem.run_bind, hrun, Sem.run_pure, Result.andThen_ok]
  exact hK' _ _ h

theorem is_bld (t : TypeId) (parts : Array (Nat × Operand)) (_ho : o.op = .build t parts) (h : wpList P ops Q (o :: rest) a w) : wpList P ops Q (o :: rest) a w := h

theorem wpList_bld (hg : o.guard = none) (t : TypeId) (parts : Array (Nat × Operand)) (ho : o.op = .build t parts) (ps : Array (Nat × Value)) (hps : (parts.map fun (i, x) => (i, a.eval x)) = ps) (c : Array Value) (hc : P.built t ps.toList = some c) (h : wpList P ops Q rest (a.put o.dst (.agg c)) w) : wpList P ops Q (o :: rest) a w := by
  refine wpList_plain hg fun K hK' => ?_
  unfold Oper.wp execOp
  simp only [ho, hps, Sem.run_bind, run_build w t ps c hc, Sem.run_pure, Result.andThen_ok]
  exact hK' _ _ h

theorem x_bld (t : TypeId) (parts : Array (Nat × Operand)) (ho : o.op = .build t parts) (ps : Array (Nat × Value)) (hps : (parts.map fun (i, x) => (i, a.eval x)) = ps) (c : Array Value) (hc : P.built t ps.toList = some c) : (execOp a.eval o).run P w = .ok (.value (.agg c)) w := by
  unfold execOp
  simp only [ho, hps, Sem.run_bind, run_build w t ps c hc, Sem.run_pure, Result.andThen_ok]

theorem x_copy (d s : Operand) (dT sT : TypeId) (ho : o.op = .call { callee := .builtin .copy, args := #[d, s], argTypes := #[dT, sT] }) (vd vs : Value) (hd : a.eval d = vd) (hs : a.eval s = vs) (hrun : (Builtin.copy_ #[dT, sT] o.type #[vd, vs]).run P w = .ok v w') : (execOp a.eval o).run P w = .ok (.value v) w' := by
  simp [execOp, ho, resolve, invoke, builtin, hd, hs, hrun, Result.andThen]
end

/-- the first k of eight, in a row of four -/
def cp4 (ys : List Bool) (k : Nat) : List Bool := ys.take k ++ List.replicate (4 - k) false

theorem cp4_len {ys : List Bool} (h : ys.length = 8) {k : Nat} (hk : k ≤ 4) : (cp4 ys k).length = 4 := by simp [cp4, h]; omega

theorem cp4_zero (ys : List Bool) : cp4 ys 0 = noes 4 := by simp [cp4, noes]

theorem cp4_set {ys : List Bool} (h : ys.length = 8) {k : Nat} (hk : k < 4) : (cp4 ys k).set k (bn ys k) = cp4 ys (k + 1) := by
  unfold cp4 bn
  rw [List.set_append_right _ _ (by simp; omega), List.take_succ_eq_append_getElem (by omega), List.getD_eq_getElem?_getD, List.getElem?_eq_getElem (by omega)]
  rw [show k - (List.take k ys).length = 0 from by simp; omega, show 4 - k = (4 - (k + 1)) + 1 from by omega, List.replicate_succ, List.append_assoc]
  rfl

theorem cp4_copy {ys : List Bool} (h : ys.length = 8) {k : Nat} (hk : k ≤ 4) : ((bl (noes 4)).toList.take 0 ++ (ys.take k).map Value.bool ++ (bl (noes 4)).toList.drop (0 + ((ys.take k).map Value.bool).length)).toArray = bl (cp4 ys k) := by
  unfold bl cp4 noes
  have e : (List.take k ys).length = k := by simp; omega
  rw [List.length_map, e, Nat.zero_add, List.take_zero, List.nil_append, List.map_append, List.map_replicate, List.map_replicate]
  rw [show (List.replicate 4 (Value.bool false)).toArray.toList = List.replicate 4 (Value.bool false) from rfl, List.drop_replicate]

theorem cp4_same {ys zs : List Bool} (k : Nat) (h : ys.take k = zs.take k) : cp4 ys k = cp4 zs k := by unfold cp4; rw [h]

theorem run_indexT {P : Program} (w : World) (ty e : TypeId) (g off n cap k s : Nat) (hu : P.underlying ty = some (.slice e)) (he : (P.info? e).map (·.size) = some s) (hk : k < n) :
    (Instr.indexAt ty (.slice (some ⟨g, off, none⟩) n cap) (.int .i64 (k : Int))).run P w = .ok (.pointer (some ⟨g, off + k * s, none⟩)) w := by
  cases hq : P.info? e with
  | none => simp [hq] at he
  | some i =>
    have hs : i.size = s := by simpa [hq] using he
    by_cases h0 : k * s = 0
    · simp [Instr.indexAt, Instr.sureAddr, asIntOf, run_underlying hu, hk, sizeOf, typeInfo, hq, hs, Addr.add, h0]
    · simp [Instr.indexAt, Instr.sureAddr, asIntOf, run_underlying hu, hk, sizeOf, typeInfo, hq, hs, Addr.add, h0]

end Go.Proofs.Ytldchcjnepnjnaa

/-
  CONTRACTS: a light one tick later: the numbers.
-/
namespace Go.Proofs.Ytldchcjnepnjnaa
open Go Go.ChangeShapes Go.WideShapes Go.ChangeAt Go.RowKit
set_option maxRecDepth 100000

/-- is a movement with green called, among the first so many? -/
def cal (g cs : List Bool) : Nat → Bool
  | 0 => false
  | i + 1 => cal g cs i || (bn g i && bn cs i)

/-- a light one tick later -/
def stepT (xs : Slots) (b : Nat) (cs : List Bool) (le mo k n : Nat) (r : Bool) : Nat × Nat × Bool :=
  if r then (if n + 1 = b then ((k + 1) % xs.length, 0, false) else (k, n + 1, true))
  else if (le ≤ n + 1 ∧ cal (sb xs k) cs 8 = false) ∨ mo ≤ n + 1 then (if b = 0 then ((k + 1) % xs.length, 0, false) else (k, 0, true)) else (k, n + 1, false)

theorem bl_noes : (#[.bool false, .bool false, .bool false, .bool false, .bool false, .bool false, .bool false, .bool false] : Array Value) = bl (noes 8) := by kernel_rfl

theorem lt_bld (a n : Int) (r : Bool) : Try.prog.built 33 [(0, .int .i64 a), (1, .int .i64 n), (2, .bool r)] = some (ltC a n r) := by kernel_rfl

theorem lt_bld0 (a : Int) : Try.prog.built 33 [(0, .int .i64 a)] = some (ltC a 0 false) := by kernel_rfl

theorem lt_bld2 (a : Int) (r : Bool) : Try.prog.built 33 [(0, .int .i64 a), (2, .bool r)] = some (ltC a 0 r) := by kernel_rfl

theorem At.last3 (w : World) (a b c : Obj) (d : Array Value) (T : TypeId) : At ((((w.alloc a).alloc b).alloc c).alloc (.cells d T)) (w.heap.size + 1 + 1 + 1) d T := by
  have := At.new (((w.alloc a).alloc b).alloc c) d T
  rwa [World.size_alloc, World.size_alloc, World.size_alloc] at this

theorem hold {p : Prop} (h : Hid p) : p := h.out

end Go.Proofs.Ytldchcjnepnjnaa
