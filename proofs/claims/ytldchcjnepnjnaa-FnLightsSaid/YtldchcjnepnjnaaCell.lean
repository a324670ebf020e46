/-
  ROWS OF NUMBERS IN MEMORY: rows of floats, roads as rows; a whole row, or a part of one, loaded and stored.
  No Go text in it. Conditions: those of each theorem.
-/
import Derived.Test.YtldchcjnepnjnaaFltRun
import Derived.Laws.Rows
import Derived.Laws.Tables
import Derived.Laws.CopyRow
import Derived.Laws.World
import Derived.Deep.WholeRow
import Derived.Lib.Hide
namespace Go.Proofs.Ytldchcjnepnjnaa
open Go

/-- the number at a place (0 behind the end) -/
def nth (xs : List Nat) (k : Nat) : Nat := xs.getD k 0

/-- a row of narrow floats -/
def fl (xs : List Nat) : Array Value := (xs.map (Value.float .f32)).toArray
theorem fl_size (xs : List Nat) : (fl xs).size = xs.length := by simp [fl]
theorem fl_get {xs : List Nat} {k : Nat} (h : k < xs.length) : (fl xs)[k]? = some (.float .f32 (nth xs k)) := by
  simp [fl, nth, List.getElem?_map, List.getElem?_eq_getElem h, List.getD]
theorem fl_extract (xs : List Nat) (a b : Nat) : (fl xs).extract a b = fl ((xs.take b).drop a) := by
  apply Array.ext'
  simp [fl, List.map_drop, List.map_take, List.drop_take]
theorem fl_set (xs : List Nat) (k x : Nat) : (fl xs).setIfInBounds k (.float .f32 x) = fl (xs.set k x) := by
  apply Array.ext'
  simp [fl]
theorem fl_one (xs : List Nat) : (fl xs).all (·.oneCell') = true := by
  simp only [fl, List.all_toArray, List.all_map]
  rw [List.all_eq_true]
  intro x _
  rfl
theorem fl_inj {xs ys : List Nat} (h : fl xs = fl ys) : xs = ys := by
  have := congrArg Array.toList h
  simp only [fl] at this
  exact (List.map_inj_right (fun a b e => by cases e; rfl)).1 this

/-- the cells of a road -/
def rd (cs : List Nat) (p b l : Nat) : Array Value := fl (cs ++ [p, b, l])
theorem rd_size {cs : List Nat} (h : cs.length = 16) (p b l : Nat) : (rd cs p b l).size = 19 := by simp [rd, fl_size, h]
theorem rd_cell {cs : List Nat} (h : cs.length = 16) (p b l : Nat) {k : Nat} (hk : k < 16) : (rd cs p b l)[k]? = some (.float .f32 (nth cs k)) := by
  unfold rd
  rw [fl_get (by simp; omega)]
  congr 2
  simp only [nth, List.getD]
  rw [List.getElem?_append_left (by omega)]
theorem rd_pace {cs : List Nat} (h : cs.length = 16) (p b l : Nat) : (rd cs p b l)[16]? = some (.float .f32 p) := by
  unfold rd; rw [fl_get (by simp [h])]; simp only [nth, List.getD]; rw [List.getElem?_append_right (by omega)]; simp [h]
theorem rd_back {cs : List Nat} (h : cs.length = 16) (p b l : Nat) : (rd cs p b l)[17]? = some (.float .f32 b) := by
  unfold rd; rw [fl_get (by simp [h])]; simp only [nth, List.getD]; rw [List.getElem?_append_right (by omega)]; simp [h]
theorem rd_lanes {cs : List Nat} (h : cs.length = 16) (p b l : Nat) : (rd cs p b l)[18]? = some (.float .f32 l) := by
  unfold rd; rw [fl_get (by simp [h])]; simp only [nth, List.getD]; rw [List.getElem?_append_right (by omega)]; simp [h]
theorem rd_cars {cs : List Nat} (h : cs.length = 16) (p b l : Nat) : (rd cs p b l).extract 0 16 = fl cs := by
  unfold rd; rw [fl_extract]; congr 1; simp [← h]

variable {P : Program}

/-- a part of a row, loaded as an array or a struct -/
theorem run_loadAt_part (w : World) (g off n : Nat) (ty : TypeId) (cs : Array Value) (t : TypeId) (fr : Nat × Nat) (d : TypeDesc) (hg : w.heap[g]? = some (.cells cs t fr))
    (hu : P.underlying ty = some d) (hd : (match d with | .struct _ | .array _ _ => true | _ => false) = true) (hi : (P.info? ty).map (·.size) = some n) (hle : off + n ≤ cs.size) :
    (Instr.loadAt ty (.pointer (some ⟨g, off, none⟩))).run P w = .ok (.agg (cs.extract off (off + n))) w := by
  have hl := run_loadCells (P := P) w ⟨g, off, none⟩ n (fun j => cs.getD (off + j) undef) (fun j hj => by
    have hadd : (⟨g, off, none⟩ : Addr).add j = ⟨g, off + j, none⟩ := by unfold Addr.add; split <;> simp_all
    rw [hadd, cell_of_row w g (off + j) cs t fr hg, Array.getD_eq_getD_getElem?, Array.getElem?_eq_getElem (by omega)]; rfl)
  have he : ((List.range n).map fun j => cs.getD (off + j) undef).toArray = cs.extract off (off + n) := by
    apply Array.ext_getElem?
    intro i
    by_cases h : i < n
    · rw [Array.getElem?_extract]
      simp [h, Array.getD_eq_getD_getElem?]
      rw [Array.getElem?_eq_getElem (by omega)]
      exact ⟨by omega, rfl⟩
    · rw [Array.getElem?_extract, if_neg (by omega)]
      simp; omega
  rw [he] at hl
  cases hq : P.info? ty with
  | none => simp [hq] at hi
  | some i =>
    have hs : i.size = n := by simpa [hq] using hi
    have hagg : (isAgg ty).run P w = .ok true w := by
      unfold isAgg
      rw [Sem.run_bind, run_underlying hu w]
      cases d <;> simp_all
    simp only [Instr.loadAt, Instr.sureAddr, Sem.run_bind, Sem.run_pure, Result.andThen]
    simp [loadVar, Sem.run_bind, hagg, sizeOf, typeInfo, hq, hs, hl]

/-- a row with a part of it written over -/
def splice (old : Array Value) (off : Nat) (cells : Array Value) : Array Value := (old.toList.take off ++ cells.toList ++ old.toList.drop (off + cells.size)).toArray
theorem splice_fl (xs ys : List Nat) (off : Nat) : splice (fl xs) off (fl ys) = fl (xs.take off ++ ys ++ xs.drop (off + ys.length)) := by
  simp [splice, fl, List.map_take, List.map_drop]
theorem splice_all {old cells : Array Value} (h : old.size = cells.size) : splice old 0 cells = cells := by
  unfold splice; apply Array.ext'; simp; omega
theorem splice_size {old cells : Array Value} {off : Nat} (h : off + cells.size ≤ old.size) : (splice old off cells).size = old.size := by
  unfold splice; simp; omega

theorem run_storeAt_part (w : World) (g off : Nat) (t ty : TypeId) (old cells : Array Value) (hg : w.heap[g]? = some (.cells old t (0, 0))) (hi : (P.info? ty).map (·.size) = some cells.size)
    (ho : off + cells.size ≤ old.size) (h1 : cells.all (·.oneCell') = true) :
    (Instr.storeAt ty (.pointer (some ⟨g, off, none⟩)) (.agg cells)).run P w = .ok () (w.setRow g (splice old off cells)) := by
  have hs := run_storeCells_at (P := P) g off t cells.toList 0 old w hg (by simp; omega) (fun v hv => (Array.all_eq_true_iff_forall_mem.1 h1) v (by simpa using hv))
  simp only [Nat.add_zero, Array.length_toList] at hs
  cases hq : P.info? ty with
  | none => simp [hq] at hi
  | some i =>
    have hsz : cells.size = i.size := by simp [hq] at hi; omega
    simp only [Instr.storeAt, Instr.sureAddr, Sem.run_bind, Sem.run_pure, Result.andThen]
    simp [storeVar, sizeOf, typeInfo, hq, Value.cells, hsz]
    rw [hs]
    rfl

theorem heap_last (w : World) (o : Obj) : (w.alloc o).heap[w.heap.size]? = some o := heap_alloc_last w o
theorem heap_old {w : World} {g : Nat} {x : Obj} (h : w.heap[g]? = some x) (o : Obj) : (w.alloc o).heap[g]? = some x := by
  have hlt : g < w.heap.size := by
    rcases Nat.lt_or_ge g w.heap.size with c | c
    · exact c
    · rw [Array.getElem?_eq_none c] at h; cases h
  show (w.heap.push o)[g]? = _
  rw [Array.getElem?_push, if_neg (by omega)]; exact h

theorem setRow_alloc_old (w : World) (g : Nat) (c : Array Value) (o : Obj) (h : g < w.heap.size) : (w.alloc o).setRow g c = (w.setRow g c).alloc o := by
  simp only [World.setRow, World.alloc]
  congr 1
  apply Array.ext_getElem?
  intro i
  rw [Array.getElem?_modify, Array.getElem?_push, Array.getElem?_push, Array.size_modify]
  by_cases e : i = w.heap.size
  · subst e; simp; omega
  · simp [e, Array.getElem?_modify]

/-- an element of a row of narrow floats -/
theorem run_index_fl (w : World) (ty e : TypeId) (n : Nat) (xs : List Nat) (k : Nat) (hu : P.underlying ty = some (.array n e)) (hue : P.underlying e = some (.float .f32)) (he : (P.info? e).map (·.size) = some 1) (hk : k < n) (hn : n = xs.length) :
    (Instr.index ty (.agg (fl xs)) (.int .i64 k)).run P w = .ok (.float .f32 (nth xs k)) w := by
  subst hn
  have hagg : (isAgg e).run P w = .ok false w := by
    unfold isAgg
    rw [Sem.run_bind, run_underlying hue w]
    rfl
  cases hq : P.info? e with
  | none => simp [hq] at he
  | some i =>
    have hs : i.size = 1 := by simpa [hq] using he
    simp [Instr.index, asIntOf, run_underlying hu, hk, sizeOf, typeInfo, hq, hs, part, hagg, fl_get hk]

/-- zeros -/
def zeros (n : Nat) : List Nat := List.replicate n 0
theorem zeros_len (n : Nat) : (zeros n).length = n := by simp [zeros]

/-- a cell of the block made last, stored -/
theorem run_store_last (w : World) (c : Array Value) (t : TypeId) (k : Nat) (v : Value) (hv : v.oneCell' = true) (hk : k < c.size) (s : Nat) (hs : s = w.heap.size) :
    (store ⟨s, k, none⟩ v).run P (w.alloc (.cells c t)) = .ok () (w.alloc (.cells (c.setIfInBounds k v) t)) := by
  subst hs
  have h1 : (w.alloc (.cells c t)).cell? ⟨w.heap.size, k, none⟩ = some c[k] := by
    rw [cell_of_row _ _ k c t (0, 0) (heap_last _ _), Array.getElem?_eq_getElem hk]
  have h2 : (w.alloc (.cells c t)).frozen? ⟨w.heap.size, k, none⟩ = false := frozen_of_row _ _ _ c t (heap_last _ _)
  rw [run_store P _ _ _ _ hv, h1, h2, World.setCell_alloc_new]
  rfl

/-- one cell of a row, stored, whatever the block -/
theorem run_storeAt_one (w : World) (g k : Nat) (t ty : TypeId) (c : Array Value) (v : Value) (hg : w.heap[g]? = some (.cells c t (0, 0))) (hi : (P.info? ty).map (·.size) = some 1) (hk : k < c.size) (hv : v.oneCell' = true) :
    (Instr.storeAt ty (.pointer (some ⟨g, k, none⟩)) v).run P w = .ok () (w.setRow g (c.setIfInBounds k v)) := by
  have hs := run_storeCells_at (P := P) g k t [v] 0 c w hg (by simp; omega) (fun u hu => by simp at hu; subst hu; exact hv)
  simp only [Nat.add_zero] at hs
  have hc : v.cells = #[v] := by cases v <;> first | rfl | (simp [Value.oneCell'] at hv)
  have he : (List.take k c.toList ++ [v] ++ List.drop (k + [v].length) c.toList).toArray = c.setIfInBounds k v := by
    apply Array.ext'
    simp only [Array.toList_setIfInBounds, List.length_singleton]
    rw [List.set_eq_take_append_cons_drop, if_pos (by simpa using hk)]
    simp
  rw [he] at hs
  cases hq : P.info? ty with
  | none => simp [hq] at hi
  | some i =>
    have hsz : i.size = 1 := by simpa [hq] using hi
    simp only [Instr.storeAt, Instr.sureAddr, Sem.run_bind, Sem.run_pure, Result.andThen]
    simp [storeVar, sizeOf, typeInfo, hq, hc, hsz]
    rw [hs]

theorem heap_setRow (w : World) (g : Nat) (c c' : Array Value) (t : TypeId) (fr : Nat × Nat) (hg : w.heap[g]? = some (.cells c t fr)) : (w.setRow g c').heap[g]? = some (.cells c' t fr) := by
  simp only [World.setRow, Array.getElem?_modify, if_pos, hg]; rfl
theorem heap_setRow_other (w : World) (g k : Nat) (c : Array Value) (h : k ≠ g) : (w.setRow g c).heap[k]? = w.heap[k]? := by
  simp only [World.setRow, Array.getElem?_modify]; rw [if_neg (by omega)]
theorem setRow_setRow (w : World) (g : Nat) (c c' : Array Value) : (w.setRow g c).setRow g c' = w.setRow g c' := by
  simp only [World.setRow]
  congr 1
  apply Array.ext_getElem?
  intro i
  simp only [Array.getElem?_modify]
  by_cases h : g = i
  · simp only [h, if_true]
    cases w.heap[i]? with
    | none => rfl
    | some o => cases o <;> rfl
  · simp [h]
theorem Below.setRow {B : Nat} {a w : World} (h : RowKit.Below B a w) {g : Nat} (hg : B ≤ g) (c : Array Value) : RowKit.Below B a (w.setRow g c) :=
  h.trans ⟨rfl, rfl, rfl, by simp, fun k hk => heap_setRow_other _ _ _ _ (by omega)⟩

theorem setCell_row (w : World) (g k : Nat) (c : Array Value) (t : TypeId) (fr : Nat × Nat) (v : Value) (hg : w.heap[g]? = some (.cells c t fr)) : w.setCell ⟨g, k, none⟩ v = w.setRow g (c.setIfInBounds k v) := by
  unfold World.setCell World.setRow
  congr 1
  apply Array.ext_getElem?
  intro i
  simp only [Array.getElem?_modify]
  by_cases h : g = i
  · subst h; simp [hg]
  · simp [h]
theorem run_store_one (w : World) (g k : Nat) (t : TypeId) (c : Array Value) (v : Value) (hg : w.heap[g]? = some (.cells c t (0, 0))) (hk : k < c.size) (hv : v.oneCell' = true) :
    (store ⟨g, k, none⟩ v).run P w = .ok () (w.setRow g (c.setIfInBounds k v)) := by
  have h1 : w.cell? ⟨g, k, none⟩ = some c[k] := by rw [cell_of_row _ _ k c t (0, 0) hg, Array.getElem?_eq_getElem hk]
  have h2 : w.frozen? ⟨g, k, none⟩ = false := frozen_of_row _ _ _ c t hg
  rw [run_store P _ _ _ _ hv, h1, h2, setCell_row w g k c t _ v hg]
  rfl

/-- THE WALK's ARMS: a load, a store, by what its run gives -/
theorem wpList_load_of {ops : Array Oper} {rest : List Oper} {o : Oper} {a : Act} {w : World} {Q : Exit → Act → World → Prop} (hgd : o.guard = none) (ty : TypeId) (x : Operand) (ho : o.op = .load ty x)
    (ad : Addr) (hx : a.eval x = .pointer (some ad)) (v : Value) (hrun : (Instr.loadAt ty (.pointer (some ad))).run P w = .ok v w)
    (h : wpList P ops Q rest (a.put o.dst v) w) : wpList P ops Q (o :: rest) a w :=
  wpList_plain hgd fun _ hK => by
    unfold Oper.wp execOp
    simp only [ho, hx, Sem.run_bind, hrun, Sem.run_pure, Result.andThen_ok]
    exact hK _ _ h

theorem wpList_store_of {ops : Array Oper} {rest : List Oper} {o : Oper} {a : Act} {w : World} {Q : Exit → Act → World → Prop} (hgd : o.guard = none) (ty : TypeId) (x y : Operand) (ho : o.op = .store ty x y)
    (ad : Addr) (hx : a.eval x = .pointer (some ad)) (v : Value) (hy : a.eval y = v) (w' : World) (hrun : (Instr.storeAt ty (.pointer (some ad)) v).run P w = .ok () w')
    (h : wpList P ops Q rest (a.put o.dst undef) w') : wpList P ops Q (o :: rest) a w :=
  wpList_plain hgd fun _ hK => by
    unfold Oper.wp execOp
    simp only [ho, hx, hy, Sem.run_bind, hrun, Sem.run_pure, Result.andThen_ok]
    exact hK _ _ h

/-- GUARDS: is the next operation such a load, such a store? (under 'with_reducible': fails at once) -/
theorem is_load {ops : Array Oper} {rest : List Oper} {o : Oper} {a : Act} {w : World} {Q : Exit → Act → World → Prop} (ty : TypeId) (x : Operand) (_ho : o.op = .load ty x) (h : wpList P ops Q (o :: rest) a w) : wpList P ops Q (o :: rest) a w := h
theorem is_store {ops : Array Oper} {rest : List Oper} {o : Oper} {a : Act} {w : World} {Q : Exit → Act → World → Prop} (ty : TypeId) (x y : Operand) (_ho : o.op = .store ty x y) (h : wpList P ops Q (o :: rest) a w) : wpList P ops Q (o :: rest) a w := h
end Go.Proofs.Ytldchcjnepnjnaa
