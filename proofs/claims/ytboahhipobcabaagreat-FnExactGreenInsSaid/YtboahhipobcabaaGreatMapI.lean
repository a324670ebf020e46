/-
  MAPS FROM WHOLE NUMBERS TO YES: looked up, and written.
-/
import Derived.Test.YtboahhipobcabaaGreatJt
import Derived.MapKept
import Derived.RangeFuncRecord
namespace Go.Proofs.YtboahhipobcabaaGreat
open Go Go.ChangeShapes Go.WideShapes Go.ChangeAt Go.RowKit
set_option maxRecDepth 100000

section
variable {P : Program} {ops : Array Oper} {rest : List Oper} {o : Oper} {a : Act} {w : World} {Q : Exit → Act → World → Prop}

theorem getObj_mapI {r : Nat} {es : Array MapEntry} {clock : Nat} (hb : w.heap[r]? = some (.map es clock)) : (getObj r).run P w = .ok (.map es clock) w := by simp [getObj, Sem.run, hb]

theorem setObj_mapI {r : Nat} {es : Array MapEntry} {clock : Nat} (o : Obj) (hb : w.heap[r]? = some (.map es clock)) : (setObj r o).run P w = .ok () (w.putObj r o) := by simp [setObj, Sem.run, hb, World.putObj]

theorem is_lookupI (ty : TypeId) (x i : Operand) (c : Bool) (_ho : o.op = .lookup ty x i c) (h : wpList P ops Q (o :: rest) a w) : wpList P ops Q (o :: rest) a w := h

theorem wpList_lookupI_g (hw : Region.wanted o (yielded ops a.tmps) = true) (ty : TypeId) (x i : Operand) (c : Bool) (ho : o.op = .lookup ty x i c) (vx vi : Value) (hx : a.eval x = vx) (hi : a.eval i = vi) (v : Value) (hrun : (Instr.lookup ty vx vi c).run P w = .ok v w) (h : wpList P ops Q rest (a.put o.dst v) w) : wpList P ops Q (o :: rest) a w := by
  unfold wpList
  rw [if_pos hw]
  refine .inl ?_
  unfold Oper.wp execOp
  simp only [ho, hx, hi, Sem.run_bind, hrun, Sem.run_pure, Result.andThen_ok]
  exact h

theorem is_makeMapI (ty : TypeId) (_ho : o.op = .makeMap ty none) (h : wpList P ops Q (o :: rest) a w) : wpList P ops Q (o :: rest) a w := h

theorem wpList_makeMapI (hgd : o.guard = none) (ty : TypeId) (ho : o.op = .makeMap ty none) (v : Value) (w' : World) (hrun : (Instr.makeMap ty none).run P w = .ok v w') (h : wpList P ops Q rest (a.put o.dst v) w') : wpList P ops Q (o :: rest) a w :=
  wpList_plain hgd fun _ hK => by
    unfold Oper.wp execOp
    simp only [ho, Sem.run_bind, Option.map_none, hrun, Sem.run_pure, Result.andThen_ok]
    exact hK _ _ h

theorem is_mapUpdateI (ty : TypeId) (x i y : Operand) (_ho : o.op = .mapUpdate ty x i y) (h : wpList P ops Q (o :: rest) a w) : wpList P ops Q (o :: rest) a w := h

theorem wpList_mapUpdateI (hgd : o.guard = none) (ty : TypeId) (x i y : Operand) (ho : o.op = .mapUpdate ty x i y) (vx vi vy : Value) (hx : a.eval x = vx) (hi : a.eval i = vi) (hy : a.eval y = vy) (w' : World) (hrun : (Instr.mapUpdate ty vx vi vy).run P w = .ok () w') (h : wpList P ops Q rest (a.put o.dst undef) w') : wpList P ops Q (o :: rest) a w :=
  wpList_plain hgd fun _ hK => by
    unfold Oper.wp execOp
    simp only [ho, hx, hi, hy, Sem.run_bind, hrun, Sem.run_pure, Result.andThen_ok]
    exact hK _ _ h

end

/-- where a whole number stands among the entries -/
theorem findNow_ints (q : Int) : ∀ (L : List Int) (es : List MapEntry) (i : Nat), es.map (fun x => (x.key, x.val)) = L.map (fun x => (Value.int .i64 x, Value.bool true)) →
    (q ∉ L ∧ Instr.findNow (.int .i64) (.int .i64 q) es i = some none) ∨ (q ∈ L ∧ ∃ j, Instr.findNow (.int .i64) (.int .i64 q) es i = some (some (i + j, .bool true)) ∧ ∃ e, es[j]? = some e ∧ e.key = .int .i64 q ∧ e.val = .bool true)
  | [], [], i, _ => .inl ⟨by simp, rfl⟩
  | [], x :: es, i, h => by simp at h
  | p :: L, [], i, h => by simp at h
  | p :: L, x :: es, i, h => by
    simp only [List.map_cons, List.cons.injEq, Prod.mk.injEq] at h
    obtain ⟨⟨h1, h2⟩, h3⟩ := h
    have hs : Instr.sameNow (.int .i64) (.int .i64 q) x.key = some (q == p) := by rw [h1]; simp [Instr.sameNow]
    unfold Instr.findNow
    rw [hs]
    by_cases c : q = p
    · subst c
      refine .inr ⟨by simp, 0, ?_, x, rfl, h1, h2⟩
      simp [h2]
    · have hb : (q == p) = false := by simpa using c
      rw [hb]
      rcases findNow_ints q L es (i + 1) h3 with ⟨hn, hf⟩ | ⟨hm, j, hf, e, he⟩
      · exact .inl ⟨by simp [c, hn], hf⟩
      · refine .inr ⟨by simp [hm], j + 1, ?_, e, by simpa using he.1, he.2⟩
        show Instr.findNow _ _ es (i + 1) = _
        rw [hf]
        congr 3
        omega

/-- a map that knows whole numbers -/
structure MpI (w : World) (r : Nat) (xs : List Int) : Prop where
  blk : ∃ (es : Array MapEntry) (clock : Nat) (L : List Int), w.heap[r]? = some (.map es clock) ∧ es.toList.map (fun x => (x.key, x.val)) = L.map (fun x => (Value.int .i64 x, Value.bool true)) ∧ ∀ q, q ∈ L ↔ q ∈ xs

theorem MpI.lt {w : World} {r : Nat} {xs : List Int} (h : MpI w r xs) : r < w.heap.size := by
  obtain ⟨es, cl, L, hb, -⟩ := h.blk
  rcases Nat.lt_or_ge r w.heap.size with c | c
  · exact c
  · rw [Array.getElem?_eq_none c] at hb; cases hb

theorem MpI.of {w w' : World} {r : Nat} {xs : List Int} (h : MpI w r xs) (hb : w'.heap[r]? = w.heap[r]?) : MpI w' r xs := by
  obtain ⟨es, cl, L, hb', he⟩ := h.blk
  exact ⟨⟨es, cl, L, hb.trans hb', he⟩⟩

theorem MpI.step {w w' : World} {r : Nat} {xs : List Int} (h : MpI w r xs) (hb : Below w.heap.size w w') : MpI w' r xs := h.of (hb.block _ h.lt)

theorem MpI.new (w : World) : MpI (w.alloc (.map #[] 0)) w.heap.size [] := ⟨⟨#[], 0, [], heap_last _ _, rfl, fun _ => Iff.rfl⟩⟩

theorem MpI.look {w : World} {r : Nat} {xs : List Int} (h : MpI w r xs) (q : Int) (ty k el : TypeId) (hu : Tryz.prog.underlying ty = some (.map k el)) (hk : Tryz.prog.underlying k = some (.int .i64)) (hz : (zeroValue el).run Tryz.prog w = .ok (.bool false) w) :
    (Instr.lookup ty (.map (some r)) (.int .i64 q) false).run Tryz.prog w = .ok (.bool (decide (q ∈ xs))) w := by
  obtain ⟨es, cl, L, hb, he, hm⟩ := h.blk
  have hck : (Instr.checkKey es.isEmpty 10000 k (.int .i64 q)).run Tryz.prog w = .ok () w := by
    unfold Instr.checkKey
    rw [Sem.run_bind, run_underlying hk w]
    rfl
  unfold Instr.lookup
  rw [Sem.run_bind, run_underlying hu w]
  simp only [Result.andThen_ok]
  rw [Sem.run_bind, getObj_mapI hb]
  simp only [Result.andThen_ok, Sem.run_bind, Sem.run_pure]
  rw [hck]
  simp only [Result.andThen_ok]
  unfold Instr.findKey
  rw [Sem.run_bind, run_underlying hk w]
  simp only [Result.andThen_ok]
  rcases findNow_ints q L es.toList 0 he with ⟨hn, hf⟩ | ⟨hi, j, hf, -⟩
  · rw [hf]
    have : q ∉ xs := fun c => hn ((hm q).2 c)
    simp [Sem.run_bind, hz, this]
  · rw [hf]
    have : q ∈ xs := (hm q).1 hi
    simp [this]

theorem MpI.add {w : World} {r : Nat} {xs : List Int} (h : MpI w r xs) (q : Int) (ty k el : TypeId) (hu : Tryz.prog.underlying ty = some (.map k el)) (hk : Tryz.prog.underlying k = some (.int .i64)) :
    ∃ o, (Instr.mapUpdate ty (.map (some r)) (.int .i64 q) (.bool true)).run Tryz.prog w = .ok () (w.putObj r o) ∧ MpI (w.putObj r o) r (xs ++ [q]) := by
  obtain ⟨es, cl, L, hb, he, hm⟩ := h.blk
  have hck : (Instr.checkKey false 10000 k (.int .i64 q)).run Tryz.prog w = .ok () w := by
    unfold Instr.checkKey
    rw [Sem.run_bind, run_underlying hk w]
    rfl
  have hrun : ∀ x, Instr.findNow (.int .i64) (.int .i64 q) es.toList 0 = some x → (Instr.findKey k (.int .i64 q) es.toList).run Tryz.prog w = .ok x w := fun x hx => by
    unfold Instr.findKey
    rw [Sem.run_bind, run_underlying hk w]
    simp only [Result.andThen_ok]
    rw [hx]
    rfl
  rcases findNow_ints q L es.toList 0 he with ⟨hn, hf⟩ | ⟨hi, j, hf, e, hj, hek, hev⟩
  · refine ⟨.map (es.push { key := .int .i64 q, val := .bool true, born := cl }) (cl + 1), ?_, ⟨⟨es.push { key := .int .i64 q, val := .bool true, born := cl }, cl + 1, L ++ [q], ?_, ?_, ?_⟩⟩⟩
    · unfold Instr.mapUpdate
      rw [Sem.run_bind, run_underlying hu w]
      simp only [Result.andThen_ok]
      rw [Sem.run_bind, getObj_mapI hb]
      simp only [Result.andThen_ok]
      rw [Sem.run_bind, hck]
      simp only [Result.andThen_ok]
      rw [Sem.run_bind, hrun _ hf]
      simp only [Result.andThen_ok]
      exact setObj_mapI _ hb
    · exact World.putObj_heap_same h.lt
    · simp [he]
    · intro x
      simp [hm x]
  · rw [Nat.zero_add] at hf
    have hja : es[j]? = some e := by rw [← Array.getElem?_toList]; exact hj
    have hks : (Instr.keyThatStays (((es[j]?).map (·.key)).getD (.int .i64 q)) (.int .i64 q)).run Tryz.prog w = .ok (.int .i64 q) w := by
      rw [hja]
      show (Instr.keyThatStays e.key (.int .i64 q)).run Tryz.prog w = _
      rw [hek]
      unfold Instr.keyThatStays
      rw [if_pos (by unfold Instr.sameBits; simp)]
      rfl
    refine ⟨.map (es.modify j fun e => { e with key := .int .i64 q, val := .bool true }) cl, ?_, ⟨⟨es.modify j fun e => { e with key := .int .i64 q, val := .bool true }, cl, L, ?_, ?_, ?_⟩⟩⟩
    · unfold Instr.mapUpdate
      rw [Sem.run_bind, run_underlying hu w]
      simp only [Result.andThen_ok]
      rw [Sem.run_bind, getObj_mapI hb]
      simp only [Result.andThen_ok]
      rw [Sem.run_bind, hck]
      simp only [Result.andThen_ok]
      rw [Sem.run_bind, hrun _ hf]
      simp only [Result.andThen_ok]
      rw [Sem.run_bind, hks]
      simp only [Result.andThen_ok]
      exact setObj_mapI _ hb
    · exact World.putObj_heap_same h.lt
    · rw [← he]
      apply List.ext_getElem?
      intro i
      rw [List.getElem?_map, List.getElem?_map, Array.getElem?_toList, Array.getElem?_toList, Array.getElem?_modify]
      by_cases c : j = i
      · subst c
        rw [if_pos rfl, hja]
        simp [hek, hev]
      · rw [if_neg c]
    · intro x
      rw [hm x, List.mem_append, List.mem_singleton]
      exact ⟨.inl, fun c => c.elim id fun c => by rw [c]; exact (hm q).1 hi⟩

end Go.Proofs.YtboahhipobcabaaGreat
