/-
  MAPS KEYED BY PHASES: looked up, and written where the key is new.
-/
import Derived.Test.YtkaghfoaicbngabSlEq
import Derived.MapKept
import Derived.RangeFuncRecord
namespace Go.Proofs.Ytkaghfoaicbngab
open Go Go.ChangeShapes Go.WideShapes Go.ChangeAt Go.RowKit
set_option maxRecDepth 100000

section
variable {P : Program}
theorem getObj_mapB {w : World} {r : Nat} {es : Array MapEntry} {clock : Nat} (hb : w.heap[r]? = some (.map es clock)) : (getObj r).run P w = .ok (.map es clock) w := by simp [getObj, Sem.run, hb]

theorem setObj_mapB {w : World} {r : Nat} {es : Array MapEntry} {clock : Nat} (o : Obj) (hb : w.heap[r]? = some (.map es clock)) : (setObj r o).run P w = .ok () (w.putObj r o) := by simp [setObj, Sem.run, hb, World.putObj]

theorem forInU_run (w : World) (f : Nat → PUnit → Sem (ForInStep PUnit)) (L : List Nat) (h : ∀ i ∈ L, ∀ s, (f i s).run P w = .ok (.yield PUnit.unit) w) :
    (forIn L PUnit.unit f).run P w = .ok PUnit.unit w := by
  induction L with
  | nil => rfl
  | cons i L ih =>
    have h0 := h i (by simp) PUnit.unit
    have ih' := ih (fun j hj s => h j (by simp [hj]) s)
    rw [List.forIn_cons, Sem.run_bind, h0]
    simp only [Result.andThen_ok]
    exact ih'

theorem run_checkKey_bools (w : World) (empty : Bool) (d : Nat) (t e : TypeId) (n : Nat) (xs : List Bool) (hu : P.underlying t = some (.array n e)) (hue : P.underlying e = some .bool) (he : (P.info? e).map (·.size) = some 1) (hx : xs.length = n) :
    (Instr.checkKey empty (d + 2) t (.agg (bl xs))).run P w = .ok () w := by
  cases hq : P.info? e with
  | none => simp [hq] at he
  | some i =>
    have hs : i.size = 1 := by simpa [hq] using he
    unfold Instr.checkKey
    simp only [Sem.run_bind, run_underlying hu w, Result.andThen_ok]
    simp
    rw [forInU_run w _ _ ?_]
    · rfl
    intro k hk s
    have hk' : k < n := by simpa [List.mem_range'_1] using hk
    have hp := run_part_bool (P := P) w e xs k hue (by omega)
    have hck : (Instr.checkKey empty (d + 1) e (.bool (bn xs k))).run P w = .ok () w := by
      unfold Instr.checkKey
      simp only [Sem.run_bind, run_underlying hue w, Result.andThen_ok]
      rfl
    simp [Sem.run_bind, sizeOf, typeInfo, hq, hs, hp, hck]

/-- the first entry with a key, asked one after the other -/
theorem run_findAsking_bools (w : World) (t e : TypeId) (n : Nat) (q : List Bool) (V : List Bool → Value) (hu : P.underlying t = some (.array n e)) (hue : P.underlying e = some .bool) (he : (P.info? e).map (·.size) = some 1) (hq : q.length = n) :
    ∀ (L : List (List Bool)) (es : List MapEntry) (i : Nat), (∀ p ∈ L, p.length = n) → es.map (fun x => (x.key, x.val)) = L.map (fun p => (Value.agg (bl p), V p)) →
      ∃ r, (Instr.findAsking t (.agg (bl q)) es i).run P w = .ok r w ∧ r.map (·.2) = if q ∈ L then some (V q) else none
  | [], [], i, _, _ => ⟨none, rfl, by simp⟩
  | [], x :: es, i, _, h => by simp at h
  | p :: L, [], i, _, h => by simp at h
  | p :: L, x :: es, i, hl, h => by
    simp only [List.map_cons, List.cons.injEq, Prod.mk.injEq] at h
    obtain ⟨⟨h1, h2⟩, h3⟩ := h
    have heq : (Op.equal t (.agg (bl q)) x.key).run P w = .ok (decide (q = p)) w := by
      rw [h1]; exact run_eq_bools w 9998 t e n q p hu hue he hq (hl p (by simp))
    unfold Instr.findAsking
    rw [Sem.run_bind, heq]
    by_cases c : q = p
    · subst c
      refine ⟨some (i, x.val), by simp, by simp [h2]⟩
    · obtain ⟨r, hr, hv⟩ := run_findAsking_bools w t e n q V hu hue he hq L es (i + 1) (fun p' hp' => hl p' (by simp [hp'])) h3
      refine ⟨r, by simp [c, hr], ?_⟩
      rw [hv]
      simp [c]
end

/-- a map that knows phases -/
structure MpB (w : World) (r : Nat) (V : List Bool → Value) (L : List (List Bool)) : Prop where
  blk : ∃ es clock, w.heap[r]? = some (.map es clock) ∧ es.toList.map (fun x => (x.key, x.val)) = L.map (fun p => (Value.agg (bl p), V p))
  len : ∀ p ∈ L, p.length = 8

theorem MpB.lt {w : World} {r : Nat} {V : List Bool → Value} {L : List (List Bool)} (h : MpB w r V L) : r < w.heap.size := by
  obtain ⟨es, cl, hb, -⟩ := h.blk
  rcases Nat.lt_or_ge r w.heap.size with c | c
  · exact c
  · rw [Array.getElem?_eq_none c] at hb; cases hb

theorem MpB.of {w w' : World} {r : Nat} {V : List Bool → Value} {L : List (List Bool)} (h : MpB w r V L) (hb : w'.heap[r]? = w.heap[r]?) : MpB w' r V L := by
  obtain ⟨es, cl, hb', he⟩ := h.blk
  exact ⟨⟨es, cl, hb.trans hb', he⟩, h.len⟩

theorem MpB.step {w w' : World} {r : Nat} {V : List Bool → Value} {L : List (List Bool)} (h : MpB w r V L) (hb : Below w.heap.size w w') : MpB w' r V L := h.of (hb.block _ h.lt)

theorem MpB.new (w : World) (V : List Bool → Value) : MpB (w.alloc (.map #[] 0)) w.heap.size V [] :=
  ⟨⟨#[], 0, heap_last _ _, rfl⟩, by simp⟩

theorem findNow_agg (k : TypeDesc) (c : Array Value) (x : MapEntry) (es : List MapEntry) (i : Nat) (n : Nat) (e : TypeId) (hk : k = .array n e) : Instr.findNow k (.agg c) (x :: es) i = none := by
  subst hk
  unfold Instr.findNow Instr.sameNow
  rfl

theorem run_findKey_bools {P : Program} (w : World) (t e : TypeId) (n : Nat) (q : List Bool) (V : List Bool → Value) (hu : P.underlying t = some (.array n e)) (hue : P.underlying e = some .bool) (he : (P.info? e).map (·.size) = some 1) (hq : q.length = n)
    (L : List (List Bool)) (es : List MapEntry) (hl : ∀ p ∈ L, p.length = n) (h : es.map (fun x => (x.key, x.val)) = L.map (fun p => (Value.agg (bl p), V p))) :
    ∃ r, (Instr.findKey t (.agg (bl q)) es).run P w = .ok r w ∧ r.map (·.2) = if q ∈ L then some (V q) else none := by
  unfold Instr.findKey
  rw [Sem.run_bind, run_underlying hu w]
  simp only [Result.andThen_ok]
  cases es with
  | nil =>
    have : L = [] := by cases L with
      | nil => rfl
      | cons p L => simp at h
    subst this
    exact ⟨none, by simp [Instr.findNow], by simp⟩
  | cons x es =>
    rw [findNow_agg _ _ _ _ _ n e rfl]
    exact run_findAsking_bools w t e n q V hu hue he hq L (x :: es) 0 hl h

theorem MpB.look {w : World} {r : Nat} {V : List Bool → Value} {L : List (List Bool)} (h : MpB w r V L) (q : List Bool) (hq : q.length = 8) (Z : Value) (ty : TypeId) (el : TypeId) (hu : Try.prog.underlying ty = some (.map 84 el)) (hz : (zeroValue el).run Try.prog w = .ok Z w) :
    (Instr.lookup ty (.map (some r)) (.agg (bl q)) true).run Try.prog w = .ok (.tuple #[if q ∈ L then V q else Z, .bool (decide (q ∈ L))]) w := by
  obtain ⟨es, cl, hb, he⟩ := h.blk
  obtain ⟨x, hx, hv⟩ := run_findKey_bools (P := Try.prog) w 84 4 8 q V Try.underlying84 Try.underlying4 (by kernel_rfl) hq L es.toList h.len he
  have hck := run_checkKey_bools (P := Try.prog) w es.isEmpty 9998 84 4 8 q Try.underlying84 Try.underlying4 (by kernel_rfl) hq
  unfold Instr.lookup
  rw [Sem.run_bind, run_underlying hu w]
  simp only [Result.andThen_ok]
  rw [Sem.run_bind, getObj_mapB hb]
  simp only [Result.andThen_ok, Sem.run_bind, Sem.run_pure]
  rw [hck]
  simp only [Result.andThen_ok]
  rw [hx]
  simp only [Result.andThen_ok]
  by_cases c : q ∈ L
  · rw [if_pos c] at hv
    obtain ⟨y, rfl, hy⟩ := Option.map_eq_some_iff.1 hv
    obtain ⟨i, v⟩ := y
    simp only at hy
    subst hy
    simp [c]
  · rw [if_neg c] at hv
    obtain rfl : x = none := by simpa using hv
    simp [c, Sem.run_bind, hz]

theorem MpB.add {w : World} {r : Nat} {V : List Bool → Value} {L : List (List Bool)} (h : MpB w r V L) (q : List Bool) (hq : q.length = 8) (hn : q ∉ L) (ty : TypeId) (el : TypeId) (hu : Try.prog.underlying ty = some (.map 84 el)) :
    ∃ o, (Instr.mapUpdate ty (.map (some r)) (.agg (bl q)) (V q)).run Try.prog w = .ok () (w.putObj r o) ∧ MpB (w.putObj r o) r V (L ++ [q]) := by
  obtain ⟨es, cl, hb, he⟩ := h.blk
  obtain ⟨x, hx, hv⟩ := run_findKey_bools (P := Try.prog) w 84 4 8 q V Try.underlying84 Try.underlying4 (by kernel_rfl) hq L es.toList h.len he
  have hck := run_checkKey_bools (P := Try.prog) w false 9998 84 4 8 q Try.underlying84 Try.underlying4 (by kernel_rfl) hq
  rw [if_neg hn] at hv
  obtain rfl : x = none := by simpa using hv
  refine ⟨.map (es.push { key := .agg (bl q), val := V q, born := cl }) (cl + 1), ?_, ⟨⟨es.push { key := .agg (bl q), val := V q, born := cl }, cl + 1, ?_, ?_⟩, ?_⟩⟩
  · unfold Instr.mapUpdate
    rw [Sem.run_bind, run_underlying hu w]
    simp only [Result.andThen_ok]
    rw [Sem.run_bind, getObj_mapB hb]
    simp only [Result.andThen_ok]
    rw [Sem.run_bind, hck]
    simp only [Result.andThen_ok]
    rw [Sem.run_bind, hx]
    simp only [Result.andThen_ok]
    exact setObj_mapB _ hb
  · exact World.putObj_heap_same h.lt
  · simp [he]
  · intro p hp
    rcases List.mem_append.1 hp with hp | hp
    · exact h.len p hp
    · obtain rfl := List.mem_singleton.1 hp
      exact hq

end Go.Proofs.Ytkaghfoaicbngab
