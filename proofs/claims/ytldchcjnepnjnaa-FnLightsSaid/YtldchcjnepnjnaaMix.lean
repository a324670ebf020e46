/-
  ROWS OF A ROAD THAT ARE WRITTEN ONE CELL AFTER THE OTHER.
  No Go text in it. Conditions: those of each theorem.
-/
import Derived.Test.YtldchcjnepnjnaaAt
namespace Go.Proofs.Ytldchcjnepnjnaa
open Go Go.RowKit

theorem At.last1 (w : World) (A : Obj) (c : Array Value) (T : TypeId) : At ((w.alloc A).alloc (.cells c T)) (w.heap.size + 1) c T := by
  have := At.new (w.alloc A) c T
  rwa [World.size_alloc] at this

theorem At.last2 (w : World) (A B : Obj) (c : Array Value) (T : TypeId) : At (((w.alloc A).alloc B).alloc (.cells c T)) (w.heap.size + 1 + 1) c T := by
  have := At.new ((w.alloc A).alloc B) c T
  rwa [World.size_alloc, World.size_alloc] at this

/-- a whole row loaded, as a fact for the walk -/
theorem At.load {P : Program} {w : World} {g : Nat} {c : Array Value} {T : TypeId} (hA : At w g c T) (ty : TypeId) (n : Nat) (hn : c.size = n) (d : TypeDesc)
    (hu : P.underlying ty = some d) (hd : (match d with | .struct _ | .array _ _ => true | _ => false) = true) (hi : (P.info? ty).map (·.size) = some n) : (Instr.loadAt ty (.pointer (some ⟨g, 0, none⟩))).run P w = .ok (.agg c) w := by
  have := run_loadAt_part (P := P) w g 0 n ty c T (0, 0) d hA hu hd hi (by omega)
  rwa [Nat.zero_add, ← hn, Array.extract_size] at this

/-- a whole row loaded by an operation under a guard -/
theorem wpList_load_g {P : Program} {ops : Array Oper} {rest : List Oper} {o : Oper} {a : Act} {w : World} {Q : Exit → Act → World → Prop} (hw : Region.wanted o (yielded ops a.tmps) = true) (ty : TypeId) (x : Operand) (ho : o.op = .load ty x) (g : Nat) (hx : a.eval x = .pointer (some ⟨g, 0, none⟩))
    (c : Array Value) (T : TypeId) (hA : At w g c T) (n : Nat) (hn : c.size = n) (d : TypeDesc) (hu : P.underlying ty = some d) (hd : (match d with | .struct _ | .array _ _ => true | _ => false) = true) (hi : (P.info? ty).map (·.size) = some n)
    (h : wpList P ops Q rest (a.put o.dst (.agg c)) w) : wpList P ops Q (o :: rest) a w := by
  unfold wpList
  rw [if_pos hw]
  refine .inl ?_
  unfold Oper.wp execOp
  simp only [ho, hx, Sem.run_bind, hA.load ty n hn d hu hd hi, Sem.run_pure, Result.andThen_ok]
  exact h

/-- a row of which the first k cells are those of another -/
def mixTo (ns cs : List Nat) (k : Nat) : List Nat := ns.take k ++ cs.drop k

theorem mixTo_zero (ns cs : List Nat) : mixTo ns cs 0 = cs := by simp [mixTo]

theorem mixTo_len {n : Nat} {ns cs : List Nat} (h : ns.length = n) (h' : cs.length = n) {k : Nat} (hk : k ≤ n) : (mixTo ns cs k).length = n := by simp [mixTo, h, h']; omega

theorem mixTo_nth {n : Nat} {ns cs : List Nat} (h : ns.length = n) (_h' : cs.length = n) {k : Nat} (hk : k < n) : nth (mixTo ns cs k) k = nth cs k := by
  have e : (mixTo ns cs k)[k]? = cs[k]? := by
    unfold mixTo
    rw [List.getElem?_append_right (by simp; omega), List.length_take, h, Nat.min_eq_left (by omega), Nat.sub_self, List.getElem?_drop, Nat.add_zero]
  show ((mixTo ns cs k)[k]?).getD 0 = (cs[k]?).getD 0
  rw [e]

theorem mixTo_set {n : Nat} {ns cs : List Nat} (h : ns.length = n) (h' : cs.length = n) {k : Nat} (hk : k < n) : (mixTo ns cs k).set k (nth ns k) = mixTo ns cs (k + 1) := by
  have e : nth ns k = ns[k]'(by omega) := by
    show (ns[k]?).getD 0 = _
    rw [List.getElem?_eq_getElem (by omega), Option.getD_some]
  unfold mixTo
  rw [List.set_append_right _ _ (by simp; omega), List.length_take, h, Nat.min_eq_left (by omega), Nat.sub_self, List.drop_eq_getElem_cons (by omega), List.set_cons_zero, e, List.take_succ_eq_append_getElem (by omega), List.append_assoc]
  rfl

theorem mixTo_all {n : Nat} {ns cs : List Nat} (h : ns.length = n) (h' : cs.length = n) : mixTo ns cs n = ns := by
  unfold mixTo
  rw [List.drop_eq_nil_of_le (by omega), List.append_nil, List.take_of_length_le (by omega)]

/-- a cell that both rows share is written already -/
theorem mixTo_skip {n : Nat} {ns cs : List Nat} (h : ns.length = n) (h' : cs.length = n) {k : Nat} (hk : k < n) (e : nth ns k = nth cs k) : mixTo ns cs (k + 1) = mixTo ns cs k := by
  rw [← mixTo_set h h' hk, e, ← mixTo_nth h h' hk]
  refine List.ext_getElem? fun i => ?_
  rw [List.getElem?_set]
  have hlen := mixTo_len h h' (k := k) (by omega)
  by_cases c : k = i
  · subst c
    rw [if_pos rfl, if_pos (by omega), List.getElem?_eq_getElem (by omega)]
    show some (((mixTo ns cs k)[k]?).getD 0) = _
    rw [List.getElem?_eq_getElem (by omega), Option.getD_some]
  · rw [if_neg c]

theorem rd_put {cs : List Nat} (h : cs.length = 16) (p b l : Nat) {n : Nat} (hn : n < 16) (x : Nat) : (rd cs p b l).setIfInBounds n (.float .f32 x) = rd (cs.set n x) p b l := by
  unfold rd
  rw [fl_set, List.set_append_left _ _ (by omega)]

/-- a row that is made of its numbers -/
def rowOf (n : Nat) (f : Nat → Nat) : List Nat := (List.range n).map f

theorem rowOf_len (n : Nat) (f : Nat → Nat) : (rowOf n f).length = n := by simp [rowOf]

theorem rowOf_nth (n : Nat) (f : Nat → Nat) {k : Nat} (hk : k < n) : nth (rowOf n f) k = f k := by
  have h : (rowOf n f)[k]? = some (f k) := by unfold rowOf; rw [List.getElem?_map, List.getElem?_range hk]; rfl
  show ((rowOf n f)[k]?).getD 0 = _
  rw [h, Option.getD_some]

theorem rowOf_mem {n : Nat} {f : Nat → Nat} {x : Nat} (h : x ∈ rowOf n f) : ∃ k, k < n ∧ x = f k := by
  unfold rowOf at h
  obtain ⟨k, hk, rfl⟩ := List.mem_map.1 h
  exact ⟨k, List.mem_range.1 hk, rfl⟩
end Go.Proofs.Ytldchcjnepnjnaa
