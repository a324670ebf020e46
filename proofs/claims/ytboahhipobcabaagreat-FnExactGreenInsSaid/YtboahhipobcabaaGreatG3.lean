/-
  SEVERAL TEXTS IN ONE.
-/
import Derived.Test.YtboahhipobcabaaGreatG2
import Derived.WalkKit
import Derived.Laws.MakeOwn
import Derived.OwnWalk

/-
  BLOCKS OF CELLS BEHIND A CALL: 'At W g c T': block g of W holds the row c; what calls, draws, new blocks and stores do to it; the walk's arms for whole rows.
  No Go text in it. Conditions: those of each theorem.
-/
namespace Go.Proofs.YtboahhipobcabaaGreat
open Go Go.RowKit

def At (W : World) (g : Nat) (c : Array Value) (T : TypeId) : Prop := W.heap[g]? = some (.cells c T (0, 0))
section
variable {W W' : World} {g : Nat} {c : Array Value} {T : TypeId}
theorem At.lt (h : At W g c T) : g < W.heap.size := by
  rcases Nat.lt_or_ge g W.heap.size with k | k
  · exact k
  · unfold At at h; rw [Array.getElem?_eq_none k] at h; cases h
theorem At.step (h : At W g c T) (hb : Below W.heap.size W W') : At W' g c T := (hb.block _ h.lt).trans h
theorem At.drewN (h : At W g c T) (n : Nat) : At (W.drewN n) g c T := h
theorem At.alloc (h : At W g c T) (o : Obj) : At (W.alloc o) g c T := heap_old h o
theorem At.new (W : World) (c : Array Value) (T : TypeId) : At (W.alloc (.cells c T)) W.heap.size c T := heap_last _ _
theorem At.setRow (h : At W g c T) (c' : Array Value) : At (W.setRow g c') g c' T := heap_setRow _ _ _ _ _ _ h
theorem At.setRow_other (h : At W g c T) {k : Nat} (hk : g ≠ k) (c' : Array Value) : At (W.setRow k c') g c T := (heap_setRow_other _ _ _ _ hk).trans h
theorem At.cell (h : At W g c T) {k : Nat} {v : Value} (hk : c[k]? = some v) : W.cell? ⟨g, k, none⟩ = some v := by rw [cell_of_row _ _ _ _ _ _ h]; exact hk
theorem At.free (h : At W g c T) (k : Nat) : W.frozen? ⟨g, k, none⟩ = false := frozen_of_row _ _ _ _ _ h
end
theorem bthen {w a b : World} (h : Below w.heap.size w a) (k : Below a.heap.size a b) : Below w.heap.size w b := h.trans (k.mono h.size)
theorem bnew {w a : World} (h : Below w.heap.size w a) (o : Obj) : Below w.heap.size w (a.alloc o) := h.alloc h.size o
theorem bdrew {B : Nat} {w a : World} (h : Below B w a) (n : Nat) : Below B w (a.drewN n) := h.trans ⟨rfl, rfl, rfl, Nat.le_refl _, fun _ _ => rfl⟩
theorem b0 (w : World) (o : Obj) : Below w.heap.size w (w.alloc o) := bnew (Below.refl _ _) o

variable {P : Program} {ops : Array Oper} {rest : List Oper} {o : Oper} {a : Act} {w : World} {Q : Exit → Act → World → Prop}
/-- a whole row loaded -/
theorem wpList_load_at (hgd : o.guard = none) (ty : TypeId) (x : Operand) (ho : o.op = .load ty x) (g : Nat) (hx : a.eval x = .pointer (some ⟨g, 0, none⟩)) (c : Array Value) (T : TypeId) (hA : At w g c T) (n : Nat) (hn : c.size = n) (d : TypeDesc)
    (hu : P.underlying ty = some d) (hd : (match d with | .struct _ | .array _ _ => true | _ => false) = true) (hi : (P.info? ty).map (·.size) = some n) (h : wpList P ops Q rest (a.put o.dst (.agg c)) w) : wpList P ops Q (o :: rest) a w :=
  wpList_load_row hgd ty x ho g hx T c (0, 0) d hA hu hd (by rw [hn]; exact hi) h
/-- a part of a row loaded -/
theorem wpList_load_part (hgd : o.guard = none) (ty : TypeId) (x : Operand) (ho : o.op = .load ty x) (g off : Nat) (hx : a.eval x = .pointer (some ⟨g, off, none⟩)) (c : Array Value) (T : TypeId) (hA : At w g c T) (n : Nat) (hn : off + n ≤ c.size) (d : TypeDesc)
    (hu : P.underlying ty = some d) (hd : (match d with | .struct _ | .array _ _ => true | _ => false) = true) (hi : (P.info? ty).map (·.size) = some n) (c' : Array Value) (hc : c.extract off (off + n) = c') (h : wpList P ops Q rest (a.put o.dst (.agg c')) w) : wpList P ops Q (o :: rest) a w :=
  wpList_load_of hgd ty x ho ⟨g, off, none⟩ hx _ (by subst hc; exact run_loadAt_part w g off n ty c T (0, 0) d hA hu hd hi hn) h
/-- a whole row stored: behind it the world is a variable -/
theorem wpList_store_at (hgd : o.guard = none) (ty : TypeId) (x y : Operand) (ho : o.op = .store ty x y) (g : Nat) (hx : a.eval x = .pointer (some ⟨g, 0, none⟩)) (c : Array Value) (hy : a.eval y = .agg c) (old : Array Value) (T : TypeId) (hA : At w g old T) (n : Nat) (hn : c.size = n) (ho' : old.size = n)
    (hi : (P.info? ty).map (·.size) = some n) (h1 : c.all (·.oneCell') = true) (h : wpList P ops Q rest (a.put o.dst undef) (w.setRow g c)) : wpList P ops Q (o :: rest) a w :=
  wpList_store_of hgd ty x y ho ⟨g, 0, none⟩ hx (.agg c) hy _ (by
    have := run_storeAt_part (P := P) w g 0 T ty old c hA (by rw [hn]; exact hi) (by omega) h1
    rwa [splice_all (by omega)] at this) h

/-- a row and a plain value handed back -/
theorem results_at_tmp {fn : Func} {p u : Tmp} {ty : TypeId} (h : fn.results = #[.cell p ty, .tmp u]) (tmps : Array Value) (W : World) (g : Nat) (c : Array Value) (T : TypeId) (v : Value) (hp : tmps.getD p undef = .pointer (some ⟨g, 0, none⟩)) (hv : tmps.getD u undef = v) (hA : At W g c T)
    (d : TypeDesc) (hu : P.underlying ty = some d) (hd : (match d with | .struct _ | .array _ _ => true | _ => false) = true) (n : Nat) (hn : c.size = n) (hi : (P.info? ty).map (·.size) = some n) :
    (results fn tmps).run P W = .ok (.tuple #[.agg c, v]) W := by
  rw [results_cell_tmp h, hp, hv]
  have := run_loadVar_row (P := P) W g T ty c (0, 0) d hA hu hd (by rw [hn]; exact hi)
  simp only [asAddr, Sem.run_pure, Result.andThen_ok, this]
/-- a row handed back -/
theorem results_at {fn : Func} {p : Tmp} {ty : TypeId} (h : fn.results = #[.cell p ty]) (tmps : Array Value) (W : World) (g : Nat) (c : Array Value) (T : TypeId) (hp : tmps.getD p undef = .pointer (some ⟨g, 0, none⟩)) (hA : At W g c T)
    (d : TypeDesc) (hu : P.underlying ty = some d) (hd : (match d with | .struct _ | .array _ _ => true | _ => false) = true) (n : Nat) (hn : c.size = n) (hi : (P.info? ty).map (·.size) = some n) :
    (results fn tmps).run P W = .ok (.agg c) W :=
  results_cell_row h tmps W g T c (0, 0) d hp hA hu hd (by rw [hn]; exact hi)
theorem bset {B : Nat} {w a : World} (h : Below B w a) {g : Nat} (hg : B ≤ g) (c : Array Value) : Below B w (a.setRow g c) := Below.setRow h hg c
end Go.Proofs.YtboahhipobcabaaGreat

/-
  ROWS OF ELEMENTS OF ONE SIZE, one behind the other.
  No Go text in it. Conditions: those of each theorem.
-/
namespace Go.Proofs.YtboahhipobcabaaGreat
open Go Go.RowKit
set_option maxRecDepth 100000


section

variable {α : Type} (f : α → Array Value) (s : Nat) (d : α)

/-- elements one behind the other -/
def fm (xs : List α) : Array Value := (xs.flatMap fun x => (f x).toList).toArray


/-- the element at a place -/
def fe (xs : List α) (i : Nat) : α := xs.getD i d


variable {f s d}

theorem fe_mem {xs : List α} {i : Nat} (h : i < xs.length) : fe d xs i ∈ xs := by
  unfold fe
  rw [List.getD_eq_getElem?_getD, List.getElem?_eq_getElem h]
  exact List.getElem_mem h


theorem fmL_len (h : ∀ x, (f x).size = s) : ∀ xs : List α, (xs.flatMap fun x => (f x).toList).length = xs.length * s
  | [] => by simp
  | x :: xs => by
    rw [List.flatMap_cons, List.length_append, fmL_len h xs, List.length_cons, Array.length_toList, h, Nat.add_mul]
    omega


theorem fm_size (h : ∀ x, (f x).size = s) (xs : List α) : (fm f xs).size = xs.length * s := by unfold fm; rw [List.size_toArray, fmL_len h]


theorem fmL_get (h : ∀ x, (f x).size = s) : ∀ (xs : List α) {i j : Nat} (_ : i < xs.length) (_ : j < s), (xs.flatMap fun x => (f x).toList)[i * s + j]? = (f (fe d xs i))[j]?
  | [], i, j, hi, _ => by simp at hi
  | x :: xs, 0, j, _, hj => by
    rw [List.flatMap_cons, List.getElem?_append_left (by rw [Array.length_toList, h]; omega), Nat.zero_mul, Nat.zero_add, Array.getElem?_toList]
    rfl
  | x :: xs, i + 1, j, hi, hj => by
    have e : (i + 1) * s + j = s + (i * s + j) := by rw [Nat.add_mul]; omega
    rw [e, List.flatMap_cons, List.getElem?_append_right (by rw [Array.length_toList, h]; omega), Array.length_toList, h, Nat.add_sub_cancel_left]
    exact fmL_get h xs (by simpa using hi) hj


theorem fm_get (h : ∀ x, (f x).size = s) {xs : List α} {i j : Nat} (hi : i < xs.length) (hj : j < s) : (fm f xs)[i * s + j]? = (f (fe d xs i))[j]? := by
  unfold fm
  rw [List.getElem?_toArray]
  exact fmL_get h xs hi hj


theorem fm_at (h : ∀ x, (f x).size = s) {xs : List α} {i k : Nat} (hi : i < xs.length) (hk : k = i * s) : (fm f xs).extract k (k + s) = f (fe d xs i) := by
  subst hk
  have hs := fm_size h xs
  have hle : i * s + s ≤ xs.length * s := by
    have := Nat.mul_le_mul_right s (show i + 1 ≤ xs.length by omega)
    rw [Nat.add_mul] at this
    omega
  apply Array.ext_getElem?
  intro j
  rw [Array.getElem?_extract]
  by_cases c : j < s
  · rw [if_pos (by omega), fm_get h hi c]
  · rw [if_neg (by omega), Array.getElem?_eq_none (by rw [h]; omega)]


theorem fmL_take (h : ∀ x, (f x).size = s) : ∀ (xs : List α) (i : Nat), (xs.flatMap fun x => (f x).toList).take (i * s) = (xs.take i).flatMap fun x => (f x).toList
  | [], i => by simp
  | x :: xs, 0 => by simp
  | x :: xs, i + 1 => by
    have e : (i + 1) * s = s + i * s := by rw [Nat.add_mul]; omega
    rw [List.take_succ_cons, List.flatMap_cons, List.flatMap_cons, ← fmL_take h xs i, e, List.take_append, Array.length_toList, h, Nat.add_sub_cancel_left, List.take_of_length_le (by rw [Array.length_toList, h]; omega)]


theorem fmL_drop (h : ∀ x, (f x).size = s) : ∀ (xs : List α) (i : Nat), (xs.flatMap fun x => (f x).toList).drop (i * s) = (xs.drop i).flatMap fun x => (f x).toList
  | [], i => by simp
  | x :: xs, 0 => by simp
  | x :: xs, i + 1 => by
    have e : (i + 1) * s = s + i * s := by rw [Nat.add_mul]; omega
    rw [List.drop_succ_cons, List.flatMap_cons, ← fmL_drop h xs i, e, List.drop_append, Array.length_toList, h, Nat.add_sub_cancel_left, List.drop_eq_nil_of_le (by rw [Array.length_toList, h]; omega), List.nil_append]


theorem fm_set (h : ∀ x, (f x).size = s) {xs : List α} {i off : Nat} (hi : i < xs.length) (ho : off = i * s) (x : α) : splice (fm f xs) off (f x) = fm f (xs.set i x) := by
  subst ho
  apply Array.ext'
  unfold splice fm
  show (xs.flatMap fun x => (f x).toList).take (i * s) ++ (f x).toList ++ (xs.flatMap fun x => (f x).toList).drop (i * s + (f x).size) = (xs.set i x).flatMap fun x => (f x).toList
  rw [fmL_take h, h, show i * s + s = (i + 1) * s from by rw [Nat.add_mul]; omega, fmL_drop h, List.set_eq_take_append_cons_drop, if_pos hi, List.flatMap_append, List.flatMap_cons, List.append_assoc]


theorem fm_one (h : ∀ x, (f x).all (·.oneCell') = true) (xs : List α) : (fm f xs).all (·.oneCell') = true := by
  unfold fm
  rw [List.all_toArray, List.all_eq_true]
  intro u hu
  obtain ⟨p, hp, hu⟩ := List.mem_flatMap.1 hu
  have := h p
  rw [← Array.all_toList, List.all_eq_true] at this
  exact this u hu


/-- the first k are ys', the rest is as it was -/
def cpF (n : Nat) (z : α) (ys : List α) (k : Nat) : List α := ys.take k ++ List.replicate (n - k) z

theorem cpF_len {n : Nat} {z : α} {ys : List α} (h : ys.length = n) (k : Nat) (hk : k ≤ n) : (cpF n z ys k).length = n := by simp [cpF, h]; omega

theorem cpF_zero (n : Nat) (z : α) (ys : List α) : cpF n z ys 0 = List.replicate n z := by simp [cpF]

theorem cpF_set {n : Nat} {z : α} {ys : List α} (h : ys.length = n) {k : Nat} (hk : k < n) : (cpF n z ys k).set k (fe d ys k) = cpF n z ys (k + 1) := by
  unfold cpF fe
  rw [List.set_append_right _ _ (by simp; omega), List.take_succ_eq_append_getElem (by omega), List.getD_eq_getElem?_getD, List.getElem?_eq_getElem (by omega)]
  rw [show k - (List.take k ys).length = 0 from by simp; omega, show n - k = (n - (k + 1)) + 1 from by omega, List.replicate_succ, List.append_assoc]
  rfl

theorem cpF_all {n : Nat} {z : α} {ys : List α} (h : ys.length = n) : cpF n z ys n = ys := by simp [cpF, ← h]


theorem made_fm (h : ∀ x, (f x).size = s) (z : α) (n : Nat) : madeCells (f z) (n * s) = fm f (List.replicate n z) := by
  have hs := fm_size h (List.replicate n z)
  rw [List.length_replicate] at hs
  apply Array.ext_getElem?
  intro i
  by_cases c : i < n * s
  · have hs0 : 0 < s := by
      rcases Nat.eq_zero_or_pos s with e | e
      · subst e; simp at c
      · exact e
    have hd : i / s < n := (Nat.div_lt_iff_lt_mul hs0).2 c
    have hm := Nat.mod_lt i hs0
    have hi : i = i / s * s + i % s := by have := Nat.div_add_mod i s; rw [Nat.mul_comm] at this; exact this.symm
    have g := fm_get (d := z) h (xs := List.replicate n z) (i := i / s) (j := i % s) (by rw [List.length_replicate]; exact hd) hm
    rw [← hi] at g
    rw [g]
    have e1 : fe z (List.replicate n z) (i / s) = z := by
      unfold fe
      rw [List.getD_eq_getElem?_getD, List.getElem?_replicate, if_pos hd]
      rfl
    rw [e1]
    unfold madeCells
    have hsz : (f z).size = s := h z
    simp [c, hsz]
    have hlt : i % s < (f z).size := by rw [hsz]; exact hm
    rw [Array.getElem?_eq_getElem hlt]
    simp [hlt]
  · rw [Array.getElem?_eq_none (by unfold madeCells; simp; omega), Array.getElem?_eq_none (by omega)]

end

end Go.Proofs.YtboahhipobcabaaGreat

/-
  ROWS OF YES AND NO IN MEMORY: phases as rows of eight, tables as rows of eight by eight.
  No Go text in it. Conditions: those of each theorem.
-/
namespace Go.Proofs.YtboahhipobcabaaGreat
open Go Go.RowKit

/-- what stands at a place (no behind the end) -/
def bn (bs : List Bool) (k : Nat) : Bool := bs.getD k false
/-- a row of yes and no -/
def bl (bs : List Bool) : Array Value := (bs.map Value.bool).toArray
theorem bl_size (bs : List Bool) : (bl bs).size = bs.length := by simp [bl]
theorem bl_get {bs : List Bool} {k : Nat} (h : k < bs.length) : (bl bs)[k]? = some (.bool (bn bs k)) := by
  simp [bl, bn, List.getElem?_map, List.getElem?_eq_getElem h, List.getD]
theorem bl_extract (bs : List Bool) (a b : Nat) : (bl bs).extract a b = bl ((bs.take b).drop a) := by
  apply Array.ext'
  simp [bl, List.map_drop, List.map_take, List.drop_take]
theorem bl_set (bs : List Bool) (k : Nat) (x : Bool) : (bl bs).setIfInBounds k (.bool x) = bl (bs.set k x) := by
  apply Array.ext'
  simp [bl]
theorem bl_one (bs : List Bool) : (bl bs).all (·.oneCell') = true := by
  simp only [bl, List.all_toArray, List.all_map]
  rw [List.all_eq_true]
  intro x _
  rfl
theorem splice_bl (xs ys : List Bool) (off : Nat) : splice (bl xs) off (bl ys) = bl (xs.take off ++ ys ++ xs.drop (off + ys.length)) := by
  simp [splice, bl, List.map_take, List.map_drop]
theorem bl_inj {xs ys : List Bool} (h : bl xs = bl ys) : xs = ys := by
  have := congrArg Array.toList h
  simp only [bl] at this
  exact (List.map_inj_right (fun a b e => by cases e; rfl)).1 this

/-- no, n times -/
def noes (n : Nat) : List Bool := List.replicate n false
theorem noes_len (n : Nat) : (noes n).length = n := by simp [noes]
/-- what a copy of n places has after k places -/
def cpB (n : Nat) (ys : List Bool) (k : Nat) : List Bool := ys.take k ++ List.replicate (n - k) false
theorem cpB_len {n : Nat} {ys : List Bool} (h : ys.length = n) (k : Nat) (hk : k ≤ n) : (cpB n ys k).length = n := by simp [cpB, h]; omega
theorem cpB_zero (n : Nat) (ys : List Bool) : cpB n ys 0 = noes n := by simp [cpB, noes]
theorem cpB_set {n : Nat} {ys : List Bool} (h : ys.length = n) {k : Nat} (hk : k < n) : (cpB n ys k).set k (bn ys k) = cpB n ys (k + 1) := by
  unfold cpB bn
  rw [List.set_append_right _ _ (by simp; omega), List.take_succ_eq_append_getElem (by omega), List.getD_eq_getElem?_getD, List.getElem?_eq_getElem (by omega)]
  rw [show k - (List.take k ys).length = 0 from by simp; omega, show n - k = (n - (k + 1)) + 1 from by omega, List.replicate_succ, List.append_assoc]
  rfl
theorem cpB_all {n : Nat} {ys : List Bool} (h : ys.length = n) : cpB n ys n = ys := by simp [cpB, ← h]
section
variable {ts : List Bool}
/-- row k of eight by eight -/
def row8 (ts : List Bool) (k : Nat) : List Bool := (ts.drop (8 * k)).take 8
theorem row8_len (ht : ts.length = 64) {k : Nat} (hk : k < 8) : (row8 ts k).length = 8 := by simp [row8, ht]; omega
theorem row8_nth (_ht : ts.length = 64) (k : Nat) {n : Nat} (hn : n < 8) : bn (row8 ts k) n = bn ts (8 * k + n) := by
  unfold row8 bn; simp only [List.getD]; rw [List.getElem?_take_of_lt hn, List.getElem?_drop]
theorem bl_row (_ht : ts.length = 64) {k off : Nat} (_hk : k < 8) (ho : off = 8 * k) : (bl ts).extract off (off + 8) = bl (row8 ts k) := by
  subst ho
  rw [bl_extract]; congr 1; unfold row8; rw [List.take_drop, Nat.add_comm]
end
/-- a copy by rows -/
def cpT (ts : List Bool) (k : Nat) : List Bool := cpB 64 ts (8 * k)
theorem cpT_len {ts : List Bool} (h : ts.length = 64) {k : Nat} (hk : k ≤ 8) : (cpT ts k).length = 64 := cpB_len h _ (by omega)
theorem cpT_zero (ts : List Bool) : cpT ts 0 = noes 64 := by simp [cpT, cpB, noes]
theorem cpT_all {ts : List Bool} (h : ts.length = 64) : cpT ts 8 = ts := cpB_all h
theorem cpT_splice {ts : List Bool} (h : ts.length = 64) {k off : Nat} (hk : k < 8) (ho : off = 8 * k) : splice (bl (cpT ts k)) off (bl (row8 ts k)) = bl (cpT ts (k + 1)) := by
  subst ho
  rw [splice_bl, row8_len h hk]
  congr 1
  unfold cpT cpB row8
  have e1 : (ts.take (8 * k)).drop (8 * k + 8) = [] := List.drop_eq_nil_of_le (by simp [h]; omega)
  have e2 : (ts.take (8 * k)).length = 8 * k := by simp [h]; omega
  rw [List.take_append_of_le_length (by omega), List.take_take, Nat.min_self, List.drop_append, e1, List.nil_append, e2, List.drop_replicate]
  rw [show 8 * (k + 1) = 8 * k + 8 from by omega, List.take_add]
  congr 2
  omega

variable {P : Program}
/-- an element of a row of yes and no -/
theorem run_index_bl (w : World) (ty e : TypeId) (n : Nat) (xs : List Bool) (k : Nat) (hu : P.underlying ty = some (.array n e)) (hue : P.underlying e = some .bool) (he : (P.info? e).map (·.size) = some 1) (hk : k < n) (hn : n = xs.length) :
    (Instr.index ty (.agg (bl xs)) (.int .i64 k)).run P w = .ok (.bool (bn xs k)) w := by
  subst hn
  have hagg : (isAgg e).run P w = .ok false w := by
    unfold isAgg
    rw [Sem.run_bind, run_underlying hue w]
    rfl
  cases hq : P.info? e with
  | none => simp [hq] at he
  | some i =>
    have hs : i.size = 1 := by simpa [hq] using he
    simp [Instr.index, asIntOf, run_underlying hu, hk, sizeOf, typeInfo, hq, hs, part, hagg, bl_get hk]
end Go.Proofs.YtboahhipobcabaaGreat
