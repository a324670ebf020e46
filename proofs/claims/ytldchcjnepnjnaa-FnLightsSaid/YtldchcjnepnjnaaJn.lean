/-
  ROWS OF A JUNCTION: two whole numbers, sixteen turns, four priorities; rows of sixteen by four.
  No Go text in it. Conditions: those of each theorem.
-/
import Derived.Test.YtldchcjnepnjnaaNan
namespace Go.Proofs.Ytldchcjnepnjnaa
open Go Go.RowKit

def jn (i o : Int) (ts ps : List Nat) : Array Value := #[.int .i64 i, .int .i64 o] ++ fl (ts ++ ps)
section
variable {i o : Int} {ts ps : List Nat}
theorem jn_size (ht : ts.length = 16) (hp : ps.length = 4) (i o : Int) : (jn i o ts ps).size = 22 := by
  unfold jn; rw [Array.size_append, fl_size, List.length_append, ht, hp]; rfl
theorem jn_list (i o : Int) (ts ps : List Nat) : (jn i o ts ps).toList = .int .i64 i :: .int .i64 o :: (ts ++ ps).map (Value.float .f32) := by
  unfold jn fl; simp
theorem jn_ins (i o : Int) (ts ps : List Nat) : (jn i o ts ps)[0]? = some (.int .i64 i) := by rw [← Array.getElem?_toList, jn_list]; rfl
theorem jn_outs (i o : Int) (ts ps : List Nat) : (jn i o ts ps)[1]? = some (.int .i64 o) := by rw [← Array.getElem?_toList, jn_list]; rfl
theorem jn_at (ht : ts.length = 16) (hp : ps.length = 4) (i o : Int) {k : Nat} (hk : k < 20) : (jn i o ts ps)[k + 2]? = some (.float .f32 (nth (ts ++ ps) k)) := by
  rw [← Array.getElem?_toList, jn_list, List.getElem?_cons_succ, List.getElem?_cons_succ, List.getElem?_map, List.getElem?_eq_getElem (by simp [ht, hp]; omega)]
  simp [nth, List.getD, List.getElem?_eq_getElem (show k < (ts ++ ps).length by simp [ht, hp]; omega)]
theorem nth_left {a b : List Nat} {k : Nat} (h : k < a.length) : nth (a ++ b) k = nth a k := by
  unfold nth; simp only [List.getD]; rw [List.getElem?_append_left h]
theorem nth_right {a b : List Nat} {k : Nat} (h : a.length ≤ k) : nth (a ++ b) k = nth b (k - a.length) := by
  unfold nth; simp only [List.getD]; rw [List.getElem?_append_right h]
theorem jn_turn (ht : ts.length = 16) (hp : ps.length = 4) (i o : Int) {k j : Nat} (hk : k < 16) (hj : j = k + 2) : (jn i o ts ps)[j]? = some (.float .f32 (nth ts k)) := by
  subst hj; rw [jn_at ht hp i o (by omega), nth_left (by omega)]
theorem jn_prior (ht : ts.length = 16) (hp : ps.length = 4) (i o : Int) {k j : Nat} (hk : k < 4) (hj : j = k + 18) : (jn i o ts ps)[j]? = some (.float .f32 (nth ps k)) := by
  subst hj
  have := jn_at ht hp i o (k := k + 16) (by omega)
  rw [show k + 18 = k + 16 + 2 from rfl, this, nth_right (by omega), ht, Nat.add_sub_cancel]
theorem jn_extract (ht : ts.length = 16) (hp : ps.length = 4) (i o : Int) (a b : Nat) (ha : 2 ≤ a) : (jn i o ts ps).extract a b = fl (((ts ++ ps).take (b - 2)).drop (a - 2)) := by
  obtain ⟨a', rfl⟩ : ∃ a', a = a' + 2 := ⟨a - 2, by omega⟩
  apply Array.ext'
  rw [Array.toList_extract, jn_list]
  simp only [fl, List.map_drop, List.map_take]
  rw [List.extract_eq_take_drop]
  rw [show a' + 2 = (a' + 1) + 1 from rfl, List.drop_succ_cons, List.drop_succ_cons, show a' + 1 + 1 - 2 = a' from by omega, List.take_drop]
  by_cases c : a' + 1 + 1 ≤ b
  · rw [show a' + (b - (a' + 1 + 1)) = b - 2 from by omega]
  · rw [show b - (a' + 1 + 1) = 0 from by omega, List.drop_eq_nil_of_le (by rw [List.length_take]; omega), List.drop_eq_nil_of_le (by rw [List.length_take]; omega)]
theorem jn_turns (ht : ts.length = 16) (hp : ps.length = 4) (i o : Int) : (jn i o ts ps).extract 2 (2 + 16) = fl ts := by
  rw [jn_extract ht hp i o 2 18 (by omega)]
  congr 1
  simp [← ht]
theorem jn_priors (ht : ts.length = 16) (hp : ps.length = 4) (i o : Int) : (jn i o ts ps).extract 18 (18 + 4) = fl ps := by
  rw [jn_extract ht hp i o 18 22 (by omega)]
  congr 1
  have : (ts ++ ps).take (22 - 2) = ts ++ ps := List.take_of_length_le (by simp [ht, hp])
  rw [this, show 18 - 2 = ts.length from ht.symm, List.drop_left]
/-- row k of four by four -/
def row4 (ts : List Nat) (k : Nat) : List Nat := (ts.drop (4 * k)).take 4
theorem row4_len (ht : ts.length = 16) {k : Nat} (hk : k < 4) : (row4 ts k).length = 4 := by simp [row4, ht]; omega
theorem row4_nth (_ht : ts.length = 16) (k : Nat) {n : Nat} (hn : n < 4) : nth (row4 ts k) n = nth ts (4 * k + n) := by
  unfold row4 nth; simp only [List.getD]; rw [List.getElem?_take_of_lt hn, List.getElem?_drop]
theorem row4_mem {x : Nat} (k : Nat) (h : x ∈ row4 ts k) : x ∈ ts := List.mem_of_mem_drop (List.mem_of_mem_take h)
theorem fl_row (_ht : ts.length = 16) {k off : Nat} (_hk : k < 4) (ho : off = 4 * k) : (fl ts).extract off (off + 4) = fl (row4 ts k) := by
  subst ho
  rw [fl_extract]; congr 1; unfold row4; rw [List.take_drop, Nat.add_comm]
theorem jn_row (ht : ts.length = 16) (hp : ps.length = 4) (i o : Int) {k off : Nat} (hk : k < 4) (ho : off = 4 * k + 2) : (jn i o ts ps).extract off (off + 4) = fl (row4 ts k) := by
  subst ho
  rw [jn_extract ht hp i o _ _ (by omega)]
  congr 1
  unfold row4
  rw [List.take_drop, show 4 * k + 2 + 4 - 2 = 4 * k + 4 from by omega, show 4 * k + 2 - 2 = 4 * k from by omega, List.take_append_of_le_length (by omega)]
theorem jn_one (i o : Int) (ts ps : List Nat) : (jn i o ts ps).all (·.oneCell') = true := by
  rw [Array.all_eq_true_iff_forall_mem]
  intro x hx
  have : x ∈ (jn i o ts ps).toList := by simpa using hx
  rw [jn_list] at this
  simp only [List.mem_cons, List.mem_map] at this
  rcases this with rfl | rfl | ⟨y, -, rfl⟩ <;> rfl
theorem jn_set (i o : Int) (ts ps : List Nat) (k x : Nat) : (jn i o ts ps).setIfInBounds (k + 2) (.float .f32 x) = #[.int .i64 i, .int .i64 o] ++ fl ((ts ++ ps).set k x) := by
  apply Array.ext'
  rw [Array.toList_setIfInBounds, jn_list]
  simp [fl]
theorem jn_setTurn (ht : ts.length = 16) (i o : Int) {k j : Nat} (hk : k < 16) (hj : j = k + 2) (x : Nat) : (jn i o ts ps).setIfInBounds j (.float .f32 x) = jn i o (ts.set k x) ps := by
  subst hj
  rw [jn_set, List.set_append_left _ _ (by omega)]; rfl
theorem jn_setPrior (ht : ts.length = 16) (i o : Int) {k j : Nat} (hj : j = k + 18) (x : Nat) : (jn i o ts ps).setIfInBounds j (.float .f32 x) = jn i o ts (ps.set k x) := by
  subst hj
  rw [show k + 18 = (k + 16) + 2 from rfl, jn_set, List.set_append_right _ _ (by omega), ht, Nat.add_sub_cancel]; rfl
theorem jn_setIns (i o x : Int) (ts ps : List Nat) : (jn i o ts ps).setIfInBounds 0 (.int .i64 x) = jn x o ts ps := by
  apply Array.ext'
  rw [Array.toList_setIfInBounds, jn_list, jn_list]; rfl
theorem jn_setOuts (i o x : Int) (ts ps : List Nat) : (jn i o ts ps).setIfInBounds 1 (.int .i64 x) = jn i x ts ps := by
  apply Array.ext'
  rw [Array.toList_setIfInBounds, jn_list, jn_list]; rfl
theorem jn_spliceTurns {ts' : List Nat} (ht : ts.length = 16) (ht' : ts'.length = 16) (i o : Int) (ps : List Nat) : splice (jn i o ts ps) 2 (fl ts') = jn i o ts' ps := by
  apply Array.ext'
  unfold splice
  rw [jn_list, jn_list]
  simp [fl, ht, ht']
theorem jn_splicePriors {ps' : List Nat} (ht : ts.length = 16) (hp : ps.length = 4) (hp' : ps'.length = 4) (i o : Int) : splice (jn i o ts ps) 18 (fl ps') = jn i o ts ps' := by
  apply Array.ext'
  unfold splice
  rw [jn_list, jn_list]
  simp [fl, ht, hp, hp']
end
/-- a copy by rows -/
def cpR (ts : List Nat) (k : Nat) : List Nat := cpN 16 ts (4 * k)
theorem cpR_len {ts : List Nat} (h : ts.length = 16) {k : Nat} (hk : k ≤ 4) : (cpR ts k).length = 16 := cpN_len h _ (by omega)
theorem cpR_zero (ts : List Nat) : cpR ts 0 = zeros 16 := by simp [cpR, cpN, zeros]
theorem cpR_all {ts : List Nat} (h : ts.length = 16) : cpR ts 4 = ts := cpN_all h
theorem cpR_splice {ts : List Nat} (h : ts.length = 16) {k off : Nat} (hk : k < 4) (ho : off = 4 * k) : splice (fl (cpR ts k)) off (fl (row4 ts k)) = fl (cpR ts (k + 1)) := by
  subst ho
  rw [splice_fl, row4_len h hk]
  congr 1
  unfold cpR cpN row4
  have e1 : (ts.take (4 * k)).drop (4 * k + 4) = [] := List.drop_eq_nil_of_le (by simp [h]; omega)
  have e2 : (ts.take (4 * k)).length = 4 * k := by simp [h]; omega
  rw [List.take_append_of_le_length (by omega), List.take_take, Nat.min_self, List.drop_append, e1, List.nil_append, e2, List.drop_replicate]
  rw [show 4 * (k + 1) = 4 * k + 4 from by omega, List.take_add]
  congr 2
  omega

variable {P : Program} {ops : Array Oper} {rest : List Oper} {o : Oper} {a : Act} {w : World} {Q : Exit → Act → World → Prop}
/-- a part of a row stored -/
theorem wpList_store_part (hgd : o.guard = none) (ty : TypeId) (x y : Operand) (ho : o.op = .store ty x y) (g off : Nat) (hx : a.eval x = .pointer (some ⟨g, off, none⟩)) (c : Array Value) (hy : a.eval y = .agg c) (old : Array Value) (T : TypeId) (hA : At w g old T) (n : Nat) (hn : c.size = n) (hle : off + n ≤ old.size)
    (hi : (P.info? ty).map (·.size) = some n) (h1 : c.all (·.oneCell') = true) (new : Array Value) (hs : splice old off c = new) (h : wpList P ops Q rest (a.put o.dst undef) (w.setRow g new)) : wpList P ops Q (o :: rest) a w :=
  wpList_store_of hgd ty x y ho ⟨g, off, none⟩ hx (.agg c) hy _ (by
    have := run_storeAt_part (P := P) w g off T ty old c hA (by rw [hn]; exact hi) (by omega) h1
    rwa [hs] at this) h
end Go.Proofs.Ytldchcjnepnjnaa
