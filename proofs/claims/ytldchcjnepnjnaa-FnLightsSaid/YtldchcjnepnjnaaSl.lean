/-
  ROWS OF SLOTS IN MEMORY: a phase of eight movements and a number of ticks each.
  No Go text in it. Conditions: those of each theorem.
-/
import Derived.Test.YtldchcjnepnjnaaG4
namespace Go.Proofs.Ytldchcjnepnjnaa
open Go Go.RowKit

abbrev Slots := List (List Bool × Int)
def sb (xs : Slots) (i : Nat) : List Bool := (xs.getD i ([], 0)).1
def st (xs : Slots) (i : Nat) : Int := (xs.getD i ([], 0)).2
/-- a slot's cells -/
def sl1 (b : List Bool) (t : Int) : Array Value := bl b ++ #[.int .i64 t]
def sll (s : List Bool × Int) : List Value := s.1.map Value.bool ++ [.int .i64 s.2]
/-- the cells of slots in a row -/
def slC (xs : Slots) : Array Value := (xs.flatMap sll).toArray
def I64 (t : Int) : Prop := -9223372036854775808 ≤ t ∧ t ≤ 9223372036854775807
/-- every phase has eight movements, every number fits its word -/
def SlW (xs : Slots) : Prop := ∀ s ∈ xs, s.1.length = 8 ∧ I64 s.2
theorem sl1_list (b : List Bool) (t : Int) : (sl1 b t).toList = sll (b, t) := by simp [sl1, sll, bl]
theorem sl1_size {b : List Bool} (h : b.length = 8) (t : Int) : (sl1 b t).size = 9 := by simp [sl1, bl_size, h]
theorem sl1_green {b : List Bool} (h : b.length = 8) (t : Int) {j : Nat} (hj : j < 8) : (sl1 b t)[j]? = some (.bool (bn b j)) := by
  unfold sl1; rw [Array.getElem?_append_left (by rw [bl_size]; omega)]; exact bl_get (by omega)
theorem sl1_ticks {b : List Bool} (h : b.length = 8) (t : Int) : (sl1 b t)[8]? = some (.int .i64 t) := by
  unfold sl1; rw [Array.getElem?_append_right (by rw [bl_size]; omega), bl_size, h]; rfl
theorem sl1_one (b : List Bool) (t : Int) : (sl1 b t).all (·.oneCell') = true := by
  unfold sl1; rw [Array.all_append, bl_one]; simp [Value.oneCell']
theorem sl1_phase {b : List Bool} (h : b.length = 8) (t : Int) : (sl1 b t).extract 0 (0 + 8) = bl b := by
  apply Array.ext'
  simp [sl1, bl, h]
theorem sl1_setT {b : List Bool} (h : b.length = 8) (t t' : Int) : (sl1 b t).setIfInBounds 8 (.int .i64 t') = sl1 b t' := by
  apply Array.ext'
  simp [sl1, bl, h]
theorem sl1_spliceG {b b' : List Bool} (h : b.length = 8) (h' : b'.length = 8) (t : Int) : splice (sl1 b t) 0 (bl b') = sl1 b' t := by
  apply Array.ext'
  simp [splice, sl1, bl, h, h']
section
variable {xs : Slots}
theorem SlW.tail {s : List Bool × Int} (h : SlW (s :: xs)) : SlW xs := fun x hx => h x (by simp [hx])
theorem SlW.at (h : SlW xs) {i : Nat} (hi : i < xs.length) : (sb xs i).length = 8 ∧ I64 (st xs i) := by
  have e : xs.getD i ([], 0) = xs[i] := by rw [List.getD_eq_getElem?_getD, List.getElem?_eq_getElem hi]; rfl
  unfold sb st
  rw [e]
  exact h _ (List.getElem_mem hi)
theorem sll_len {s : List Bool × Int} (h : s.1.length = 8) : (sll s).length = 9 := by simp [sll, h]
theorem slL_len (h : SlW xs) : (xs.flatMap sll).length = xs.length * 9 := by
  induction xs with
  | nil => rfl
  | cons s xs ih =>
    rw [List.flatMap_cons, List.length_append, ih h.tail, sll_len (h s (by simp)).1, List.length_cons]; omega
theorem slC_size (h : SlW xs) : (slC xs).size = xs.length * 9 := by unfold slC; rw [List.size_toArray, slL_len h]
theorem slL_get (h : SlW xs) {i j : Nat} (hi : i < xs.length) (hj : j < 9) : (xs.flatMap sll)[i * 9 + j]? = (sll (xs.getD i ([], 0)))[j]? := by
  induction xs generalizing i with
  | nil => simp at hi
  | cons s xs ih =>
    have hs := sll_len (h s (by simp)).1
    rw [List.flatMap_cons]
    cases i with
    | zero => rw [Nat.zero_mul, Nat.zero_add, List.getElem?_append_left (by omega)]; rfl
    | succ i =>
      rw [List.getElem?_append_right (by omega), hs, show (i + 1) * 9 + j - 9 = i * 9 + j from by omega, ih h.tail (by simpa using hi)]
      rfl
theorem slC_get (h : SlW xs) {i j : Nat} (hi : i < xs.length) (hj : j < 9) : (slC xs)[i * 9 + j]? = (sl1 (sb xs i) (st xs i))[j]? := by
  have := slL_get h hi hj
  rw [← Array.getElem?_toList, ← Array.getElem?_toList, sl1_list]
  exact this
theorem slC_green (h : SlW xs) {i j k : Nat} (hi : i < xs.length) (hj : j < 8) (hk : k = i * 9 + j) : (slC xs)[k]? = some (.bool (bn (sb xs i) j)) := by
  subst hk; rw [slC_get h hi (by omega)]; exact sl1_green (h.at hi).1 _ hj
theorem slC_ticks (h : SlW xs) {i k : Nat} (hi : i < xs.length) (hk : k = i * 9 + 8) : (slC xs)[k]? = some (.int .i64 (st xs i)) := by
  subst hk; rw [slC_get h hi (by omega)]; exact sl1_ticks (h.at hi).1 _
theorem slC_slot (h : SlW xs) {i k : Nat} (hi : i < xs.length) (hk : k = i * 9) : (slC xs).extract k (k + 9) = sl1 (sb xs i) (st xs i) := by
  subst hk
  have hs := slC_size h
  apply Array.ext_getElem?
  intro j
  rw [Array.getElem?_extract]
  by_cases c : j < 9
  · rw [if_pos (by omega), slC_get h hi c]
  · rw [if_neg (by omega), Array.getElem?_eq_none (by rw [sl1_size (h.at hi).1]; omega)]
theorem slC_phase (h : SlW xs) {i k : Nat} (hi : i < xs.length) (hk : k = i * 9) : (slC xs).extract k (k + 8) = bl (sb xs i) := by
  subst hk
  have hs := slC_size h
  have hb := (h.at hi).1
  apply Array.ext_getElem?
  intro j
  rw [Array.getElem?_extract]
  by_cases c : j < 8
  · rw [if_pos (by omega), slC_get h hi (by omega), sl1_green hb _ c, bl_get (by omega)]
  · rw [if_neg (by omega), Array.getElem?_eq_none (by rw [bl_size, hb]; omega)]
end
theorem slC_one (xs : Slots) : (slC xs).all (·.oneCell') = true := by
  unfold slC
  rw [List.all_toArray, List.all_eq_true]
  intro v hv
  obtain ⟨s, -, hs⟩ := List.mem_flatMap.1 hv
  simp only [sll, List.mem_append, List.mem_map, List.mem_singleton] at hs
  rcases hs with ⟨b, -, rfl⟩ | rfl <;> rfl
/-- no slot at all, n times -/
def slZ (n : Nat) : Slots := List.replicate n (noes 8, 0)
/-- what a copy of n slots has after k -/
def cpS (n : Nat) (xs : Slots) (k : Nat) : Slots := xs.take k ++ List.replicate (n - k) (noes 8, 0)
theorem slZ_w (n : Nat) : SlW (slZ n) := fun s hs => by
  obtain rfl := (List.mem_replicate.1 hs).2
  exact ⟨noes_len 8, by unfold I64; simp⟩
theorem cpS_w {xs : Slots} (h : SlW xs) (n k : Nat) : SlW (cpS n xs k) := fun s hs => by
  rcases List.mem_append.1 hs with hs | hs
  · exact h s (List.mem_of_mem_take hs)
  · obtain rfl := (List.mem_replicate.1 hs).2
    exact ⟨noes_len 8, by unfold I64; simp⟩
theorem cpS_len {n : Nat} {xs : Slots} (h : xs.length = n) {k : Nat} (hk : k ≤ n) : (cpS n xs k).length = n := by simp [cpS, h]; omega
theorem cpS_zero (n : Nat) (xs : Slots) : cpS n xs 0 = slZ n := by simp [cpS, slZ]
theorem cpS_all {n : Nat} {xs : Slots} (h : xs.length = n) : cpS n xs n = xs := by simp [cpS, ← h]
theorem cpS_splice {n : Nat} {xs : Slots} (hW : SlW xs) (h : xs.length = n) {k off : Nat} (hk : k < n) (ho : off = k * 9) : splice (slC (cpS n xs k)) off (sl1 (sb xs k) (st xs k)) = slC (cpS n xs (k + 1)) := by
  subst ho
  have e : xs.getD k ([], 0) = xs[k]'(by omega) := by rw [List.getD_eq_getElem?_getD, List.getElem?_eq_getElem (by omega)]; rfl
  have hT : (List.flatMap sll (xs.take k)).length = k * 9 := by rw [slL_len (fun s hs => hW s (List.mem_of_mem_take hs)), List.length_take]; congr 1; omega
  have hb := (hW.at (i := k) (by omega)).1
  apply Array.ext'
  unfold splice
  simp only [slC, sl1_size hb]
  rw [sl1_list]
  unfold cpS
  rw [show n - k = (n - (k + 1)) + 1 from by omega, List.replicate_succ, List.flatMap_append, List.flatMap_append, List.flatMap_cons, List.take_succ_eq_append_getElem (by omega), List.flatMap_append]
  have h0 : (sll (noes 8, 0)).length = 9 := sll_len (noes_len 8)
  rw [List.take_append_of_le_length (by omega), List.take_of_length_le (by omega), List.drop_append, List.drop_eq_nil_of_le (by omega), List.nil_append, hT, show k * 9 + 9 - k * 9 = 9 from by omega,
    List.drop_append, List.drop_eq_nil_of_le (by omega), List.nil_append, h0, Nat.sub_self, List.drop_zero]
  simp only [sb, st, e, List.flatMap_cons, List.flatMap_nil, List.append_nil]
end Go.Proofs.Ytldchcjnepnjnaa
