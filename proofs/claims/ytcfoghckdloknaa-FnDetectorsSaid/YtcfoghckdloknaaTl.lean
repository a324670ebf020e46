/-
  ROWS OF TALLIES IN MEMORY: a turn, a count and how full, three cells each.
  No Go text in it. Conditions: those of each theorem.
-/
import Derived.Test.YtcfoghckdloknaaCell
namespace Go.Proofs.Ytcfoghckdloknaa
open Go Go.RowKit

abbrev Ts := List (Int × Int × Int)
def tn (xs : Ts) (i : Nat) : Int := (xs.getD i (0, 0, 0)).1
def tc (xs : Ts) (i : Nat) : Int := (xs.getD i (0, 0, 0)).2.1
def tf (xs : Ts) (i : Nat) : Int := (xs.getD i (0, 0, 0)).2.2
/-- a tally's cells -/
def t1 (t c f : Int) : Array Value := #[.int .i64 t, .int .i16 c, .int .i16 f]
def tll (s : Int × Int × Int) : List Value := [.int .i64 s.1, .int .i16 s.2.1, .int .i16 s.2.2]
/-- the cells of tallies in a row -/
def tC (xs : Ts) : Array Value := (xs.flatMap tll).toArray
def I64t (t : Int) : Prop := -9223372036854775808 ≤ t ∧ t ≤ 9223372036854775807
def I16 (t : Int) : Prop := -32768 ≤ t ∧ t ≤ 32767
/-- every number fits its word -/
def TW (xs : Ts) : Prop := ∀ s ∈ xs, I64t s.1 ∧ I16 s.2.1 ∧ I16 s.2.2
theorem t1_list (t c f : Int) : (t1 t c f).toList = tll (t, c, f) := rfl
theorem t1_size (t c f : Int) : (t1 t c f).size = 3 := rfl
theorem t1_0 (t c f : Int) : (t1 t c f)[0]? = some (.int .i64 t) := rfl
theorem t1_1 (t c f : Int) : (t1 t c f)[1]? = some (.int .i16 c) := rfl
theorem t1_2 (t c f : Int) : (t1 t c f)[2]? = some (.int .i16 f) := rfl
theorem t1_s0 (t c f t' : Int) : (t1 t c f).setIfInBounds 0 (.int .i64 t') = t1 t' c f := rfl
theorem t1_s1 (t c f c' : Int) : (t1 t c f).setIfInBounds 1 (.int .i16 c') = t1 t c' f := rfl
theorem t1_s2 (t c f f' : Int) : (t1 t c f).setIfInBounds 2 (.int .i16 f') = t1 t c f' := rfl
theorem t1_sz (t : Int) : (#[.int .i64 0, .int .i16 0, .int .i16 0] : Array Value).setIfInBounds 0 (.int .i64 t) = t1 t 0 0 := rfl
theorem t1_z : (#[.int .i64 0, .int .i16 0, .int .i16 0] : Array Value) = t1 0 0 0 := rfl
theorem t1_one (t c f : Int) : (t1 t c f).all (·.oneCell') = true := by unfold t1; rw [List.all_toArray]; rfl
section
variable {xs : Ts}
theorem TW.tail {s : Int × Int × Int} (h : TW (s :: xs)) : TW xs := fun x hx => h x (by simp [hx])
theorem getD_at {i : Nat} (hi : i < xs.length) : xs.getD i (0, 0, 0) = xs[i] := by rw [List.getD_eq_getElem?_getD, List.getElem?_eq_getElem hi]; rfl
theorem TW.at (h : TW xs) {i : Nat} (hi : i < xs.length) : I64t (tn xs i) ∧ I16 (tc xs i) ∧ I16 (tf xs i) := by
  unfold tn tc tf
  rw [getD_at hi]
  exact h _ (List.getElem_mem hi)
theorem tll_len (s : Int × Int × Int) : (tll s).length = 3 := rfl
theorem tL_len (xs : Ts) : (xs.flatMap tll).length = xs.length * 3 := by
  induction xs with
  | nil => rfl
  | cons s xs ih => rw [List.flatMap_cons, List.length_append, ih, tll_len, List.length_cons]; omega
theorem tC_size (xs : Ts) : (tC xs).size = xs.length * 3 := by unfold tC; rw [List.size_toArray, tL_len]
theorem tL_get {i j : Nat} (hi : i < xs.length) (hj : j < 3) : (xs.flatMap tll)[i * 3 + j]? = (tll (xs.getD i (0, 0, 0)))[j]? := by
  induction xs generalizing i with
  | nil => simp at hi
  | cons s xs ih =>
    have hs := tll_len s
    rw [List.flatMap_cons]
    cases i with
    | zero => rw [Nat.zero_mul, Nat.zero_add, List.getElem?_append_left (by omega)]; rfl
    | succ i =>
      rw [List.getElem?_append_right (by omega), hs, show (i + 1) * 3 + j - 3 = i * 3 + j from by omega, ih (by simpa using hi)]
      rfl
theorem tC_get {i j : Nat} (hi : i < xs.length) (hj : j < 3) : (tC xs)[i * 3 + j]? = (t1 (tn xs i) (tc xs i) (tf xs i))[j]? := by
  have := tL_get hi hj
  rw [← Array.getElem?_toList, ← Array.getElem?_toList, t1_list]
  exact this
theorem tC_turn {i k : Nat} (hi : i < xs.length) (hk : k = i * 3) : (tC xs)[k]? = some (.int .i64 (tn xs i)) := by
  subst hk; have := tC_get (j := 0) hi (by omega); rw [Nat.add_zero] at this; rw [this]; exact t1_0 _ _ _
theorem tC_count {i k : Nat} (hi : i < xs.length) (hk : k = i * 3 + 1) : (tC xs)[k]? = some (.int .i16 (tc xs i)) := by
  subst hk; rw [tC_get hi (by omega)]; exact t1_1 _ _ _
theorem tC_full {i k : Nat} (hi : i < xs.length) (hk : k = i * 3 + 2) : (tC xs)[k]? = some (.int .i16 (tf xs i)) := by
  subst hk; rw [tC_get hi (by omega)]; exact t1_2 _ _ _
theorem tC_tally {i k : Nat} (hi : i < xs.length) (hk : k = i * 3) : (tC xs).extract k (k + 3) = t1 (tn xs i) (tc xs i) (tf xs i) := by
  subst hk
  have hs := tC_size xs
  apply Array.ext_getElem?
  intro j
  rw [Array.getElem?_extract]
  by_cases c : j < 3
  · rw [if_pos (by omega), tC_get hi c]
  · rw [if_neg (by omega), Array.getElem?_eq_none (by rw [t1_size]; omega)]
end
theorem tC_one (xs : Ts) : (tC xs).all (·.oneCell') = true := by
  unfold tC
  rw [List.all_toArray, List.all_eq_true]
  intro v hv
  obtain ⟨s, -, hs⟩ := List.mem_flatMap.1 hv
  simp only [tll, List.mem_cons, List.mem_nil_iff, or_false] at hs
  rcases hs with rfl | rfl | rfl <;> rfl
/-- no tally at all, n times -/
def tZ (n : Nat) : Ts := List.replicate n (0, 0, 0)
/-- what a copy of n tallies has after k -/
def cpTl (n : Nat) (xs : Ts) (k : Nat) : Ts := xs.take k ++ List.replicate (n - k) (0, 0, 0)
theorem cpTl_len {n : Nat} {xs : Ts} (h : xs.length = n) {k : Nat} (hk : k ≤ n) : (cpTl n xs k).length = n := by simp [cpTl, h]; omega
theorem cpTl_zero (n : Nat) (xs : Ts) : cpTl n xs 0 = tZ n := by simp [cpTl, tZ]
theorem cpTl_all {n : Nat} {xs : Ts} (h : xs.length = n) : cpTl n xs n = xs := by simp [cpTl, ← h]
theorem cpTl_splice {n : Nat} {xs : Ts} (h : xs.length = n) {k off : Nat} (hk : k < n) (ho : off = k * 3) : splice (tC (cpTl n xs k)) off (t1 (tn xs k) (tc xs k) (tf xs k)) = tC (cpTl n xs (k + 1)) := by
  subst ho
  have e := getD_at (xs := xs) (i := k) (by omega)
  have hT : (List.flatMap tll (xs.take k)).length = k * 3 := by rw [tL_len, List.length_take]; congr 1; omega
  apply Array.ext'
  unfold splice
  simp only [tC, t1_size]
  rw [t1_list]
  unfold cpTl
  rw [show n - k = (n - (k + 1)) + 1 from by omega, List.replicate_succ, List.flatMap_append, List.flatMap_append, List.flatMap_cons, List.take_succ_eq_append_getElem (by omega), List.flatMap_append]
  have h0 : (tll (0, 0, 0)).length = 3 := rfl
  rw [List.take_append_of_le_length (by omega), List.take_of_length_le (by omega), List.drop_append, List.drop_eq_nil_of_le (by omega), List.nil_append, hT, show k * 3 + 3 - k * 3 = 3 from by omega,
    List.drop_append, List.drop_eq_nil_of_le (by omega), List.nil_append, h0, Nat.sub_self, List.drop_zero]
  simp only [tn, tc, tf, e, List.flatMap_cons, List.flatMap_nil, List.append_nil]
/-- the tallies of a longer list -/
theorem tC_snoc (xs : Ts) (t c f : Int) : tC (xs ++ [(t, c, f)]) = tC xs ++ t1 t c f := by
  apply Array.ext'
  simp [tC, t1, tll]
end Go.Proofs.Ytcfoghckdloknaa
