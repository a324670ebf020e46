/-
  ROWS OF ELEMENTS OF ONE SIZE, one behind the other.
  No Go text in it. Conditions: those of each theorem.
-/
import Derived.Test.YtlpbehokcogcpaaAt
import Derived.Laws.MakeOwn
import Derived.OwnWalk
namespace Go.Proofs.Ytlpbehokcogcpaa
open Go Go.RowKit
set_option maxRecDepth 100000


section

variable {α : Type} (f : α → Array Value) (s : Nat) (d : α)

/-- elements one behind the other -/
def fm (xs : List α) : Array Value := (xs.flatMap fun x => (f x).toList).toArray


/-- the element at a place -/
def fe (xs : List α) (i : Nat) : α := xs.getD i d


variable {f s d}

theorem fe_mem {xs : List α} {i : Nat} (h : i < xs.length) : fe d xs i ∈ xs := by
  unfold fe
  rw [List.getD_eq_getElem?_getD, List.getElem?_eq_getElem h]
  exact List.getElem_mem h


theorem fmL_len (h : ∀ x, (f x).size = s) : ∀ xs : List α, (xs.flatMap fun x => (f x).toList).length = xs.length * s
  | [] => by simp
  | x :: xs => by
    rw [List.flatMap_cons, List.length_append, fmL_len h xs, List.length_cons, Array.length_toList, h, Nat.add_mul]
    omega


theorem fm_size (h : ∀ x, (f x).size = s) (xs : List α) : (fm f xs).size = xs.length * s := by unfold fm; rw [List.size_toArray, fmL_len h]


theorem fmL_get (h : ∀ x, (f x).size = s) : ∀ (xs : List α) {i j : Nat} (_ : i < xs.length) (_ : j < s), (xs.flatMap fun x => (f x).toList)[i * s + j]? = (f (fe d xs i))[j]?
  | [], i, j, hi, _ => by simp at hi
  | x :: xs, 0, j, _, hj => by
    rw [List.flatMap_cons, List.getElem?_append_left (by rw [Array.length_toList, h]; omega), Nat.zero_mul, Nat.zero_add, Array.getElem?_toList]
    rfl
  | x :: xs, i + 1, j, hi, hj => by
    have e : (i + 1) * s + j = s + (i * s + j) := by rw [Nat.add_mul]; omega
    rw [e, List.flatMap_cons, List.getElem?_append_right (by rw [Array.length_toList, h]; omega), Array.length_toList, h, Nat.add_sub_cancel_left]
    exact fmL_get h xs (by simpa using hi) hj


theorem fm_get (h : ∀ x, (f x).size = s) {xs : List α} {i j : Nat} (hi : i < xs.length) (hj : j < s) : (fm f xs)[i * s + j]? = (f (fe d xs i))[j]? := by
  unfold fm
  rw [List.getElem?_toArray]
  exact fmL_get h xs hi hj


theorem fm_at (h : ∀ x, (f x).size = s) {xs : List α} {i k : Nat} (hi : i < xs.length) (hk : k = i * s) : (fm f xs).extract k (k + s) = f (fe d xs i) := by
  subst hk
  have hs := fm_size h xs
  have hle : i * s + s ≤ xs.length * s := by
    have := Nat.mul_le_mul_right s (show i + 1 ≤ xs.length by omega)
    rw [Nat.add_mul] at this
    omega
  apply Array.ext_getElem?
  intro j
  rw [Array.getElem?_extract]
  by_cases c : j < s
  · rw [if_pos (by omega), fm_get h hi c]
  · rw [if_neg (by omega), Array.getElem?_eq_none (by rw [h]; omega)]


theorem fmL_take (h : ∀ x, (f x).size = s) : ∀ (xs : List α) (i : Nat), (xs.flatMap fun x => (f x).toList).take (i * s) = (xs.take i).flatMap fun x => (f x).toList
  | [], i => by simp
  | x :: xs, 0 => by simp
  | x :: xs, i + 1 => by
    have e : (i + 1) * s = s + i * s := by rw [Nat.add_mul]; omega
    rw [List.take_succ_cons, List.flatMap_cons, List.flatMap_cons, ← fmL_take h xs i, e, List.take_append, Array.length_toList, h, Nat.add_sub_cancel_left, List.take_of_length_le (by rw [Array.length_toList, h]; omega)]


theorem fmL_drop (h : ∀ x, (f x).size = s) : ∀ (xs : List α) (i : Nat), (xs.flatMap fun x => (f x).toList).drop (i * s) = (xs.drop i).flatMap fun x => (f x).toList
  | [], i => by simp
  | x :: xs, 0 => by simp
  | x :: xs, i + 1 => by
    have e : (i + 1) * s = s + i * s := by rw [Nat.add_mul]; omega
    rw [List.drop_succ_cons, List.flatMap_cons, ← fmL_drop h xs i, e, List.drop_append, Array.length_toList, h, Nat.add_sub_cancel_left, List.drop_eq_nil_of_le (by rw [Array.length_toList, h]; omega), List.nil_append]


theorem fm_set (h : ∀ x, (f x).size = s) {xs : List α} {i off : Nat} (hi : i < xs.length) (ho : off = i * s) (x : α) : splice (fm f xs) off (f x) = fm f (xs.set i x) := by
  subst ho
  apply Array.ext'
  unfold splice fm
  show (xs.flatMap fun x => (f x).toList).take (i * s) ++ (f x).toList ++ (xs.flatMap fun x => (f x).toList).drop (i * s + (f x).size) = (xs.set i x).flatMap fun x => (f x).toList
  rw [fmL_take h, h, show i * s + s = (i + 1) * s from by rw [Nat.add_mul]; omega, fmL_drop h, List.set_eq_take_append_cons_drop, if_pos hi, List.flatMap_append, List.flatMap_cons, List.append_assoc]


theorem fm_one (h : ∀ x, (f x).all (·.oneCell') = true) (xs : List α) : (fm f xs).all (·.oneCell') = true := by
  unfold fm
  rw [List.all_toArray, List.all_eq_true]
  intro u hu
  obtain ⟨p, hp, hu⟩ := List.mem_flatMap.1 hu
  have := h p
  rw [← Array.all_toList, List.all_eq_true] at this
  exact this u hu


/-- the first k are ys', the rest is as it was -/
def cpF (n : Nat) (z : α) (ys : List α) (k : Nat) : List α := ys.take k ++ List.replicate (n - k) z

theorem cpF_len {n : Nat} {z : α} {ys : List α} (h : ys.length = n) (k : Nat) (hk : k ≤ n) : (cpF n z ys k).length = n := by simp [cpF, h]; omega

theorem cpF_zero (n : Nat) (z : α) (ys : List α) : cpF n z ys 0 = List.replicate n z := by simp [cpF]

theorem cpF_set {n : Nat} {z : α} {ys : List α} (h : ys.length = n) {k : Nat} (hk : k < n) : (cpF n z ys k).set k (fe d ys k) = cpF n z ys (k + 1) := by
  unfold cpF fe
  rw [List.set_append_right _ _ (by simp; omega), List.take_succ_eq_append_getElem (by omega), List.getD_eq_getElem?_getD, List.getElem?_eq_getElem (by omega)]
  rw [show k - (List.take k ys).length = 0 from by simp; omega, show n - k = (n - (k + 1)) + 1 from by omega, List.replicate_succ, List.append_assoc]
  rfl

theorem cpF_all {n : Nat} {z : α} {ys : List α} (h : ys.length = n) : cpF n z ys n = ys := by simp [cpF, ← h]


theorem made_fm (h : ∀ x, (f x).size = s) (z : α) (n : Nat) : madeCells (f z) (n * s) = fm f (List.replicate n z) := by
  have hs := fm_size h (List.replicate n z)
  rw [List.length_replicate] at hs
  apply Array.ext_getElem?
  intro i
  by_cases c : i < n * s
  · have hs0 : 0 < s := by
      rcases Nat.eq_zero_or_pos s with e | e
      · subst e; simp at c
      · exact e
    have hd : i / s < n := (Nat.div_lt_iff_lt_mul hs0).2 c
    have hm := Nat.mod_lt i hs0
    have hi : i = i / s * s + i % s := by have := Nat.div_add_mod i s; rw [Nat.mul_comm] at this; exact this.symm
    have g := fm_get (d := z) h (xs := List.replicate n z) (i := i / s) (j := i % s) (by rw [List.length_replicate]; exact hd) hm
    rw [← hi] at g
    rw [g]
    have e1 : fe z (List.replicate n z) (i / s) = z := by
      unfold fe
      rw [List.getD_eq_getElem?_getD, List.getElem?_replicate, if_pos hd]
      rfl
    rw [e1]
    unfold madeCells
    have hsz : (f z).size = s := h z
    simp [c, hsz]
    have hlt : i % s < (f z).size := by rw [hsz]; exact hm
    rw [Array.getElem?_eq_getElem hlt]
    simp [hlt]
  · rw [Array.getElem?_eq_none (by unfold madeCells; simp; omega), Array.getElem?_eq_none (by omega)]

end

end Go.Proofs.Ytlpbehokcogcpaa
