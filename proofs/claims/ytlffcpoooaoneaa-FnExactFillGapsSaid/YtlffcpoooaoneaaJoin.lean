/-
  TWO LISTS OF TALLIES JOINED.
  No Go text in it. Conditions: those of each theorem.
-/
import Derived.Test.YtlffcpoooaoneaaTlOk
namespace Go.Proofs.Ytlffcpoooaoneaa
open Go Go.RowKit

abbrev T3 := Int × Int × Int
def tr3 (xs : Ts) (k : Nat) : T3 := (tn xs k, tc xs k, tf xs k)
theorem tr3_get {xs : Ts} {k : Nat} (h : k < xs.length) : xs[k] = tr3 xs k := by
  unfold tr3 tn tc tf
  rw [getD_at h]
/-- the busier of two tallies -/
def bst (x y : T3) : T3 := if x.2.1 < y.2.1 ∨ (x.2.1 = y.2.1 ∧ x.2.2 < y.2.2) then y else x
def join : Ts → Ts → Ts
  | [], ys => ys
  | x :: xs, [] => x :: xs
  | x :: xs, y :: ys => if x.1 < y.1 then x :: join xs (y :: ys) else if y.1 < x.1 then y :: join (x :: xs) ys else bst x y :: join xs ys
termination_by xs ys => xs.length + ys.length
theorem join_nil (ys : Ts) : join [] ys = ys := by rw [join]
theorem join_nil2 (xs : Ts) : join xs [] = xs := by cases xs <;> rw [join]
theorem join_cons (x y : T3) (xs ys : Ts) : join (x :: xs) (y :: ys) = if x.1 < y.1 then x :: join xs (y :: ys) else if y.1 < x.1 then y :: join (x :: xs) ys else bst x y :: join xs ys := by rw [join]
theorem bst_or (x y : T3) : bst x y = x ∨ bst x y = y := by
  unfold bst; split
  · exact .inr rfl
  · exact .inl rfl
theorem join_len (xs ys : Ts) : (join xs ys).length ≤ xs.length + ys.length := by
  fun_induction join xs ys with
  | case1 => simp
  | case2 => simp
  | case3 x xs y ys h ih => simp only [List.length_cons] at ih ⊢; omega
  | case4 x xs y ys h h2 ih => simp only [List.length_cons] at ih ⊢; omega
  | case5 x xs y ys h h2 ih => simp only [List.length_cons] at ih ⊢; omega
theorem join_mem (xs ys : Ts) : ∀ z ∈ join xs ys, z ∈ xs ∨ z ∈ ys := by
  fun_induction join xs ys with
  | case1 => intro z h; exact .inr h
  | case2 => intro z h; exact .inl h
  | case3 x xs y ys h ih =>
    intro z hz
    rcases List.mem_cons.1 hz with rfl | hz
    · exact .inl (by simp)
    · rcases ih z hz with q | q
      · exact .inl (by simp [q])
      · exact .inr q
  | case4 x xs y ys h h2 ih =>
    intro z hz
    rcases List.mem_cons.1 hz with rfl | hz
    · exact .inr (by simp)
    · rcases ih z hz with q | q
      · exact .inl q
      · exact .inr (by simp [q])
  | case5 x xs y ys h h2 ih =>
    intro z hz
    rcases List.mem_cons.1 hz with rfl | hz
    · rcases bst_or x y with e | e
      · exact .inl (by simp [e])
      · exact .inr (by simp [e])
    · rcases ih z hz with q | q
      · exact .inl (by simp [q])
      · exact .inr (by simp [q])
section
variable {xs ys : Ts} {i k : Nat}
theorem drop_tr (h : i < xs.length) : xs.drop i = tr3 xs i :: xs.drop (i + 1) := by rw [List.drop_eq_getElem_cons h, tr3_get h]
theorem jA (hi : i < xs.length) (hk : ys.length ≤ k) : join (xs.drop i) (ys.drop k) = tr3 xs i :: join (xs.drop (i + 1)) (ys.drop k) := by
  rw [List.drop_eq_nil_of_le hk, join_nil2, join_nil2, drop_tr hi]
theorem jB (hi : xs.length ≤ i) (hk : k < ys.length) : join (xs.drop i) (ys.drop k) = tr3 ys k :: join (xs.drop i) (ys.drop (k + 1)) := by
  rw [List.drop_eq_nil_of_le hi, join_nil, join_nil, drop_tr hk]
theorem jLt (hi : i < xs.length) (hk : k < ys.length) (h : tn xs i < tn ys k) : join (xs.drop i) (ys.drop k) = tr3 xs i :: join (xs.drop (i + 1)) (ys.drop k) := by
  rw [drop_tr hi, drop_tr hk, join_cons, if_pos (show (tr3 xs i).1 < (tr3 ys k).1 from h)]
theorem jGt (hi : i < xs.length) (hk : k < ys.length) (h : tn ys k < tn xs i) : join (xs.drop i) (ys.drop k) = tr3 ys k :: join (xs.drop i) (ys.drop (k + 1)) := by
  rw [drop_tr hi, drop_tr hk, join_cons, if_neg (show ¬ (tr3 xs i).1 < (tr3 ys k).1 from by show ¬ tn xs i < tn ys k; omega), if_pos (show (tr3 ys k).1 < (tr3 xs i).1 from h)]
theorem jEq (hi : i < xs.length) (hk : k < ys.length) (h : ¬ tn xs i < tn ys k) (h2 : ¬ tn ys k < tn xs i) : join (xs.drop i) (ys.drop k) = bst (tr3 xs i) (tr3 ys k) :: join (xs.drop (i + 1)) (ys.drop (k + 1)) := by
  rw [drop_tr hi, drop_tr hk, join_cons, if_neg (show ¬ (tr3 xs i).1 < (tr3 ys k).1 from h), if_neg (show ¬ (tr3 ys k).1 < (tr3 xs i).1 from h2)]
theorem jEnd (hi : xs.length ≤ i) (hk : ys.length ≤ k) : join (xs.drop i) (ys.drop k) = [] := by rw [List.drop_eq_nil_of_le hi, List.drop_eq_nil_of_le hk, join_nil]
theorem bst_yes {x y : T3} (h : x.2.1 < y.2.1 ∨ (x.2.1 = y.2.1 ∧ x.2.2 < y.2.2)) : bst x y = y := if_pos h
theorem bst_no {x y : T3} (h : ¬ (x.2.1 < y.2.1 ∨ (x.2.1 = y.2.1 ∧ x.2.2 < y.2.2))) : bst x y = x := if_neg h
end
def vJoin (xs ys : Ts) : Ts × Int := if okT xs && okT ys then (if (join xs ys).length ≤ 96 then (join xs ys, 0) else ([], 3)) else ([], 1)
section
variable {xs ys : Ts}
theorem vJoin_1a (h : okT xs = false) : vJoin xs ys = ([], 1) := by unfold vJoin; rw [h]; rfl
theorem vJoin_1b (h : okT ys = false) : vJoin xs ys = ([], 1) := by unfold vJoin; rw [h, Bool.and_false]; rfl
theorem vJoin_0 (h : okT xs = true) (h' : okT ys = true) (h2 : (join xs ys).length ≤ 96) : vJoin xs ys = (join xs ys, 0) := by unfold vJoin; rw [h, h']; exact if_pos h2
theorem vJoin_3 (h : okT xs = true) (h' : okT ys = true) (h2 : ¬ (join xs ys).length ≤ 96) : vJoin xs ys = ([], 3) := by unfold vJoin; rw [h, h']; exact if_neg h2
theorem vJoin_w (hW : TW xs) (hW2 : TW ys) : TW (vJoin xs ys).1 ∧ (vJoin xs ys).1.length ≤ 96 := by
  unfold vJoin
  have hn : TW [] := by simp [TW]
  split
  · split
    · rename_i h
      refine ⟨fun z hz => ?_, h⟩
      rcases join_mem xs ys z hz with q | q
      · exact hW z q
      · exact hW2 z q
    · exact ⟨hn, Nat.zero_le _⟩
  · exact ⟨hn, Nat.zero_le _⟩
end
end Go.Proofs.Ytlffcpoooaoneaa
