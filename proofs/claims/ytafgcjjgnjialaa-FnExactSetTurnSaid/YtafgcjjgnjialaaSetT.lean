/-
  A TURN THAT IS SET: the values; two rows of turns that agree are valid together.
  No Go text in it. Conditions: those of each theorem.
-/
import Derived.Test.YtafgcjjgnjialaaSetPrior
namespace Go.Proofs.Ytafgcjjgnjialaa
open Go Go.RowKit
set_option maxRecDepth 100000

theorem product_num {d e f : Ieee.Datum} (h : d.product e = some f) : ∀ s t, f ≠ .nan s t := by
  intro s t hf
  subst hf
  cases d <;> cases e <;> simp [Ieee.Datum.product] at h
theorem mul_num {x y r : Nat} (h : floatBits .mul .f32 x y = some r) : r < 4294967296 ∧ nanB r = false := by
  have h' : S32.mul x y = some r := h
  unfold Ieee.Format.mul at h'
  cases hs : (S32.read x).product (S32.read y) with
  | none => rw [hs] at h'; cases h'
  | some f =>
    rw [hs] at h'
    obtain rfl := Option.some.inj h'
    exact write_num (product_num hs)

/-- z is the product of x and y (a NaN where there is none) -/
def MulR (x y z : Nat) : Prop := z < 4294967296 ∧ (floatBits .mul .f32 x y = some z ∨ floatBits .mul .f32 x y = none ∧ nanB z = true)
theorem run_mul_any {P : Program} (t : TypeId) (x y : Nat) (w : World) :
    ∃ z n, (binOp .mul t (.float .f32 x) (.float .f32 y)).run P w = .ok (.float .f32 z) (w.drewN n) ∧ MulR x y z := by
  cases h : floatBits .mul .f32 x y with
  | some z => exact ⟨z, 0, run_float_arith w .mul t .f32 _ _ _ h, (mul_num h).1, .inl h⟩
  | none => exact ⟨_, 1, run_arith_nan w .mul (.inr (.inr (.inl rfl))) t .f32 x y h, (tapeNan32 w x y).1, .inr ⟨h, (tapeNan32 w x y).2⟩⟩
/-- the product, one NaN standing for all -/
def mulT (x y : Nat) : Nat := (floatBits .mul .f32 x y).getD 2143289344
theorem MulR.agr {x y z : Nat} (h : MulR x y z) : Agr z (mulT x y) := by
  unfold mulT
  rcases h.2 with k | ⟨k0, k⟩
  · rw [k, Option.getD_some]; exact ⟨h.1, h.1, .inr ⟨(mul_num k).2, rfl⟩⟩
  · rw [k0, Option.getD_none]; exact ⟨h.1, by decide, .inl ⟨k, by decide⟩⟩
theorem Agr.refl {x : Nat} (h : x < 4294967296) : Agr x x := ⟨h, h, by cases h : nanB x; exact .inr ⟨rfl, rfl⟩; exact .inl ⟨rfl, rfl⟩⟩

theorem addB_zero {x : Nat} (hx : x < 2139095040) : addB x 0 = x := by
  rw [(add_eq hx (show 0 < 2139095040 by omega)).2, show rv 23 0 = 0 from by decide, Nat.add_zero, RU_rv0]
  omega
theorem zero_addB' {x : Nat} (hx : x < 2139095040) : addB 0 x = x := by
  rw [(add_eq (show 0 < 2139095040 by omega) hx).2, show rv 23 0 = 0 from by decide, Nat.zero_add, RU_rv0]
  omega

/-- the sum of the first m numbers, from 0 on -/
def sumZ (xs : List Nat) : Nat → Nat
  | 0 => 0
  | m + 1 => addB (sumZ xs m) (nth xs m)
def cap (m : Nat) : Nat := [0, 1065353216, 1073741824, 1077936128, 1082130432].getD m 0
theorem cap_rv : ∀ m : Fin 5, rv 23 (cap m.val) = m.val * rv 23 1065353216 := by decide
theorem cap_lt (m : Nat) : cap m < 2139095040 := by
  rcases (by omega : m = 0 ∨ m = 1 ∨ m = 2 ∨ m = 3 ∨ m = 4 ∨ 5 ≤ m) with rfl | rfl | rfl | rfl | rfl | h
  · decide
  · decide
  · decide
  · decide
  · decide
  · unfold cap; rw [List.getD, List.getElem?_eq_none (by simpa using h)]; decide
theorem sumZ_le {xs : List Nat} (h : ∀ k, nth xs k ≤ 1065353216) : ∀ m, m ≤ 4 → sumZ xs m ≤ cap m
  | 0, _ => by unfold sumZ; omega
  | m + 1, hm => by
    have ih := sumZ_le h m (by omega)
    have c1 := cap_lt m
    refine add_le (by omega) (by have := h m; omega) ?_
    have e := cap_rv ⟨m + 1, by omega⟩
    have e0 := cap_rv ⟨m, by omega⟩
    have k1 : rv 23 (sumZ xs m) ≤ rv 23 (cap m) := rv_le ih
    have k2 : rv 23 (nth xs m) ≤ rv 23 1065353216 := rv_le (h m)
    simp only at e e0
    generalize rv 23 (sumZ xs m) = a at *
    generalize rv 23 (nth xs m) = b at *
    generalize rv 23 1065353216 = c at *
    rw [e]
    rw [e0] at k1
    rw [Nat.add_mul, Nat.one_mul]
    omega
theorem sumZ_fin {xs : List Nat} (h : ∀ k, nth xs k ≤ 1065353216) (m : Nat) (hm : m ≤ 4) : sumZ xs m < 2139095040 := Nat.lt_of_le_of_lt (sumZ_le h m hm) (cap_lt m)
theorem sumZ_run {xs : List Nat} (h : ∀ k, nth xs k ≤ 1065353216) (m : Nat) (hm : m < 4) : floatBits .add .f32 (sumZ xs m) (nth xs m) = some (sumZ xs (m + 1)) :=
  (add_eq (sumZ_fin h m (by omega)) (by have := h m; omega)).1
theorem sumZ_four {xs : List Nat} (h : ∀ k, nth xs k ≤ 1065353216) : sumL xs = sumZ xs 4 := by
  unfold sumL
  show _ = addB (addB (addB (addB 0 (nth xs 0)) (nth xs 1)) (nth xs 2)) (nth xs 3)
  rw [zero_addB' (by have := h 0; omega)]
theorem sumZ_rest {xs : List Nat} (h : ∀ k, nth xs k ≤ 1065353216) {o : Nat} (hz : ∀ k, o ≤ k → k < 4 → nth xs k = 0) : ∀ d, o + d ≤ 4 → sumZ xs (o + d) = sumZ xs o
  | 0, _ => rfl
  | d + 1, hd => by
    show addB (sumZ xs (o + d)) (nth xs (o + d)) = _
    rw [hz _ (by omega) (by omega), addB_zero (sumZ_fin h _ (by omega)), sumZ_rest h hz d (by omega)]
theorem sumZ_skip {xs : List Nat} (h : ∀ k, nth xs k ≤ 1065353216) {m : Nat} (hm : m < 4) (hz : nth xs m = 0) : sumZ xs (m + 1) = sumZ xs m := by
  show addB (sumZ xs m) (nth xs m) = _
  rw [hz, addB_zero (sumZ_fin h _ (by omega))]

theorem nth_put {vs : List Nat} {k x : Nat} (hk : k < vs.length) (j : Nat) : nth (vs.set k x) j = if j = k then x else nth vs j := by
  unfold nth
  rw [List.getD_eq_getElem?_getD, List.getElem?_set]
  by_cases h : j = k
  · subst h; rw [if_pos rfl, if_pos rfl, if_pos hk]; rfl
  · rw [if_neg (fun e => h e.symm), if_neg h, List.getD_eq_getElem?_getD]

/-- the row without the turn n -/
def lessT (xs : List Nat) (n : Nat) : List Nat := xs.set n 0
def othT (xs : List Nat) (n : Nat) : Nat := sumZ (lessT xs n) 4
def foB (o : Nat) : Nat := [0, 0, 1065353216, 1073741824, 1077936128].getD o 0
/-- the turn c behind the setting of the turn n to x -/
def tgC (o n x : Nat) (xs : List Nat) (c : Nat) : Nat :=
  if c = n then x else if othT xs n = 0 then divB (subB 1065353216 x) (foB o) else mulT (nth xs c) (divB (subB 1065353216 x) (othT xs n))
/-- the turns behind it -/
def tgT (o k n x : Nat) (ts : List Nat) : List Nat := (List.range 16).map fun p => if p / 4 = k ∧ p % 4 < o then tgC o n x (row4 ts k) (p % 4) else nth ts p
theorem tgT_len (o k n x : Nat) (ts : List Nat) : (tgT o k n x ts).length = 16 := by simp [tgT]
theorem tgT_nth (o k n x : Nat) (ts : List Nat) {p : Nat} (hp : p < 16) : nth (tgT o k n x ts) p = if p / 4 = k ∧ p % 4 < o then tgC o n x (row4 ts k) (p % 4) else nth ts p := by
  unfold nth tgT
  rw [List.getD_eq_getElem?_getD, List.getElem?_map, List.getElem?_range hp]
  rfl

/-- two rows that agree at each place -/
def AgrL (us bs : List Nat) : Prop := us.length = 16 ∧ bs.length = 16 ∧ ∀ p, p < 16 → Agr (nth us p) (nth bs p)
theorem AgrL.symm {us bs : List Nat} (h : AgrL us bs) : AgrL bs us := ⟨h.2.1, h.1, fun p hp => by
  obtain ⟨h1, h2, h3⟩ := h.2.2 p hp
  exact ⟨h2, h1, h3.imp (fun h => ⟨h.2, h.1⟩) fun ⟨k1, k2⟩ => ⟨by rw [k2]; exact k1, k2.symm⟩⟩⟩
theorem AgrL.lt {us bs : List Nat} (h : AgrL us bs) : ∀ x ∈ us, x < 4294967296 := by
  intro x hx
  obtain ⟨q, hq, rfl⟩ := List.mem_iff_getElem.1 hx
  have := (h.2.2 q (by have := h.1; omega)).1
  unfold nth at this
  rwa [List.getD_eq_getElem?_getD, List.getElem?_eq_getElem hq, Option.getD_some] at this
theorem AgrL.eq {i o : Int} {us bs ps : List Nat} (h : AgrL us bs) (hk : okJ i o us ps = true) : us = bs := by
  have hs := okJ_turns h.1 hk
  apply List.ext_getElem
  · rw [h.1, h.2.1]
  · intro p h1 h2
    have ha := h.2.2 p (by have := h.1; omega)
    have hle := hs _ (List.getElem_mem h1)
    unfold nth at ha
    rw [List.getD_eq_getElem?_getD, List.getElem?_eq_getElem h1, Option.getD_some, List.getD_eq_getElem?_getD, List.getElem?_eq_getElem h2, Option.getD_some] at ha
    rcases ha.2.2 with ⟨n1, -⟩ | ⟨-, n2⟩
    · rw [(nan_le hle (by omega)).2] at n1; cases n1
    · exact n2.symm
theorem AgrL.ok {i o : Int} {us bs ps : List Nat} (h : AgrL us bs) : okJ i o us ps = okJ i o bs ps := by
  cases c : okJ i o us ps
  · cases c' : okJ i o bs ps
    · rfl
    · have := AgrL.eq h.symm c'; subst this; rw [c'] at c; cases c
  · have := AgrL.eq h c; subst this; rw [c]

def shareTurn (o : Int) (x : Nat) : Bool := shrB x && (decide (1 < o) || decide (x = 1065353216))
def vSetTurn (i o : Int) (ts ps : List Nat) (k n : Int) (x : Nat) : Int × Int × List Nat × List Nat × Int :=
  if okJ i o ts ps then (if decide (0 ≤ k ∧ k < i) && decide (0 ≤ n ∧ n < o) && shareTurn o x then (if okJ i o (tgT o.toNat k.toNat n.toNat x ts) ps then (i, o, tgT o.toNat k.toNat n.toNat x ts, ps, 0) else (0, 0, zeros 16, zeros 4, 4)) else (0, 0, zeros 16, zeros 4, 2)) else (0, 0, zeros 16, zeros 4, 1)
theorem vSetTurn_good {i o : Int} {ts ps : List Nat} (hlp : ps.length = 4) (k n : Int) (x : Nat) :
    (vSetTurn i o ts ps k n x).2.2.1.length = 16 ∧ (vSetTurn i o ts ps k n x).2.2.2.1.length = 4 ∧ (∀ y ∈ (vSetTurn i o ts ps k n x).2.2.1, y < 4294967296 ∧ nanB y = false) ∧ ∀ y ∈ (vSetTurn i o ts ps k n x).2.2.2.1, y < 4294967296 ∧ nanB y = false := by
  unfold vSetTurn
  split
  · split
    · split
      · rename_i h
        exact ⟨tgT_len _ _ _ _ _, hlp, fun y hy => nan_le (okJ_turns (tgT_len _ _ _ _ _) h y hy) (by omega), fun y hy => nan_le (Nat.le_of_lt (okJ_priors hlp h y hy)) (by omega)⟩
      · exact ⟨zeros_len _, zeros_len _, zeros_good _, zeros_good _⟩
    · exact ⟨zeros_len _, zeros_len _, zeros_good _, zeros_good _⟩
  · exact ⟨zeros_len _, zeros_len _, zeros_good _, zeros_good _⟩

/-- a row put into the turns -/
def putRow (ts : List Nat) (k : Nat) (r : List Nat) : List Nat := ts.take (4 * k) ++ r ++ ts.drop (4 * k + 4)
theorem putRow_len {ts r : List Nat} (hl : ts.length = 16) (hr : r.length = 4) {k : Nat} (hk : k < 4) : (putRow ts k r).length = 16 := by
  simp [putRow, hl, hr]; omega
theorem putRow_nth {ts r : List Nat} (hl : ts.length = 16) (hr : r.length = 4) {k : Nat} (hk : k < 4) {p : Nat} : nth (putRow ts k r) p = if p / 4 = k then nth r (p % 4) else nth ts p := by
  have e1 : (ts.take (4 * k)).length = 4 * k := by simp [hl]; omega
  unfold nth putRow
  simp only [List.getD_eq_getElem?_getD]
  by_cases h : p / 4 = k
  · rw [if_pos h, List.append_assoc, List.getElem?_append_right (by omega), e1, List.getElem?_append_left (by omega), show p - 4 * k = p % 4 from by omega]
  · rw [if_neg h]
    by_cases h2 : p < 4 * k
    · rw [List.append_assoc, List.getElem?_append_left (by omega), List.getElem?_take_of_lt h2]
    · rw [List.append_assoc, List.getElem?_append_right (by omega), e1, List.getElem?_append_right (by omega), List.getElem?_drop, hr, show 4 * k + 4 + (p - 4 * k - 4) = p from by omega]
theorem jn_spliceRow {ts r : List Nat} (hl : ts.length = 16) (hr : r.length = 4) (i o : Int) (ps : List Nat) {k off : Nat} (hk : k < 4) (ho : off = 4 * k + 2) : splice (jn i o ts ps) off (fl r) = jn i o (putRow ts k r) ps := by
  subst ho
  apply Array.ext'
  unfold splice
  rw [jn_list, jn_list]
  have e1 : (ts ++ ps).take (4 * k) = ts.take (4 * k) := List.take_append_of_le_length (by omega)
  have e2 : (ts ++ ps).drop (4 * k + 4) = ts.drop (4 * k + 4) ++ ps := List.drop_append_of_le_length (by omega)
  simp only [fl, putRow, List.take_succ_cons, List.map_append, List.size_toArray, List.length_map, hr]
  rw [← List.map_append, ← List.map_take, e1, show 4 * k + 2 + 4 = 4 * k + 4 + 2 from by omega]
  simp only [List.drop_succ_cons]
  rw [← List.map_drop, e2]
  simp
end Go.Proofs.Ytafgcjjgnjialaa
