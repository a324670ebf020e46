/-
  CONTRACTS: shared green: the numbers.
-/
import Derived.Test.YtlpbehokcogcpaaPhs
import Derived.Test.YtlpbehokcogcpaaFint
namespace Go.Proofs.Ytlpbehokcogcpaa
open Go Go.ChangeShapes Go.WideShapes Go.ChangeAt Go.RowKit Go.Deep
set_option maxRecDepth 100000

theorem run_max_amt {P : Program} (w : World) (ts : Array TypeId) (t : TypeId) {x y : Nat} (hx : x ≤ 2139095040) (hy : y ≤ 2139095040) :
    (Builtin.max_ ts t #[.float .f32 x, .float .f32 y]).run P w = .ok (.float .f32 (max x y)) w := by
  have ho := order_amt hx hy
  rcases Nat.lt_trichotomy x y with h | h | h
  · rw [Nat.compare_eq_lt.2 h] at ho
    simp [Builtin.max_, Builtin.max2, ho, Nat.max_eq_right (Nat.le_of_lt h)]
  · subst h
    rw [Nat.compare_eq_eq.2 rfl] at ho
    simp [Builtin.max_, Builtin.max2, ho]
  · rw [Nat.compare_eq_gt.2 h] at ho
    simp [Builtin.max_, Builtin.max2, ho, Nat.max_eq_left (Nat.le_of_lt h)]

/-- the greatest demand of the first k movements of a phase -/
def wtK (ds : List Nat) (b : List Bool) : Nat → Nat
  | 0 => 0
  | k + 1 => if bn b k then max (wtK ds b k) (nth ds k) else wtK ds b k

theorem wtK_yes {ds : List Nat} {b : List Bool} {k : Nat} (h : bn b k = true) : wtK ds b (k + 1) = max (wtK ds b k) (nth ds k) := by
  show (if bn b k then _ else _) = _
  rw [h]; rfl

theorem wtK_no {ds : List Nat} {b : List Bool} {k : Nat} (h : bn b k = false) : wtK ds b (k + 1) = wtK ds b k := by
  show (if bn b k then _ else _) = _
  rw [h]; rfl

theorem wtK_lt {ds : List Nat} (hd : ∀ k, nth ds k < 2139095040) (b : List Bool) : ∀ k, wtK ds b k < 2139095040
  | 0 => by show 0 < _; omega
  | k + 1 => by
    have h1 := wtK_lt hd b k
    have h2 := hd k
    cases c : bn b k
    · rw [wtK_no c]; exact h1
    · rw [wtK_yes c]; omega

/-- the weight of a phase for each tick, if it has t -/
def qB (ds : List Nat) (b : List Bool) (t : Int) : Nat := divB (wtK ds b 8) (fN t.toNat)

theorem qB_fits {ds : List Nat} (hd : ∀ k, nth ds k < 2139095040) (b : List Bool) {m : Nat} (h : 1 ≤ m ∧ m ≤ 1048576) : floatBits .quo .f32 (wtK ds b 8) (fN m) = some (qB ds b (m : Int)) ∧ qB ds b (m : Int) ≤ 2139095040 := by
  have a := wtK_lt hd b 8
  have b1 := fN_le (n := m) h.2
  have c := fN_pos (n := m) (by omega)
  have := div_some (x := wtK ds b 8) (y := fN m) a (by omega) c
  unfold qB
  rw [Int.toNat_natCast]
  exact this

/-- the weight for each tick of slot i -/
def qt (ds : List Nat) (xs : Slots) (i : Nat) : Nat := qB ds (sb xs i) (st xs i)

/-- the first slot with the greatest weight for each tick, of the first k -/
def bst (ds : List Nat) (xs : Slots) : Nat → Nat
  | 0 => 0
  | k + 1 => if qt ds xs (bst ds xs k) < qt ds xs k then k else bst ds xs k

theorem bst_yes {ds : List Nat} {xs : Slots} {k : Nat} (h : qt ds xs (bst ds xs k) < qt ds xs k) : bst ds xs (k + 1) = k := by
  show (if _ then _ else _) = _
  rw [if_pos h]

theorem bst_no {ds : List Nat} {xs : Slots} {k : Nat} (h : ¬ qt ds xs (bst ds xs k) < qt ds xs k) : bst ds xs (k + 1) = bst ds xs k := by
  show (if _ then _ else _) = _
  rw [if_neg h]

theorem bst_lt {ds : List Nat} {xs : Slots} : ∀ k, 0 < k → bst ds xs k < k
  | 0, h => by omega
  | k + 1, _ => by
    by_cases c : qt ds xs (bst ds xs k) < qt ds xs k
    · rw [bst_yes c]; omega
    · rw [bst_no c]
      rcases Nat.eq_zero_or_pos k with e | e
      · subst e; show (0 : Nat) < 0 + 1; omega
      · have := bst_lt (ds := ds) (xs := xs) k e; omega

theorem bst_one (ds : List Nat) (xs : Slots) : bst ds xs 1 = 0 := by
  have := bst_lt (ds := ds) (xs := xs) 1 (by omega)
  omega

/-- one tick more at slot j -/
def inc (xs : Slots) (j : Nat) : Slots := xs.set j (sb xs j, st xs j + 1)

theorem inc_len (xs : Slots) (j : Nat) : (inc xs j).length = xs.length := by unfold inc; rw [List.length_set]

theorem inc_get {xs : Slots} {j : Nat} (hj : j < xs.length) (i : Nat) : (inc xs j).getD i ([], 0) = if j = i then (sb xs j, st xs j + 1) else xs.getD i ([], 0) := by
  unfold inc
  rw [List.getD_eq_getElem?_getD, List.getD_eq_getElem?_getD, List.getElem?_set]
  by_cases c : j = i
  · rw [if_pos c, if_pos c, if_pos hj]; rfl
  · rw [if_neg c, if_neg c]

theorem inc_sb {xs : Slots} {j : Nat} (hj : j < xs.length) (i : Nat) : sb (inc xs j) i = sb xs i := by
  unfold sb
  rw [inc_get hj]
  by_cases c : j = i
  · subst c; rw [if_pos rfl]; rfl
  · rw [if_neg c]

theorem inc_st {xs : Slots} {j : Nat} (hj : j < xs.length) (i : Nat) : st (inc xs j) i = if j = i then st xs j + 1 else st xs i := by
  unfold st
  rw [inc_get hj]
  by_cases c : j = i
  · rw [if_pos c, if_pos c]; rfl
  · rw [if_neg c, if_neg c]

theorem inc_w {xs : Slots} {j : Nat} (hW : SlW xs) (hj : j < xs.length) (hx : I64 (st xs j + 1)) : SlW (inc xs j) := by
  intro s hs
  obtain ⟨i, hi, rfl⟩ := List.mem_iff_getElem.1 hs
  rw [inc_len] at hi
  have e : (inc xs j)[i]'(by rw [inc_len]; exact hi) = (inc xs j).getD i ([], 0) := by rw [List.getD_eq_getElem?_getD, List.getElem?_eq_getElem (by rw [inc_len]; exact hi)]; rfl
  rw [e, inc_get hj]
  by_cases c : j = i
  · rw [if_pos c]; exact ⟨(hW.at hj).1, hx⟩
  · rw [if_neg c]; exact hW.at hi

theorem slC_inc {xs : Slots} {j : Nat} (hW : SlW xs) (hj : j < xs.length) (hx : I64 (st xs j + 1)) : (slC xs).setIfInBounds (j * 9 + 8) (.int .i64 (st xs j + 1)) = slC (inc xs j) := by
  have hs := slC_size hW
  have hW2 := inc_w hW hj hx
  have hs2 := slC_size hW2
  rw [inc_len] at hs2
  apply Array.ext_getElem?
  intro i
  rw [Array.getElem?_setIfInBounds]
  by_cases c : i < xs.length * 9
  · have hq : i / 9 < xs.length := by omega
    have hr : i % 9 < 9 := by omega
    have g1 := slC_get hW hq hr
    have g2 := slC_get hW2 (i := i / 9) (j := i % 9) (by rw [inc_len]; exact hq) hr
    rw [show i / 9 * 9 + i % 9 = i from by omega] at g1 g2
    rw [g2, inc_sb hj, inc_st hj]
    have hb := (hW.at hq).1
    by_cases e : j * 9 + 8 = i
    · have e1 : i / 9 = j := by omega
      have e2 : i % 9 = 8 := by omega
      rw [if_pos e, if_pos (by omega), e2, if_pos e1.symm, sl1_ticks hb]
    · rw [if_neg e, g1]
      by_cases e1 : j = i / 9
      · have e2 : i % 9 < 8 := by omega
        rw [sl1_green hb _ e2, sl1_green hb _ e2]
      · rw [if_neg e1]
  · rw [if_neg (by omega), Array.getElem?_eq_none (by omega), Array.getElem?_eq_none (by omega)]

/-- n ticks shared out, one after the other -/
def shr (ds : List Nat) (xs : Slots) : Nat → Slots
  | 0 => xs
  | n + 1 => inc (shr ds xs n) (bst ds (shr ds xs n) xs.length)

theorem shr_len (ds : List Nat) (xs : Slots) : ∀ n, (shr ds xs n).length = xs.length
  | 0 => rfl
  | n + 1 => by
    show (inc _ _).length = _
    rw [inc_len]; exact shr_len ds xs n

/-- slots of one tick for phases -/
def ones (ps : List P8) : Slots := ps.map fun p => (p.1, 1)

theorem ones_len (ps : List P8) : (ones ps).length = ps.length := by simp [ones]

theorem ones_at {ps : List P8} {i : Nat} (hi : i < ps.length) : sb (ones ps) i = (fe z8 ps i).1 ∧ st (ones ps) i = 1 := by
  have e : (ones ps).getD i ([], 0) = ((fe z8 ps i).1, 1) := by
    unfold ones fe
    rw [List.getD_eq_getElem?_getD, List.getD_eq_getElem?_getD, List.getElem?_map, List.getElem?_eq_getElem hi]
    rfl
  unfold sb st
  rw [e]
  exact ⟨rfl, rfl⟩

theorem ones_w (ps : List P8) : SlW (ones ps) := by
  intro s hs
  obtain ⟨p, -, rfl⟩ := List.mem_map.1 hs
  exact ⟨p.2, by unfold I64; simp⟩

theorem shr_facts (ds : List Nat) {ps : List P8} (h0 : ps.length ≠ 0) : ∀ n, n ≤ 1000 → SlW (shr ds (ones ps) n) ∧ ∀ i, i < ps.length → sb (shr ds (ones ps) n) i = (fe z8 ps i).1 ∧ 1 ≤ st (shr ds (ones ps) n) i ∧ st (shr ds (ones ps) n) i ≤ 1 + (n : Int)
  | 0, _ => ⟨ones_w ps, fun i hi => by
      have := ones_at hi
      show sb (ones ps) i = _ ∧ 1 ≤ st (ones ps) i ∧ st (ones ps) i ≤ _
      rw [this.2]
      exact ⟨this.1, by omega, by omega⟩⟩
  | n + 1, hn => by
    obtain ⟨hW, hf⟩ := shr_facts ds h0 n (by omega)
    have hl := shr_len ds (ones ps) n
    have hb := bst_lt (ds := ds) (xs := shr ds (ones ps) n) (ones ps).length (by rw [ones_len]; omega)
    have hj : bst ds (shr ds (ones ps) n) (ones ps).length < (shr ds (ones ps) n).length := by rw [hl]; exact hb
    rw [ones_len] at hb
    have hs := hf _ hb
    rw [← ones_len ps] at hs
    refine ⟨inc_w hW hj (by unfold I64; omega), fun i hi => ?_⟩
    have := hf i hi
    show sb (inc _ _) i = _ ∧ 1 ≤ st (inc _ _) i ∧ st (inc _ _) i ≤ _
    rw [inc_sb hj, inc_st hj]
    refine ⟨this.1, ?_⟩
    split <;> omega

end Go.Proofs.Ytlpbehokcogcpaa
