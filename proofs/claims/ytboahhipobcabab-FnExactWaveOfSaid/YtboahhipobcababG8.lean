/-
  SEVERAL TEXTS IN ONE.
-/
import Derived.Test.YtboahhipobcababToPlan
import Derived.Test.YtboahhipobcababOwnSl

/-
  CONTRACTS: rows of plans.
-/
namespace Go.Proofs.Ytboahhipobcabab
open Go Go.ChangeShapes Go.WideShapes Go.ChangeAt Go.RowKit
set_option maxRecDepth 100000

/-- rows of plans: the slice, two numbers -/
abbrev Pv := List (Value × Int × Int)
abbrev Ps := List (Slots × Int × Int)
def pvl (p : Value × Int × Int) : List Value := [p.1, .int .i64 p.2.1, .int .i64 p.2.2]
def pvC (l : Pv) : Array Value := (l.flatMap pvl).toArray
def pS (ps : Ps) (i : Nat) : Slots := (ps.getD i ([], 0, 0)).1
def pB (ps : Ps) (i : Nat) : Int := (ps.getD i ([], 0, 0)).2.1
def pO (ps : Ps) (i : Nat) : Int := (ps.getD i ([], 0, 0)).2.2
theorem pvL_len : ∀ l : Pv, (l.flatMap pvl).length = l.length * 3
  | [] => rfl
  | p :: l => by
    rw [List.flatMap_cons, List.length_append, pvL_len l, List.length_cons]
    show 3 + l.length * 3 = _
    omega
theorem pvC_size (l : Pv) : (pvC l).size = l.length * 3 := by unfold pvC; rw [List.size_toArray, pvL_len]
theorem pvL_get : ∀ (l : Pv) {i j : Nat} (_ : i < l.length) (_ : j < 3), (l.flatMap pvl)[i * 3 + j]? = (pvl (l.getD i (.slice none 0 0, 0, 0)))[j]?
  | [], i, j, h, _ => by simp at h
  | p :: l, 0, j, _, hj => by
    rw [List.flatMap_cons, List.getElem?_append_left (by show 0 * 3 + j < 3; omega), Nat.zero_mul, Nat.zero_add]
    rfl
  | p :: l, i + 1, j, h, hj => by
    rw [List.flatMap_cons, List.getElem?_append_right (by show 3 ≤ (i + 1) * 3 + j; omega), show (i + 1) * 3 + j - (pvl p).length = i * 3 + j from by show (i + 1) * 3 + j - 3 = _; omega]
    rw [pvL_get l (by simpa using h) hj]
    rfl
theorem pvC_get {l : Pv} {i j : Nat} (hi : i < l.length) (hj : j < 3) {v : Value} {b o : Int} (h : l.getD i (.slice none 0 0, 0, 0) = (v, b, o)) : (pvC l)[i * 3 + j]? = (plC v b o)[j]? := by
  rw [← Array.getElem?_toList]
  show (l.flatMap pvl)[i * 3 + j]? = _
  rw [pvL_get l hi hj, h, ← List.getElem?_toArray]
  rfl
theorem pvL_take : ∀ (l : Pv) (i : Nat), (l.flatMap pvl).take (i * 3) = (l.take i).flatMap pvl
  | [], i => by simp
  | p :: l, 0 => by simp
  | p :: l, i + 1 => by
    rw [List.take_succ_cons, List.flatMap_cons, List.flatMap_cons, ← pvL_take l i, List.take_append, show (i + 1) * 3 - (pvl p).length = i * 3 from by show (i + 1) * 3 - 3 = _; omega, List.take_of_length_le (by show 3 ≤ (i + 1) * 3; omega)]
theorem pvL_drop : ∀ (l : Pv) (i : Nat), (l.flatMap pvl).drop (i * 3) = (l.drop i).flatMap pvl
  | [], i => by simp
  | p :: l, 0 => by simp
  | p :: l, i + 1 => by
    rw [List.drop_succ_cons, List.flatMap_cons, ← pvL_drop l i, List.drop_append, show (i + 1) * 3 - (pvl p).length = i * 3 from by show (i + 1) * 3 - 3 = _; omega, List.drop_eq_nil_of_le (by show 3 ≤ (i + 1) * 3; omega), List.nil_append]
theorem pvC_at {l : Pv} {i k : Nat} (hi : i < l.length) {v : Value} {b o : Int} (h : l.getD i (.slice none 0 0, 0, 0) = (v, b, o)) (hk : k = i * 3) : (pvC l).extract k (k + 3) = plC v b o := by
  subst hk
  have hs := pvC_size l
  apply Array.ext_getElem?
  intro j
  rw [Array.getElem?_extract]
  by_cases c : j < 3
  · rw [if_pos (by omega), pvC_get hi c h]
  · rw [if_neg (by omega), Array.getElem?_eq_none (by rw [plC_size]; omega)]
theorem pvC_set {l : Pv} {i off : Nat} (hi : i < l.length) (ho : off = i * 3) (v : Value) (b o : Int) : splice (pvC l) off (plC v b o) = pvC (l.set i (v, b, o)) := by
  subst ho
  apply Array.ext'
  unfold splice
  show (l.flatMap pvl).take (i * 3) ++ pvl (v, b, o) ++ (l.flatMap pvl).drop (i * 3 + 3) = (l.set i (v, b, o)).flatMap pvl
  rw [pvL_take, show i * 3 + 3 = (i + 1) * 3 from by omega, pvL_drop, List.set_eq_take_append_cons_drop, if_pos hi, List.flatMap_append, List.flatMap_cons, List.append_assoc]
theorem pv_one : ∀ (l : Pv), (∀ p ∈ l, p.1.oneCell' = true) → (pvC l).all (·.oneCell') = true := by
  intro l h
  unfold pvC
  rw [List.all_toArray, List.all_eq_true]
  intro u hu
  obtain ⟨p, hp, hu⟩ := List.mem_flatMap.1 hu
  simp only [pvl, List.mem_cons, List.mem_nil_iff, or_false] at hu
  rcases hu with rfl | rfl | rfl
  · exact h p hp
  · rfl
  · rfl

end Go.Proofs.Ytboahhipobcabab

/-
  CONTRACTS: slices of plans of one's own.
-/
namespace Go.Proofs.Ytboahhipobcabab
open Go Go.ChangeShapes Go.WideShapes Go.ChangeAt Go.RowKit
set_option maxRecDepth 100000

/-- v is a slice of the rows l, in memory from block lo on -/
def OwnPv (w : World) (lo : Nat) (v : Value) (l : Pv) : Prop := w.ownsRow lo 41 3 v l.length (l.flatMap pvl)

/-- v is a slice of the plans ps, in memory from block lo on, their slots too -/
structure OwnPs (w : World) (lo : Nat) (v : Value) (ps : Ps) (l : Pv) : Prop where
  own : OwnPv w lo v l
  len : l.length = ps.length
  at' : ∀ i, i < ps.length → ∃ u, l.getD i (.slice none 0 0, 0, 0) = (u, pB ps i, pO ps i) ∧ OwnSl w lo u (pS ps i)
  dis : ∀ i j, i < j → j < ps.length → ∀ q, (l.getD i (.slice none 0 0, 0, 0)).1.ownBlock = some q → (l.getD j (.slice none 0 0, 0, 0)).1.ownBlock ≠ some q

theorem OwnPv.step {w w' : World} {lo : Nat} {v : Value} {l : Pv} (h : OwnPv w lo v l) (hb : Below w.heap.size w w') : OwnPv w' lo v l := by
  refine ⟨h.1, h.2.imp id ?_⟩
  rintro ⟨g, cap, cur, rfl, h1, h2, h3, h4, h5, h6⟩
  have hl : g < w.heap.size := (Array.getElem?_eq_some_iff.1 h2).1
  exact ⟨g, cap, cur, rfl, h1, (hb.block g hl).trans h2, h3, h4, h5, h6⟩

theorem OwnPs.step {w w' : World} {lo : Nat} {v : Value} {ps : Ps} {l : Pv} (h : OwnPs w lo v ps l) (hb : Below w.heap.size w w') : OwnPs w' lo v ps l :=
  ⟨h.own.step hb, h.len, fun i hi => by obtain ⟨u, h1, h2⟩ := h.at' i hi; exact ⟨u, h1, h2.step hb⟩, h.dis⟩

/-- slots made later lie elsewhere -/
theorem OwnPs.fresh {w w' : World} {lo : Nat} {v u : Value} {ps : Ps} {l : Pv} {xs : Slots} (h : OwnPs w lo v ps l) (hs : OwnSl w' w.heap.size u xs) : ∀ i, i < ps.length → ∀ q, (l.getD i (.slice none 0 0, 0, 0)).1.ownBlock = some q → u.ownBlock ≠ some q := by
  intro i hi q hq e
  obtain ⟨u', h1, h2⟩ := h.at' i hi
  rw [h1] at hq
  have a := (h2.block q hq).2
  have b := (hs.block q e).1
  omega

theorem OwnPv.any {w : World} {lo : Nat} {v : Value} {l : Pv} (h : OwnPv w lo v l) : ∃ a cap, v = .slice a l.length cap := by
  rcases h.2 with ⟨rfl, e⟩ | ⟨g, cap, cur, rfl, -⟩
  · exact ⟨none, 0, by rw [e]⟩
  · exact ⟨_, cap, rfl⟩

theorem OwnPv.block {w : World} {lo : Nat} {v : Value} {l : Pv} (h : OwnPv w lo v l) : ∀ k, v.ownBlock = some k → lo ≤ k ∧ k < w.heap.size := by
  intro k hk
  rcases h.2 with ⟨rfl, -⟩ | ⟨g, cap, cur, rfl, h1, h2, -⟩
  · cases hk
  · have e : g = k := by simpa [Value.ownBlock] using hk
    have hl : g < w.heap.size := (Array.getElem?_eq_some_iff.1 h2).1
    omega

theorem OwnPv.setRow_other {w : World} {lo : Nat} {v : Value} {l : Pv} (h : OwnPv w lo v l) {g : Nat} (hne : ∀ k, v.ownBlock = some k → k ≠ g) (c : Array Value) : OwnPv (w.setRow g c) lo v l := by
  refine ⟨h.1, h.2.imp id ?_⟩
  rintro ⟨g', cap, cur, rfl, h1, h2, h3, h4, h5, h6⟩
  exact ⟨g', cap, cur, rfl, h1, (heap_setRow_other _ _ _ _ (hne g' rfl)).trans h2, h3, h4, h5, h6⟩

/-- what is known of a slice that is not empty -/
theorem OwnPv.at {w : World} {lo : Nat} {v : Value} {l : Pv} (h : OwnPv w lo v l) (hn : l.length ≠ 0) : ∃ g cap cur, v = .slice (some ⟨g, 0, none⟩) l.length cap ∧ lo ≤ g ∧ At w g cur 41 ∧ l.length ≤ cap ∧ l.length * 3 ≤ cur.size ∧ ∀ p, p < l.length * 3 → cur[p]? = (pvC l)[p]? := by
  rcases h.2 with ⟨-, h0⟩ | ⟨g, cap, cur, rfl, h1, h2, h3, h4, h5, h6⟩
  · exact absurd h0 hn
  · refine ⟨g, cap, cur, rfl, h1, h2, h3, by omega, fun p hp => ?_⟩
    have : cur[p]? = (l.flatMap pvl)[p]? := by rw [← h6, List.getElem?_take_of_lt hp, Array.getElem?_toList]
    rw [this, ← Array.getElem?_toList]; rfl

theorem OwnPv.part {l : Pv} {cur : Array Value} (hs : l.length * 3 ≤ cur.size) (hc : ∀ p, p < l.length * 3 → cur[p]? = (pvC l)[p]?) {i : Nat} (hi : i < l.length) {u : Value} {b o : Int} (h : l.getD i (.slice none 0 0, 0, 0) = (u, b, o)) : cur.extract (i * 3) (i * 3 + 3) = plC u b o := by
  rw [← pvC_at hi h rfl]
  have hz := pvC_size l
  apply Array.ext_getElem?
  intro j
  rw [Array.getElem?_extract, Array.getElem?_extract]
  by_cases c : j < 3
  · rw [if_pos (by omega), if_pos (by omega), hc _ (by omega)]
  · rw [if_neg (by omega), if_neg (by omega)]

theorem OwnPv.grown {w : World} {lo : Nat} {v : Value} {l : Pv} {q : Value × Int × Int} (h : w.ownsRow lo 41 3 v (l.length + 1) (l.flatMap pvl ++ pvl q)) : OwnPv w lo v (l ++ [q]) := by
  unfold OwnPv
  have e : (l ++ [q]).flatMap pvl = l.flatMap pvl ++ pvl q := by simp
  rw [e, List.length_append]
  exact h

theorem run_onePl (W : World) (v : Value) (b o : Int) (hv : v.oneCell' = true) : (Instr.buildSlice 25 1 #[(0, .agg (plC v b o))]).run Try.prog W = .ok (.slice (some ⟨W.heap.size, 0, none⟩) 1 1) (W.alloc (.cells (plC v b o) 41)) := by
  cases v <;> first | (cases hv; done) | kernel_rfl

theorem one_cellsPl (w : World) (v : Value) (b o : Int) : ∀ j u, (pvl (v, b, o))[j]? = some u → (w.alloc (.cells (plC v b o) 41)).cell? ((⟨w.heap.size, 0, none⟩ : Addr).add j) = some u := by
  intro j u h
  have hj : j < 3 := by
    rcases Nat.lt_or_ge j 3 with c | c
    · exact c
    · rw [List.getElem?_eq_none (by simpa [pvl] using c)] at h; cases h
  have e : (⟨w.heap.size, 0, none⟩ : Addr).add j = ⟨w.heap.size, j, none⟩ := by
    unfold Addr.add
    by_cases z : j = 0
    · subst z; rfl
    · rw [if_neg z]; congr 1; show 0 + j = j; omega
  rw [e]
  refine (At.new w (plC v b o) 41).cell ?_
  rw [← Array.getElem?_toList]
  exact h

theorem info_plan : ∃ i : TypeInfo, Try.prog.info? 41 = some i ∧ i.zero = some (.agg #[.slice none 0 0, .int .i64 0, .int .i64 0]) ∧ i.size = 3 ∧ i.bytes = 40 := by
  have hi : (Try.prog.info? 41).map (fun i => (i.zero, i.size, i.bytes)) = some (some (.agg #[.slice none 0 0, .int .i64 0, .int .i64 0]), 3, 40) := by kernel_rfl
  obtain ⟨i, h1, h2, h3, h4⟩ := info_parts hi
  exact ⟨i, h1, h2, h3, h4⟩

end Go.Proofs.Ytboahhipobcabab
