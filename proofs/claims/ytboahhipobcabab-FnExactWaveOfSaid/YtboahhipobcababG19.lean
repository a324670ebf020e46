/-
  SEVERAL TEXTS IN ONE.
-/
import Derived.Test.YtboahhipobcababG16
import Derived.Test.YtboahhipobcababG8
import Derived.Test.YtboahhipobcababG18
import Derived.Test.YtboahhipobcababShifted

/-
  CONTRACTS: waves of green: plans of one's own that grow.
-/
namespace Go.Proofs.Ytboahhipobcabab
open Go Go.ChangeShapes Go.WideShapes Go.ChangeAt Go.RowKit
set_option maxRecDepth 100000

/-- the Offset of the plan at k in a wave -/
def ofW (ps : Ps) (ts : List Int) (m : Nat) : Nat → Int
  | 0 => pO ps 0 % cyc (pS ps 0) (pB ps 0)
  | k + 1 => (pO ps (k + 1) + (ofW ps ts m k + (bg (pS ps k) (pB ps k) m : Int) + ith ts k - (pO ps (k + 1) + (bg (pS ps (k + 1)) (pB ps (k + 1)) m : Int)))) % cyc (pS ps (k + 1)) (pB ps (k + 1))

/-- a wave's first n plans -/
def wvL (ps : Ps) (ts : List Int) (m n : Nat) : Ps := (List.range n).map fun k => (pS ps k, pB ps k, ofW ps ts m k)

theorem wvL_len (ps : Ps) (ts : List Int) (m n : Nat) : (wvL ps ts m n).length = n := by simp [wvL]

theorem wvL_at {ps : Ps} {ts : List Int} {m n k : Nat} (h : k < n) : (wvL ps ts m n).getD k ([], 0, 0) = (pS ps k, pB ps k, ofW ps ts m k) := by
  rw [List.getD_eq_getElem?_getD]
  simp [wvL, List.getElem?_range h]

theorem wvL_S {ps : Ps} {ts : List Int} {m n k : Nat} (h : k < n) : pS (wvL ps ts m n) k = pS ps k := by unfold pS; rw [wvL_at h]; rfl

theorem wvL_B {ps : Ps} {ts : List Int} {m n k : Nat} (h : k < n) : pB (wvL ps ts m n) k = pB ps k := by unfold pB; rw [wvL_at h]; rfl

theorem wvL_O {ps : Ps} {ts : List Int} {m n k : Nat} (h : k < n) : pO (wvL ps ts m n) k = ofW ps ts m k := by unfold pO; rw [wvL_at h]

theorem wvL_succ (ps : Ps) (ts : List Int) (m n : Nat) : wvL ps ts m (n + 1) = wvL ps ts m n ++ [(pS ps n, pB ps n, ofW ps ts m n)] := by
  unfold wvL
  rw [List.range_succ, List.map_append]; rfl

/-- the plans that WaveOf answers -/
def vWv (ps : Ps) (ts : List Int) (mv : Int) : Ps := if rowC ps ts mv = 0 then wvL ps ts mv.toNat ps.length else []

theorem okP_off {xs : Slots} {b o o' : Int} (h : okP xs b o = true) (ho : 0 ≤ o' ∧ o' < cyc xs b) : okP xs b o' = true := by
  obtain ⟨hl, hb, ht, hc, -⟩ := okP_parts h
  unfold okP lenOk btw
  simpa [and_assoc] using ⟨hl.1, hl.2, hb.1, hb.2, ht, hc, ho.1, ho.2⟩

theorem ofW_ok {ps : Ps} {ts : List Int} {m : Nat} (k : Nat) (h : 0 < cyc (pS ps k) (pB ps k)) : 0 ≤ ofW ps ts m k ∧ ofW ps ts m k < cyc (pS ps k) (pB ps k) := by
  cases k with
  | zero => exact ⟨Int.emod_nonneg _ (by omega), Int.emod_lt_of_pos _ h⟩
  | succ k => exact ⟨Int.emod_nonneg _ (by omega), Int.emod_lt_of_pos _ h⟩

theorem rowC_gn {ps : Ps} {ts : List Int} {m : Nat} (h : rowC ps ts m = 0) : ∀ k, k < ps.length → 0 < cnt (gre (pB ps k) (pS ps k) m) (cyc (pS ps k) (pB ps k)).toNat := by
  intro k hk
  cases h1 : allK (pOk ps) ps.length
  · rw [rowC_1 h1] at h; cases h
  · cases h2 : ratOk ps ts m
    · rw [rowC_2 h1 h2] at h; cases h
    · cases h3 : allK (cyOk ps) ps.length
      · rw [rowC_4 h1 h2 h3] at h; cases h
      · cases h4 : allK (gnOk ps (m : Int).toNat) ps.length
        · rw [rowC_6 h1 h2 h3 h4] at h; cases h
        · have := allK_at h4 hk
          rw [Int.toNat_natCast] at this
          unfold gnOk gnP cyP at this
          simp only [decide_eq_true_eq] at this
          omega

/-- its block is none of its plans' slots -/
theorem OwnSl.kept {w w' : World} {lo : Nat} {u : Value} {xs : Slots} {r : Option Nat} (h : OwnSl w lo u xs) (hg : w.grownBy w' r) (hne : ∀ q, r = some q → ∃ c, At w q c 41) : OwnSl w' lo u xs := by
  refine ⟨h.1, h.2.imp id ?_⟩
  rintro ⟨g, cap, cur, rfl, h1, h2, h3, h4, h5, h6⟩
  have hl : g < w.heap.size := (Array.getElem?_eq_some_iff.1 h2).1
  refine ⟨g, cap, cur, rfl, h1, (hg.block g hl (fun e => ?_)).trans h2, h3, h4, h5, h6⟩
  obtain ⟨c, hc⟩ := hne g e.symm
  have hc' : w.heap[g]? = some (.cells c 41) := hc
  rw [hc'] at h2
  simp at h2

theorem OwnPv.typed {w : World} {lo : Nat} {v : Value} {l : Pv} (h : OwnPv w lo v l) : ∀ q, v.ownBlock = some q → ∃ c, At w q c 41 := by
  intro q hq
  rcases h.2 with ⟨rfl, -⟩ | ⟨g, cap, cur, rfl, h1, h2, -⟩
  · cases hq
  · have e : g = q := by simpa [Value.ownBlock] using hq
    subst e
    exact ⟨cur, h2⟩

theorem OwnPs.push {w w' : World} {lo : Nat} {v v' u : Value} {ps : Ps} {l : Pv} {xs : Slots} {b o : Int} (h : OwnPs w lo v ps l) (hs : OwnSl w lo u xs) (hnew : ∀ i, i < ps.length → ∀ q, (l.getD i (.slice none 0 0, 0, 0)).1.ownBlock = some q → u.ownBlock ≠ some q) (hg : w.grownBy w' v.ownBlock) (hown : w'.ownsRow lo 41 3 v' (l.length + 1) (l.flatMap pvl ++ pvl (u, b, o))) : OwnPs w' lo v' (ps ++ [(xs, b, o)]) (l ++ [(u, b, o)]) := by
  have hl := h.len
  have e2 : ∀ i, i < l.length + 1 → ∀ d, (l ++ [(u, b, o)]).getD i d = if i < l.length then l.getD i d else (u, b, o) := fun i hi d => by
    rw [List.getD_eq_getElem?_getD]
    by_cases c : i < l.length
    · rw [if_pos c, List.getElem?_append_left c, ← List.getD_eq_getElem?_getD]
    · obtain rfl : i = l.length := by omega
      rw [if_neg c]; simp
  refine ⟨OwnPv.grown hown, by simp [hl], fun i hi => ?_, fun i j hij hj q => ?_⟩
  rotate_left
  · rw [List.length_append, List.length_singleton] at hj
    rw [e2 i (by omega), e2 j (by omega), if_pos (by omega)]
    by_cases c : j < l.length
    · rw [if_pos c]; exact h.dis i j hij (by omega) q
    · rw [if_neg c]; exact hnew i (by omega) q
  rw [List.length_append, List.length_singleton] at hi
  have e1 : ∀ d, (ps ++ [(xs, b, o)]).getD i d = if i < ps.length then ps.getD i d else (xs, b, o) := fun d => by
    rw [List.getD_eq_getElem?_getD]
    by_cases c : i < ps.length
    · rw [if_pos c, List.getElem?_append_left c, ← List.getD_eq_getElem?_getD]
    · obtain rfl : i = ps.length := by omega
      rw [if_neg c]; simp
  unfold pS pB pO
  rw [e1, e2 i (by omega)]
  by_cases c : i < ps.length
  · rw [if_pos c, if_pos (by omega)]
    obtain ⟨u', h1, h2⟩ := h.at' i c
    exact ⟨u', h1, h2.kept hg h.own.typed⟩
  · rw [if_neg c, if_neg (by omega)]
    exact ⟨u, rfl, hs.kept hg h.own.typed⟩

theorem OwnPs.one {w : World} {lo : Nat} (hlo : lo ≤ w.heap.size) {u : Value} {xs : Slots} {b o : Int} (hs : OwnSl w lo u xs) : OwnPs (w.alloc (.cells (plC u b o) 41)) lo (.slice (some ⟨w.heap.size, 0, none⟩) 1 1) [(xs, b, o)] [(u, b, o)] := by
  refine ⟨⟨rfl, .inr ⟨w.heap.size, 1, plC u b o, rfl, hlo, At.new w (plC u b o) 41, Nat.le_refl _, by unfold maxLen; omega, plC_size _ _ _, rfl⟩⟩, rfl, fun i hi => by
    obtain rfl : i = 0 := by simpa using hi
    exact ⟨u, rfl, hs.step (b0 w _)⟩, fun i j hij hj => absurd hj (by simp; omega)⟩

end Go.Proofs.Ytboahhipobcabab

/-
  CALLS in a region taken by hand.
  No Go text in it. Conditions: those of each theorem.
-/
namespace Go.Proofs.Ytboahhipobcabab
open Go Go.RowKit
set_option maxRecDepth 100000

section
variable {P : Program} {ops : Array Oper} {o : Oper} {v : Value} {a : Act} {w : World} {S : World → Prop} {i : Nat} {K : Act → World → Prop} {Q : Exit → Act → World → Prop}
theorem yig (hw : Region.wanted o (yielded ops a.tmps) = true) (h : ∀ w, S w → (execOp a.eval o).run P w = .ok (.value v) w) : YieldsIf P ops S o v a := .inl ⟨hw, h⟩

theorem op_call_g {f : FuncId} {args : Array Value} (ho : ops[i]? = some o) (hw : Region.wanted o (yielded ops a.tmps) = true) (hx : (execOp a.eval o).run P w = .ok (.enter f args) w) (hc : Calls P f args w fun e w' => ∃ v, e = .returned v ∧ K (a.put o.dst v) w') : wpOp P ops Q i K a w := by
  unfold wpOp
  simp only [ho, hw, if_true]
  refine .inl ?_
  unfold Oper.wp
  rw [hx]
  unfold Oper.upon
  exact Calls.mono hc fun e w' ⟨v, he, hk⟩ => by subst he; exact hk

theorem wpAnyH_call {md : Region.Mode} {j fuel : Nat} {listed : Array Bool} {f : FuncId} {args : Array Value} (hr : Region.ready md ops listed = [j]) (ho : ops[j]? = some o) (hw : Region.wanted o (yielded ops a.tmps) = true) (hx : (execOp a.eval o).run P w = .ok (.enter f args) w)
    (hc : Calls P f args w fun e w' => ∃ v, e = .returned v ∧ S w' ∧ wpAnyH P md ops Q S fuel (listed.setIfInBounds j true) (a.put o.dst v) w') : wpAnyH P md ops Q S (fuel + 1) listed a w :=
  wpAnyH_all hr (by simp) fun i hi => by
    have e : i = j := by simpa using hi
    subst e
    exact op_call_g ho hw hx hc
end

end Go.Proofs.Ytboahhipobcabab
