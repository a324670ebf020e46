/-
  SEVERAL TEXTS IN ONE.
-/
import Derived.Test.YtejbaoakpkpciaaIncN
import Derived.Test.YtejbaoakpkpciaaSameTl
import Derived.Test.YtejbaoakpkpciaaWrongIY
import Derived.Test.YtejbaoakpkpciaaInc
import Derived.Test.YtejbaoakpkpciaaOwnT

/-
  HELPERS of the law FnIncidents.
-/
namespace Go.Proofs.Ytejbaoakpkpciaa
open Go Go.RowKit
set_option maxRecDepth 100000

/-- is one of the first k turns t -/
def anyT (xs : Ts) (t : Int) : Nat → Bool
  | 0 => false
  | k + 1 => anyT xs t k || (tn xs k == t)

theorem anyT_next (xs : Ts) (t : Int) (k : Nat) : anyT xs t (k + 1) = (anyT xs t k || (tn xs k == t)) := rfl

theorem anyT_yes {xs : Ts} {t : Int} : ∀ n i, i < n → tn xs i = t → anyT xs t n = true
  | 0, i, h, _ => by omega
  | n + 1, i, h, e => by
    rw [anyT_next]
    by_cases c : i = n
    · subst c; rw [e]; simp
    · rw [anyT_yes n i (by omega) e]; rfl

theorem sameK_end {xs : Ts} {k : Nat} (h1 : k ≤ xs.length ∨ k = 1) (h2 : ¬ k < xs.length) : sameK xs k = sameK xs xs.length := by
  rcases h1 with h | h
  · rw [show k = xs.length from by omega]
  · subst h
    rw [sameK_one]
    rcases (by omega : xs.length = 0 ∨ xs.length = 1) with e | e
    · rw [e]; rfl
    · rw [e]; rfl

theorem stuck_val {xs : Ts} (hok : okT xs = true) : ∃ s1 s2 : Int, vStuck xs 2 = (s1, s2) ∧ (sameK xs xs.length = (s2 == 0)) := by
  rcases stuck_same hok with ⟨h1, t, h2⟩ | ⟨h1, h2⟩
  · exact ⟨t, 0, h2, by rw [h1]; rfl⟩
  · exact ⟨0, 6, h2, by rw [h1]; rfl⟩

theorem again_any {w : World} {lo : Nat} {v : Value} {xs : Ts} (hok : okT xs = true) (hW : TW xs) (O : OwnT w lo v (wrL xs 20 xs.length)) :
    Calls Try.prog 11 #[v, .int .i16 20] w fun e w' => (∃ v', e = .returned (.tuple #[v', .int .i64 0]) ∧ OwnT w' w.heap.size v' (wrL xs 20 xs.length)) ∧ Below w.heap.size w w' := by
  have hl := wrL_len xs 20 xs.length
  have hx := okT_len hok
  by_cases hn : v = .slice none 0 0
  · subst hn
    have e : wrL xs 20 xs.length = [] := by
      rcases O.2 with ⟨-, h0⟩ | ⟨g, cap, cur, e, -⟩
      · exact List.length_eq_zero_iff.1 h0
      · cases e
    rw [e]
    exact WithoutWrong_nil 20 (by omega) w
  · obtain ⟨g, cap, zs, rfl, -, hA, -⟩ := O.atN hn
    have K := WithoutWrong_anyY zs g (wrL xs 20 xs.length) cap (wrL_w hW 20 _ (Nat.le_refl _)) (by omega) 32 20 w hA
    rw [wr_again hok (by omega)] at K
    refine K.mono ?_
    rintro e w' ⟨h1, h2⟩
    exact ⟨h1, h2⟩

end Go.Proofs.Ytejbaoakpkpciaa

/-
  CONTRACTS: slices of pairs of tallies of one's own.
-/
namespace Go.Proofs.Ytejbaoakpkpciaa
open Go Go.ChangeShapes Go.WideShapes Go.ChangeAt Go.RowKit
set_option maxRecDepth 100000

/-- the cells of two tallies -/
def p6 (t c f t2 c2 f2 : Int) : Array Value := #[.int .i64 t, .int .i16 c, .int .i16 f, .int .i64 t2, .int .i16 c2, .int .i16 f2]
def pll (xs ys : Ts) (q : Nat × Nat) : List Value := [.int .i64 (tn xs q.1), .int .i16 (tc xs q.1), .int .i16 (tf xs q.1), .int .i64 (tn ys q.2), .int .i16 (tc ys q.2), .int .i16 (tf ys q.2)]
def pr (xs ys : Ts) (k j : Nat) : Array Value := p6 (tn xs k) (tc xs k) (tf xs k) (tn ys j) (tc ys j) (tf ys j)
def pLc (xs ys : Ts) (L : List (Nat × Nat)) : List Value := L.flatMap (pll xs ys)
theorem p6_size (t c f t2 c2 f2 : Int) : (p6 t c f t2 c2 f2).size = 6 := rfl
theorem p6_0 (t c f t2 c2 f2 : Int) : (p6 t c f t2 c2 f2)[0]? = some (.int .i64 t) := rfl
theorem p6_2 (t c f t2 c2 f2 : Int) : (p6 t c f t2 c2 f2)[2]? = some (.int .i16 f) := rfl
theorem p6_5 (t c f t2 c2 f2 : Int) : (p6 t c f t2 c2 f2)[5]? = some (.int .i16 f2) := rfl
theorem p6_one (t c f t2 c2 f2 : Int) : (p6 t c f t2 c2 f2).all (·.oneCell') = true := by unfold p6; rw [List.all_toArray]; rfl
theorem pLc_len (xs ys : Ts) (L : List (Nat × Nat)) : (pLc xs ys L).length = L.length * 6 := by
  unfold pLc
  induction L with
  | nil => rfl
  | cons s L ih => rw [List.flatMap_cons, List.length_append, ih, List.length_cons]; show 6 + _ = _; omega
theorem pLc_get {xs ys : Ts} : ∀ {L : List (Nat × Nat)} {i j : Nat}, (hi : i < L.length) → j < 6 → (pLc xs ys L)[i * 6 + j]? = (pll xs ys L[i])[j]?
  | [], i, j, hi, _ => by simp at hi
  | s :: L, 0, j, _, hj => by
    show (pll xs ys s ++ _)[0 * 6 + j]? = _
    rw [Nat.zero_mul, Nat.zero_add, List.getElem?_append_left (by show j < 6; omega)]; rfl
  | s :: L, i + 1, j, hi, hj => by
    show (pll xs ys s ++ pLc xs ys L)[(i + 1) * 6 + j]? = _
    have hs : (pll xs ys s).length = 6 := rfl
    rw [List.getElem?_append_right (by omega), hs, show (i + 1) * 6 + j - 6 = i * 6 + j from by omega, pLc_get (by simpa using hi) hj]
    rfl
/-- v is a slice of the pairs L, in memory from block lo on -/
def OwnP (w : World) (lo : Nat) (v : Value) (xs ys : Ts) (L : List (Nat × Nat)) : Prop := w.ownsRow lo 51 6 v L.length (pLc xs ys L)
section
variable {w w' : World} {lo : Nat} {v : Value} {xs ys : Ts} {L : List (Nat × Nat)}
theorem OwnP.nil (w : World) (lo : Nat) (xs ys : Ts) : OwnP w lo (.slice none 0 0) xs ys [] := ⟨rfl, .inl ⟨rfl, rfl⟩⟩
theorem OwnP.step (h : OwnP w lo v xs ys L) (hb : Below w.heap.size w w') : OwnP w' lo v xs ys L := by
  refine ⟨h.1, h.2.imp id ?_⟩
  rintro ⟨g, cap, cur, rfl, h1, h2, h3, h4, h5, h6⟩
  have hl : g < w.heap.size := (Array.getElem?_eq_some_iff.1 h2).1
  exact ⟨g, cap, cur, rfl, h1, (hb.block g hl).trans h2, h3, h4, h5, h6⟩
theorem OwnP.low {lo' : Nat} (h : OwnP w lo v xs ys L) (hl : lo' ≤ lo) : OwnP w lo' v xs ys L := by
  refine ⟨h.1, h.2.imp id ?_⟩
  rintro ⟨g, cap, cur, rfl, h1, h2⟩
  exact ⟨g, cap, cur, rfl, by omega, h2⟩
theorem OwnP.any (h : OwnP w lo v xs ys L) : ∃ a cap, v = .slice a L.length cap := by
  rcases h.2 with ⟨rfl, e⟩ | ⟨g, cap, cur, rfl, -⟩
  · exact ⟨none, 0, by rw [e]⟩
  · exact ⟨_, cap, rfl⟩
theorem OwnP.block (h : OwnP w lo v xs ys L) : ∀ k, v.ownBlock = some k → lo ≤ k ∧ k < w.heap.size := by
  intro k hk
  rcases h.2 with ⟨rfl, -⟩ | ⟨g, cap, cur, rfl, h1, h2, -⟩
  · cases hk
  · have e : g = k := by simpa [Value.ownBlock] using hk
    have hl : g < w.heap.size := (Array.getElem?_eq_some_iff.1 h2).1
    omega
/-- its block is none of a single tally's -/
theorem OwnP.ne (h : OwnP w lo v xs ys L) {g : Nat} {c : Array Value} (hA : At w g c 32) : ∀ k, v.ownBlock = some k → k ≠ g := by
  intro k hk e
  rcases h.2 with ⟨rfl, -⟩ | ⟨g', cap, cur, rfl, h1, h2, -⟩
  · cases hk
  · have e' : g' = k := by simpa [Value.ownBlock] using hk
    subst e' e
    have hA' : w.heap[g']? = some (.cells c 32) := hA
    rw [hA'] at h2
    simp at h2
theorem OwnP.setRow_other (h : OwnP w lo v xs ys L) {g : Nat} (hne : ∀ k, v.ownBlock = some k → k ≠ g) (c : Array Value) : OwnP (w.setRow g c) lo v xs ys L := by
  refine ⟨h.1, h.2.imp id ?_⟩
  rintro ⟨g', cap, cur, rfl, h1, h2, h3, h4, h5, h6⟩
  exact ⟨g', cap, cur, rfl, h1, (heap_setRow_other _ _ _ _ (hne g' rfl)).trans h2, h3, h4, h5, h6⟩
/-- what is known of a slice that is not empty -/
theorem OwnP.at (h : OwnP w lo v xs ys L) (hn : L.length ≠ 0) : ∃ g cap cur, v = .slice (some ⟨g, 0, none⟩) L.length cap ∧ lo ≤ g ∧ At w g cur 51 ∧ L.length ≤ cap ∧ L.length * 6 ≤ cur.size ∧ ∀ p, p < L.length * 6 → cur[p]? = (pLc xs ys L)[p]? := by
  rcases h.2 with ⟨-, h0⟩ | ⟨g, cap, cur, rfl, h1, h2, h3, h4, h5, h6⟩
  · exact absurd h0 hn
  · refine ⟨g, cap, cur, rfl, h1, h2, h3, by omega, fun p hp => ?_⟩
    rw [← h6, List.getElem?_take_of_lt hp, Array.getElem?_toList]
theorem OwnP.grown {q : Nat × Nat} (h : w.ownsRow lo 51 6 v (L.length + 1) (pLc xs ys L ++ pll xs ys q)) : OwnP w lo v xs ys (L ++ [q]) := by
  unfold OwnP
  have e : pLc xs ys (L ++ [q]) = pLc xs ys L ++ pll xs ys q := by simp [pLc]
  rw [e, List.length_append]
  exact h
end
theorem At.keepP {w w' : World} {g : Nat} {c : Array Value} {T : TypeId} {r : Option Nat} (h : At w g c T) (hg : w.grownBy w' r) (hne : ∀ q, r = some q → q ≠ g) : At w' g c T :=
  (hg.block g h.lt (fun e => hne g e.symm rfl)).trans h
theorem built_pair (t c f t2 c2 f2 : Int) : Try.prog.built 51 [(0, .agg (t1 t c f)), (1, .agg (t1 t2 c2 f2))] = some (p6 t c f t2 c2 f2) := by kernel_rfl
theorem run_oneP (W : World) (t c f t2 c2 f2 : Int) : (Instr.buildSlice 48 1 #[(0, .agg (p6 t c f t2 c2 f2))]).run Try.prog W = .ok (.slice (some ⟨W.heap.size, 0, none⟩) 1 1) (W.alloc (.cells (p6 t c f t2 c2 f2) 51)) := by kernel_rfl
theorem one_cellsP (w : World) (xs ys : Ts) (k i : Nat) : ∀ j u, (pll xs ys (k, i))[j]? = some u → (w.alloc (.cells (pr xs ys k i) 51)).cell? ((⟨w.heap.size, 0, none⟩ : Addr).add j) = some u := by
  intro j u h
  have hj : j < 6 := by
    rcases Nat.lt_or_ge j 6 with c | c
    · exact c
    · rw [List.getElem?_eq_none (by simpa [pll] using c)] at h; cases h
  have e : (⟨w.heap.size, 0, none⟩ : Addr).add j = ⟨w.heap.size, j, none⟩ := by
    unfold Addr.add
    by_cases z : j = 0
    · subst z; rfl
    · rw [if_neg z]; congr 1; show 0 + j = j; omega
  rw [e]
  refine (At.new w (pr xs ys k i) 51).cell ?_
  rw [← Array.getElem?_toList]
  exact h
theorem pll_one (xs ys : Ts) (q : Nat × Nat) : ∀ u ∈ pll xs ys q, u.oneCell' = true := by
  intro u hu
  simp only [pll, List.mem_cons, List.mem_nil_iff, or_false] at hu
  rcases hu with rfl | rfl | rfl | rfl | rfl | rfl <;> rfl
theorem info_pair : ∃ i : TypeInfo, Try.prog.info? 51 = some i ∧ i.zero = some (.agg #[.int .i64 0, .int .i16 0, .int .i16 0, .int .i64 0, .int .i16 0, .int .i16 0]) ∧ i.size = 6 ∧ i.bytes = 32 := by
  have hi : (Try.prog.info? 51).map (fun i => (i.zero, i.size, i.bytes)) = some (some (.agg #[.int .i64 0, .int .i16 0, .int .i16 0, .int .i64 0, .int .i16 0, .int .i16 0]), 6, 32) := by kernel_rfl
  obtain ⟨i, h1, h2, h3, h4⟩ := info_parts hi
  exact ⟨i, h1, h2, h3, h4⟩

end Go.Proofs.Ytejbaoakpkpciaa
