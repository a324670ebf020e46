/-
  CONTRACTS: slices of tallies of one's own.
-/
import Derived.Test.YtejbaoakpkpciaaToTls
import Derived.Test.YtejbaoakpkpciaaG7
import Derived.Laws.AppendOwn
import Derived.Great.BuildSlice
namespace Go.Proofs.Ytejbaoakpkpciaa
open Go Go.ChangeShapes Go.WideShapes Go.ChangeAt Go.RowKit
set_option maxRecDepth 100000

/-- cells of tallies, as a list -/
def tL (xs : Ts) : List Value := xs.flatMap tll

theorem tL_toC (xs : Ts) : (tL xs).toArray = tC xs := rfl

theorem tL_length (xs : Ts) : (tL xs).length = xs.length * 3 := tL_len xs

theorem tL_app (xs ys : Ts) : tL (xs ++ ys) = tL xs ++ tL ys := by simp [tL]

theorem tL_at {xs : Ts} {i j : Nat} (hi : i < xs.length) (hj : j < 3) : (tL xs)[i * 3 + j]? = (t1 (tn xs i) (tc xs i) (tf xs i))[j]? := by
  have := tC_get (xs := xs) hi hj
  rw [← Array.getElem?_toList] at this
  exact this

/-- v is a slice of the tallies xs, in memory from block lo on -/
def OwnT (w : World) (lo : Nat) (v : Value) (xs : Ts) : Prop := w.ownsRow lo 32 3 v xs.length (tL xs)
section
variable {w w' : World} {lo : Nat} {v : Value} {xs : Ts}
theorem OwnT.nil (w : World) (lo : Nat) : OwnT w lo (.slice none 0 0) [] := ⟨rfl, .inl ⟨rfl, rfl⟩⟩

theorem OwnT.step (h : OwnT w lo v xs) (hb : Below w.heap.size w w') : OwnT w' lo v xs := by
  refine ⟨h.1, h.2.imp id ?_⟩
  rintro ⟨g, cap, cur, rfl, h1, h2, h3, h4, h5, h6⟩
  have hl : g < w.heap.size := (Array.getElem?_eq_some_iff.1 h2).1
  exact ⟨g, cap, cur, rfl, h1, (hb.block g hl).trans h2, h3, h4, h5, h6⟩

theorem OwnT.low {lo' : Nat} (h : OwnT w lo v xs) (hl : lo' ≤ lo) : OwnT w lo' v xs := by
  refine ⟨h.1, h.2.imp id ?_⟩
  rintro ⟨g, cap, cur, rfl, h1, h2⟩
  exact ⟨g, cap, cur, rfl, by omega, h2⟩

theorem OwnT.any (h : OwnT w lo v xs) : ∃ a cap, v = .slice a xs.length cap := by
  rcases h.2 with ⟨rfl, e⟩ | ⟨g, cap, cur, rfl, -⟩
  · exact ⟨none, 0, by rw [e]⟩
  · exact ⟨_, cap, rfl⟩

theorem OwnT.block (h : OwnT w lo v xs) : ∀ k, v.ownBlock = some k → lo ≤ k ∧ k < w.heap.size := by
  intro k hk
  rcases h.2 with ⟨rfl, -⟩ | ⟨g, cap, cur, rfl, h1, h2, -⟩
  · cases hk
  · have e : g = k := by simpa [Value.ownBlock] using hk
    have hl : g < w.heap.size := (Array.getElem?_eq_some_iff.1 h2).1
    omega

theorem OwnT.setRow_other (h : OwnT w lo v xs) {g : Nat} (hne : ∀ k, v.ownBlock = some k → k ≠ g) (c : Array Value) : OwnT (w.setRow g c) lo v xs := by
  refine ⟨h.1, h.2.imp id ?_⟩
  rintro ⟨g', cap, cur, rfl, h1, h2, h3, h4, h5, h6⟩
  exact ⟨g', cap, cur, rfl, h1, (heap_setRow_other _ _ _ _ (hne g' rfl)).trans h2, h3, h4, h5, h6⟩

theorem OwnT.of_at {g : Nat} (h : At w g (tC xs) 32) (hl : lo ≤ g) (hm : xs.length ≤ maxLen) : OwnT w lo (.slice (some ⟨g, 0, none⟩) xs.length xs.length) xs :=
  ⟨tL_length xs, .inr ⟨g, xs.length, tC xs, rfl, hl, h, Nat.le_refl _, hm, tC_size xs, by
    rw [← tL_toC]; show (tL xs).take _ = _; rw [← tL_length]; exact List.take_length⟩⟩

/-- what is known of a slice that is not empty -/
theorem OwnT.at (h : OwnT w lo v xs) (hn : xs.length ≠ 0) : ∃ g cap cur, v = .slice (some ⟨g, 0, none⟩) xs.length cap ∧ lo ≤ g ∧ At w g cur 32 ∧ xs.length ≤ cap ∧ xs.length * 3 ≤ cur.size ∧ ∀ p, p < xs.length * 3 → cur[p]? = (tL xs)[p]? := by
  rcases h.2 with ⟨-, h0⟩ | ⟨g, cap, cur, rfl, h1, h2, h3, h4, h5, h6⟩
  · exact absurd h0 hn
  · refine ⟨g, cap, cur, rfl, h1, h2, h3, by omega, fun p hp => ?_⟩
    rw [← h6, List.getElem?_take_of_lt hp, Array.getElem?_toList]

theorem OwnT.st (h : OwnT w lo v xs) (hW : TW xs) (hm : xs.length ≤ maxLen) : STl w v xs := by
  refine ⟨?_, hW, hm⟩
  by_cases z : xs.length = 0
  · obtain rfl := List.length_eq_zero_iff.1 z
    obtain ⟨a, cap, rfl⟩ := h.any
    exact .inl ⟨rfl, a, cap, rfl⟩
  · obtain ⟨g, cap, cur, rfl, -, hA, -, -, hc⟩ := h.at z
    refine .inr ⟨g, 0, cap, rfl, hA.lt, fun i hi j hj => ?_⟩
    rw [cell_of_row _ _ _ _ _ _ hA, Nat.zero_add, hc _ (by omega), tL_at hi hj]
end

theorem STl.of_at {w : World} {g cap : Nat} {xs : Ts} {T : TypeId} (h : At w g (tC xs) T) (hW : TW xs) (hm : xs.length ≤ maxLen) : STl w (.slice (some ⟨g, 0, none⟩) xs.length cap) xs :=
  ⟨.inr ⟨g, 0, cap, rfl, h.lt, fun i hi j hj => by rw [cell_of_row _ _ _ _ _ _ h, Nat.zero_add, tC_get hi hj]⟩, hW, hm⟩

theorem Below.grownBy {w w' : World} {r : Option Nat} {B : Nat} (h : w.grownBy w' r) (hB : B ≤ w.heap.size) (hr : ∀ k, r = some k → B ≤ k) : Below B w w' :=
  ⟨h.os, h.tape, h.output, h.size, fun k hk => h.block k (by omega) (fun e => by have := hr k e.symm; omega)⟩

theorem wpList_bslice {P : Program} {w w' : World} {ops : Array Oper} {rest : List Oper} {o : Oper} {a : Act} {Q : Exit → Act → World → Prop} (hg : o.guard = none) (t : TypeId) (len : Nat) (parts : Array (Nat × Operand)) (ho : o.op = .buildSlice t len parts)
    (ps : Array (Nat × Value)) (hps : (parts.map fun (i, x) => (i, a.eval x)) = ps) (v : Value) (hrun : (Instr.buildSlice t len ps).run P w = .ok v w') (h : wpList P ops Q rest (a.put o.dst v) w') : wpList P ops Q (o :: rest) a w := by
  refine wpList_plain hg fun K hK' => ?_
  unfold Oper.wp execOp
  simp only [ho, hps, Sem.run_bind, hrun, Sem.run_pure, Result.andThen_ok]
  exact hK' _ _ h

theorem is_bslice {P : Program} {w : World} {ops : Array Oper} {rest : List Oper} {o : Oper} {a : Act} {Q : Exit → Act → World → Prop} (t : TypeId) (len : Nat) (parts : Array (Nat × Operand)) (_ho : o.op = .buildSlice t len parts) (h : wpList P ops Q (o :: rest) a w) : wpList P ops Q (o :: rest) a w := h

theorem run_oneT (W : World) (t c f : Int) : (Instr.buildSlice 24 1 #[(0, .agg (t1 t c f))]).run Try.prog W = .ok (.slice (some ⟨W.heap.size, 0, none⟩) 1 1) (W.alloc (.cells (t1 t c f) 32)) := by kernel_rfl

theorem run_noT (W : World) : (Instr.buildSlice 24 0 #[]).run Try.prog W = .ok (.slice (some ⟨W.heap.size, 0, none⟩) 0 0) (W.alloc (.cells #[] 32)) := by kernel_rfl

theorem OwnT.empty {w : World} {s lo : Nat} (hs : w.heap.size = s) (hl : lo ≤ s) : OwnT (w.alloc (.cells #[] 32)) lo (.slice (some ⟨s, 0, none⟩) 0 0) [] := by
  subst hs
  exact ⟨rfl, .inr ⟨w.heap.size, 0, #[], rfl, hl, At.new w #[] 32, Nat.le_refl _, by unfold maxLen; omega, rfl, rfl⟩⟩

theorem one_cellsT (w : World) (t c f : Int) : ∀ j u, (tll (t, c, f))[j]? = some u → (w.alloc (.cells (t1 t c f) 32)).cell? ((⟨w.heap.size, 0, none⟩ : Addr).add j) = some u := by
  intro j u h
  have hj : j < 3 := by
    rcases Nat.lt_or_ge j 3 with c | c
    · exact c
    · rw [List.getElem?_eq_none (by simpa [tll] using c)] at h; cases h
  have e : (⟨w.heap.size, 0, none⟩ : Addr).add j = ⟨w.heap.size, j, none⟩ := by
    unfold Addr.add
    by_cases z : j = 0
    · subst z; rfl
    · rw [if_neg z]; congr 1; show 0 + j = j; omega
  rw [e]
  refine (At.new w (t1 t c f) 32).cell ?_
  rw [← Array.getElem?_toList]
  exact h

theorem tll_one (s : Int × Int × Int) : ∀ u ∈ tll s, u.oneCell' = true := by
  intro u hu
  simp only [tll, List.mem_cons, List.mem_nil_iff, or_false] at hu
  rcases hu with rfl | rfl | rfl <;> rfl

theorem OwnT.grown {w' : World} {lo : Nat} {v : Value} {xs : Ts} {s : Int × Int × Int} (h : w'.ownsRow lo 32 3 v (xs.length + 1) (tL xs ++ tll s)) : OwnT w' lo v (xs ++ [s]) := by
  unfold OwnT
  rw [tL_app, List.length_append]
  have e : tL [s] = tll s := by simp [tL]
  rw [e]
  exact h

theorem info_tally : ∃ i : TypeInfo, Try.prog.info? 32 = some i ∧ i.zero = some (.agg #[.int .i64 0, .int .i16 0, .int .i16 0]) ∧ i.size = 3 ∧ i.bytes = 16 := by
  have hi : (Try.prog.info? 32).map (fun i => (i.zero, i.size, i.bytes)) = some (some (.agg #[.int .i64 0, .int .i16 0, .int .i16 0]), 3, 16) := by kernel_rfl
  obtain ⟨i, h1, h2, h3, h4⟩ := info_parts hi
  exact ⟨i, h1, h2, h3, h4⟩

/-- what an answer that is a list of tallies and a code is -/
structure TR (w w' : World) (xs : Ts) (c : Int) (e : Ending) : Prop where
  ex : ∃ v, e = .returned (.tuple #[v, .int .i64 c]) ∧ OwnT w' w.heap.size v xs
  below : Below w.heap.size w w'

end Go.Proofs.Ytejbaoakpkpciaa
