/-
  SEVERAL TEXTS IN ONE.
-/
import Derived.Test.YtlpbehokcogcpaaG3
import Derived.Test.YtlpbehokcogcpaaOwnSl

/-
  CONTRACTS: what lies apart stays.
-/
namespace Go.Proofs.Ytlpbehokcogcpaa
open Go Go.ChangeShapes Go.WideShapes Go.ChangeAt Go.RowKit Go.Deep
set_option maxRecDepth 100000

theorem At.keepF {w w' : World} {g : Nat} {c : Array Value} {T : TypeId} {r : Option Nat} (h : At w g c T) (hg : w.grownBy w' r) (hne : ∀ q, r = some q → q ≠ g) : At w' g c T :=
  (hg.block g h.lt (fun e => hne g e.symm rfl)).trans h

end Go.Proofs.Ytlpbehokcogcpaa

/-
  CONTRACTS: slices of floats of one's own (where there are no tallies).
-/
namespace Go.Proofs.Ytlpbehokcogcpaa
open Go Go.ChangeShapes Go.WideShapes Go.ChangeAt Go.RowKit Go.Deep
set_option maxRecDepth 100000

theorem Below.grownBy {w w' : World} {r : Option Nat} {B : Nat} (h : w.grownBy w' r) (hB : B ≤ w.heap.size) (hr : ∀ k, r = some k → B ≤ k) : Below B w w' :=
  ⟨h.os, h.tape, h.output, h.size, fun k hk => h.block k (by omega) (fun e => by have := hr k e.symm; omega)⟩

theorem wpList_bslice {P : Program} {w w' : World} {ops : Array Oper} {rest : List Oper} {o : Oper} {a : Act} {Q : Exit → Act → World → Prop} (hg : o.guard = none) (t : TypeId) (len : Nat) (parts : Array (Nat × Operand)) (ho : o.op = .buildSlice t len parts)
    (ps : Array (Nat × Value)) (hps : (parts.map fun (i, x) => (i, a.eval x)) = ps) (v : Value) (hrun : (Instr.buildSlice t len ps).run P w = .ok v w') (h : wpList P ops Q rest (a.put o.dst v) w') : wpList P ops Q (o :: rest) a w := by
  refine wpList_plain hg fun K hK' => ?_
  unfold Oper.wp execOp
  simp only [ho, hps, Sem.run_bind, hrun, Sem.run_pure, Result.andThen_ok]
  exact hK' _ _ h

theorem is_bslice {P : Program} {w : World} {ops : Array Oper} {rest : List Oper} {o : Oper} {a : Act} {Q : Exit → Act → World → Prop} (t : TypeId) (len : Nat) (parts : Array (Nat × Operand)) (_ho : o.op = .buildSlice t len parts) (h : wpList P ops Q (o :: rest) a w) : wpList P ops Q (o :: rest) a w := h

/-- cells of narrow floats, as a list -/
def fL (ys : List Nat) : List Value := ys.map (Value.float .f32)

theorem fL_length (ys : List Nat) : (fL ys).length = ys.length * 1 := by simp [fL]

theorem fL_app (xs ys : List Nat) : fL (xs ++ ys) = fL xs ++ fL ys := by simp [fL]

theorem fL_at {ys : List Nat} {i : Nat} (h : i < ys.length) : (fL ys)[i]? = some (.float .f32 (nth ys i)) := by
  unfold fL nth; rw [List.getElem?_map, List.getElem?_eq_getElem h, List.getD_eq_getElem?_getD, List.getElem?_eq_getElem h]; rfl

/-- v is a slice of the floats ys, in memory from block lo on -/
def OwnF (w : World) (lo : Nat) (v : Value) (ys : List Nat) : Prop := w.ownsRow lo 23 1 v ys.length (fL ys)
section
variable {w w' : World} {lo : Nat} {v : Value} {ys : List Nat}
theorem OwnF.nil (w : World) (lo : Nat) : OwnF w lo (.slice none 0 0) [] := ⟨rfl, .inl ⟨rfl, rfl⟩⟩

theorem OwnF.step (h : OwnF w lo v ys) (hb : Below w.heap.size w w') : OwnF w' lo v ys := by
  refine ⟨h.1, h.2.imp id ?_⟩
  rintro ⟨g, cap, cur, rfl, h1, h2, h3, h4, h5, h6⟩
  have hl : g < w.heap.size := (Array.getElem?_eq_some_iff.1 h2).1
  exact ⟨g, cap, cur, rfl, h1, (hb.block g hl).trans h2, h3, h4, h5, h6⟩

theorem OwnF.any (h : OwnF w lo v ys) : ∃ a cap, v = .slice a ys.length cap := by
  rcases h.2 with ⟨rfl, e⟩ | ⟨g, cap, cur, rfl, -⟩
  · exact ⟨none, 0, by rw [e]⟩
  · exact ⟨_, cap, rfl⟩

theorem OwnF.block (h : OwnF w lo v ys) : ∀ k, v.ownBlock = some k → lo ≤ k ∧ k < w.heap.size := by
  intro k hk
  rcases h.2 with ⟨rfl, -⟩ | ⟨g, cap, cur, rfl, h1, h2, -⟩
  · cases hk
  · have e : g = k := by simpa [Value.ownBlock] using hk
    have hl : g < w.heap.size := (Array.getElem?_eq_some_iff.1 h2).1
    omega

theorem OwnF.setRow_other (h : OwnF w lo v ys) {g : Nat} (hne : ∀ k, v.ownBlock = some k → k ≠ g) (c : Array Value) : OwnF (w.setRow g c) lo v ys := by
  refine ⟨h.1, h.2.imp id ?_⟩
  rintro ⟨g', cap, cur, rfl, h1, h2, h3, h4, h5, h6⟩
  exact ⟨g', cap, cur, rfl, h1, (heap_setRow_other _ _ _ _ (hne g' rfl)).trans h2, h3, h4, h5, h6⟩

theorem OwnF.of_at {g n : Nat} (h : At w g (fl ys) 23) (hl : lo ≤ g) (hn : ys.length = n) (hm : n ≤ maxLen) : OwnF w lo (.slice (some ⟨g, 0, none⟩) n n) ys := by
  subst hn
  refine ⟨fL_length ys, .inr ⟨g, ys.length, fl ys, rfl, hl, h, Nat.le_refl _, hm, by rw [fl_size, Nat.mul_one], ?_⟩⟩
  show (fL ys).take _ = _
  rw [← fL_length]; exact List.take_length

theorem OwnF.at (h : OwnF w lo v ys) (hn : ys.length ≠ 0) : ∃ g cap cur, v = .slice (some ⟨g, 0, none⟩) ys.length cap ∧ lo ≤ g ∧ At w g cur 23 ∧ ys.length ≤ cap ∧ ys.length ≤ cur.size ∧ ∀ p, p < ys.length → cur[p]? = some (.float .f32 (nth ys p)) := by
  rcases h.2 with ⟨-, h0⟩ | ⟨g, cap, cur, rfl, h1, h2, h3, h4, h5, h6⟩
  · exact absurd h0 hn
  · refine ⟨g, cap, cur, rfl, h1, h2, h3, by omega, fun p hp => ?_⟩
    rw [← fL_at hp, ← h6, List.getElem?_take_of_lt (by omega), Array.getElem?_toList]
end

theorem OwnF.grown {w' : World} {lo : Nat} {v : Value} {ys : List Nat} {x : Nat} (h : w'.ownsRow lo 23 1 v (ys.length + 1) (fL ys ++ [.float .f32 x])) : OwnF w' lo v (ys ++ [x]) := by
  unfold OwnF
  rw [fL_app, List.length_append]
  exact h

theorem run_oneF (W : World) (x : Nat) : (Instr.buildSlice 47 1 #[(0, .float .f32 x)]).run Try.prog W = .ok (.slice (some ⟨W.heap.size, 0, none⟩) 1 1) (W.alloc (.cells #[.float .f32 x] 23)) := by kernel_rfl

theorem run_noF (W : World) : (Instr.buildSlice 47 0 #[]).run Try.prog W = .ok (.slice (some ⟨W.heap.size, 0, none⟩) 0 0) (W.alloc (.cells #[] 23)) := by kernel_rfl

theorem OwnF.empty {w : World} {s lo : Nat} (hs : w.heap.size = s) (hl : lo ≤ s) : OwnF (w.alloc (.cells #[] 23)) lo (.slice (some ⟨s, 0, none⟩) 0 0) [] := by
  subst hs
  exact ⟨rfl, .inr ⟨w.heap.size, 0, #[], rfl, hl, At.new w #[] 23, Nat.le_refl _, by unfold maxLen; omega, rfl, rfl⟩⟩

theorem one_cellsF (w : World) (x : Nat) : ∀ j u, ([Value.float .f32 x] : List Value)[j]? = some u → (w.alloc (.cells #[.float .f32 x] 23)).cell? ((⟨w.heap.size, 0, none⟩ : Addr).add j) = some u := by
  intro j u h
  obtain rfl : j = 0 := by
    rcases Nat.lt_or_ge j 1 with c | c
    · omega
    · rw [List.getElem?_eq_none (by simpa using c)] at h; cases h
  exact (At.new w #[.float .f32 x] 23).cell h

theorem info_float : ∃ i : TypeInfo, Try.prog.info? 23 = some i ∧ i.zero = some (.float .f32 0) ∧ i.size = 1 ∧ i.bytes = 4 := by
  have hi : (Try.prog.info? 23).map (fun i => (i.zero, i.size, i.bytes)) = some (some (.float .f32 0), 1, 4) := by kernel_rfl
  obtain ⟨i, h1, h2, h3, h4⟩ := info_parts hi
  exact ⟨i, h1, h2, h3, h4⟩

structure FR (w w' : World) (ys : List Nat) (c : Int) (e : Ending) : Prop where
  ex : ∃ v, e = .returned (.tuple #[v, .int .i64 c]) ∧ OwnF w' w.heap.size v ys
  below : Below w.heap.size w w'

end Go.Proofs.Ytlpbehokcogcpaa
