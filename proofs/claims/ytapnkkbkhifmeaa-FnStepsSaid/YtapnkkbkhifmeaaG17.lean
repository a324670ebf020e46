/-
  SEVERAL TEXTS IN ONE.
-/
import Derived.Test.YtapnkkbkhifmeaaG5
import Derived.Test.YtapnkkbkhifmeaaLawS
import Derived.Test.YtapnkkbkhifmeaaG1
import Derived.Laws.MakeOwn
import Derived.OwnWalk
import Derived.Laws.AppendOwn
import Derived.Great.BuildSlice

/-
  CONTRACTS: slices of floats of one's own (where there are neither tallies nor slots).
-/
namespace Go.Proofs.Ytapnkkbkhifmeaa
open Go Go.ChangeShapes Go.WideShapes Go.ChangeAt Go.RowKit
set_option maxRecDepth 100000

theorem Below.grownBy {w w' : World} {r : Option Nat} {B : Nat} (h : w.grownBy w' r) (hB : B ≤ w.heap.size) (hr : ∀ k, r = some k → B ≤ k) : Below B w w' :=
  ⟨h.os, h.tape, h.output, h.size, fun k hk => h.block k (by omega) (fun e => by have := hr k e.symm; omega)⟩

theorem wpList_bslice {P : Program} {w w' : World} {ops : Array Oper} {rest : List Oper} {o : Oper} {a : Act} {Q : Exit → Act → World → Prop} (hg : o.guard = none) (t : TypeId) (len : Nat) (parts : Array (Nat × Operand)) (ho : o.op = .buildSlice t len parts)
    (ps : Array (Nat × Value)) (hps : (parts.map fun (i, x) => (i, a.eval x)) = ps) (v : Value) (hrun : (Instr.buildSlice t len ps).run P w = .ok v w') (h : wpList P ops Q rest (a.put o.dst v) w') : wpList P ops Q (o :: rest) a w := by
  refine wpList_plain hg fun K hK' => ?_
  unfold Oper.wp execOp
  simp only [ho, hps, Sem.run_bind, hrun, Sem.run_pure, Result.andThen_ok]
  exact hK' _ _ h

theorem is_bslice {P : Program} {w : World} {ops : Array Oper} {rest : List Oper} {o : Oper} {a : Act} {Q : Exit → Act → World → Prop} (t : TypeId) (len : Nat) (parts : Array (Nat × Operand)) (_ho : o.op = .buildSlice t len parts) (h : wpList P ops Q (o :: rest) a w) : wpList P ops Q (o :: rest) a w := h

/-- cells of narrow floats, as a list -/
def fL (ys : List Nat) : List Value := ys.map (Value.float .f32)

theorem fL_length (ys : List Nat) : (fL ys).length = ys.length * 1 := by simp [fL]

theorem fL_app (xs ys : List Nat) : fL (xs ++ ys) = fL xs ++ fL ys := by simp [fL]

theorem fL_at {ys : List Nat} {i : Nat} (h : i < ys.length) : (fL ys)[i]? = some (.float .f32 (nth ys i)) := by
  unfold fL nth; rw [List.getElem?_map, List.getElem?_eq_getElem h, List.getD_eq_getElem?_getD, List.getElem?_eq_getElem h]; rfl

/-- v is a slice of the floats ys, in memory from block lo on -/
def OwnF (w : World) (lo : Nat) (v : Value) (ys : List Nat) : Prop := w.ownsRow lo 24 1 v ys.length (fL ys)
section
variable {w w' : World} {lo : Nat} {v : Value} {ys : List Nat}
theorem OwnF.nil (w : World) (lo : Nat) : OwnF w lo (.slice none 0 0) [] := ⟨rfl, .inl ⟨rfl, rfl⟩⟩

theorem OwnF.step (h : OwnF w lo v ys) (hb : Below w.heap.size w w') : OwnF w' lo v ys := by
  refine ⟨h.1, h.2.imp id ?_⟩
  rintro ⟨g, cap, cur, rfl, h1, h2, h3, h4, h5, h6⟩
  have hl : g < w.heap.size := (Array.getElem?_eq_some_iff.1 h2).1
  exact ⟨g, cap, cur, rfl, h1, (hb.block g hl).trans h2, h3, h4, h5, h6⟩

theorem OwnF.any (h : OwnF w lo v ys) : ∃ a cap, v = .slice a ys.length cap := by
  rcases h.2 with ⟨rfl, e⟩ | ⟨g, cap, cur, rfl, -⟩
  · exact ⟨none, 0, by rw [e]⟩
  · exact ⟨_, cap, rfl⟩

theorem OwnF.block (h : OwnF w lo v ys) : ∀ k, v.ownBlock = some k → lo ≤ k ∧ k < w.heap.size := by
  intro k hk
  rcases h.2 with ⟨rfl, -⟩ | ⟨g, cap, cur, rfl, h1, h2, -⟩
  · cases hk
  · have e : g = k := by simpa [Value.ownBlock] using hk
    have hl : g < w.heap.size := (Array.getElem?_eq_some_iff.1 h2).1
    omega

theorem OwnF.setRow_other (h : OwnF w lo v ys) {g : Nat} (hne : ∀ k, v.ownBlock = some k → k ≠ g) (c : Array Value) : OwnF (w.setRow g c) lo v ys := by
  refine ⟨h.1, h.2.imp id ?_⟩
  rintro ⟨g', cap, cur, rfl, h1, h2, h3, h4, h5, h6⟩
  exact ⟨g', cap, cur, rfl, h1, (heap_setRow_other _ _ _ _ (hne g' rfl)).trans h2, h3, h4, h5, h6⟩

theorem OwnF.of_at {g n : Nat} (h : At w g (fl ys) 24) (hl : lo ≤ g) (hn : ys.length = n) (hm : n ≤ maxLen) : OwnF w lo (.slice (some ⟨g, 0, none⟩) n n) ys := by
  subst hn
  refine ⟨fL_length ys, .inr ⟨g, ys.length, fl ys, rfl, hl, h, Nat.le_refl _, hm, by rw [fl_size, Nat.mul_one], ?_⟩⟩
  show (fL ys).take _ = _
  rw [← fL_length]; exact List.take_length

theorem OwnF.at (h : OwnF w lo v ys) (hn : ys.length ≠ 0) : ∃ g cap cur, v = .slice (some ⟨g, 0, none⟩) ys.length cap ∧ lo ≤ g ∧ At w g cur 24 ∧ ys.length ≤ cap ∧ ys.length ≤ cur.size ∧ ∀ p, p < ys.length → cur[p]? = some (.float .f32 (nth ys p)) := by
  rcases h.2 with ⟨-, h0⟩ | ⟨g, cap, cur, rfl, h1, h2, h3, h4, h5, h6⟩
  · exact absurd h0 hn
  · refine ⟨g, cap, cur, rfl, h1, h2, h3, by omega, fun p hp => ?_⟩
    rw [← fL_at hp, ← h6, List.getElem?_take_of_lt (by omega), Array.getElem?_toList]
end

theorem OwnF.grown {w' : World} {lo : Nat} {v : Value} {ys : List Nat} {x : Nat} (h : w'.ownsRow lo 24 1 v (ys.length + 1) (fL ys ++ [.float .f32 x])) : OwnF w' lo v (ys ++ [x]) := by
  unfold OwnF
  rw [fL_app, List.length_append]
  exact h

theorem run_oneF (W : World) (x : Nat) : (Instr.buildSlice 41 1 #[(0, .float .f32 x)]).run Try.prog W = .ok (.slice (some ⟨W.heap.size, 0, none⟩) 1 1) (W.alloc (.cells #[.float .f32 x] 24)) := by kernel_rfl

theorem run_noF (W : World) : (Instr.buildSlice 41 0 #[]).run Try.prog W = .ok (.slice (some ⟨W.heap.size, 0, none⟩) 0 0) (W.alloc (.cells #[] 24)) := by kernel_rfl

theorem OwnF.empty {w : World} {s lo : Nat} (hs : w.heap.size = s) (hl : lo ≤ s) : OwnF (w.alloc (.cells #[] 24)) lo (.slice (some ⟨s, 0, none⟩) 0 0) [] := by
  subst hs
  exact ⟨rfl, .inr ⟨w.heap.size, 0, #[], rfl, hl, At.new w #[] 24, Nat.le_refl _, by unfold maxLen; omega, rfl, rfl⟩⟩

theorem one_cellsF (w : World) (x : Nat) : ∀ j u, ([Value.float .f32 x] : List Value)[j]? = some u → (w.alloc (.cells #[.float .f32 x] 24)).cell? ((⟨w.heap.size, 0, none⟩ : Addr).add j) = some u := by
  intro j u h
  obtain rfl : j = 0 := by
    rcases Nat.lt_or_ge j 1 with c | c
    · omega
    · rw [List.getElem?_eq_none (by simpa using c)] at h; cases h
  exact (At.new w #[.float .f32 x] 24).cell h

theorem info_float : ∃ i : TypeInfo, Try.prog.info? 24 = some i ∧ i.zero = some (.float .f32 0) ∧ i.size = 1 ∧ i.bytes = 4 := by
  have hi : (Try.prog.info? 24).map (fun i => (i.zero, i.size, i.bytes)) = some (some (.float .f32 0), 1, 4) := by kernel_rfl
  obtain ⟨i, h1, h2, h3, h4⟩ := info_parts hi
  exact ⟨i, h1, h2, h3, h4⟩

/-- a slice of one's own that is not nil lies somewhere, however short -/
theorem OwnF.atN {w : World} {lo : Nat} {v : Value} {ys : List Nat} (h : OwnF w lo v ys) (hn : v ≠ .slice none 0 0) : ∃ g cap cur, v = .slice (some ⟨g, 0, none⟩) ys.length cap ∧ lo ≤ g ∧ At w g cur 24 ∧ ∀ p, p < ys.length → cur[p]? = some (.float .f32 (nth ys p)) := by
  rcases h.2 with ⟨e, -⟩ | ⟨g, cap, cur, rfl, h1, h2, h3, h4, h5, h6⟩
  · exact absurd e hn
  · refine ⟨g, cap, cur, rfl, h1, h2, fun p hp => ?_⟩
    rw [← fL_at hp, ← h6, List.getElem?_take_of_lt (by omega), Array.getElem?_toList]

theorem OwnF.some {w : World} {lo : Nat} {v : Value} {ys : List Nat} (h : OwnF w lo v ys) (hn : ys.length ≠ 0) : v ≠ .slice none 0 0 := by
  obtain ⟨g, cap, cur, rfl, -⟩ := h.at hn
  intro e
  cases e

structure FR (w w' : World) (ys : List Nat) (c : Int) (e : Ending) : Prop where
  ex : ∃ v, e = .returned (.tuple #[v, .int .i64 c]) ∧ OwnF w' w.heap.size v ys
  below : Below w.heap.size w w'

end Go.Proofs.Ytapnkkbkhifmeaa

/-
  A SLICE OF ONE'S OWN THAT GROWS BESIDE ANOTHER ONE: behind an append it lies where it lay, or in a block that was not there.
  No Go text in it. Conditions: those of each theorem.
-/
namespace Go.Proofs.Ytapnkkbkhifmeaa
open Go Go.ChangeShapes Go.WideShapes Go.ChangeAt Go.RowKit
set_option maxRecDepth 100000

theorem append_block {P : Program} {w : World} {base : Nat} {t ty e : TypeId} {i : TypeInfo} {z : Value} {size bytes : Nat} (ht : P.underlying t = some (.slice e)) (hi : P.info? e = some i) (hz : i.zero = some z)
    (hsize : i.size = size) (hby : i.bytes = bytes) {v : Value} {n : Nat} {xs : List Value} (hown : w.ownsRow base e size v n xs) (hv : v ≠ .slice none 0 0)
    {a : Addr} {m c : Nat} {news : List Value} (hl : news.length = m * size) (hnews : ∀ j u, news[j]? = some u → w.cell? (a.add j) = some u) (h1 : ∀ u ∈ news, u.oneCell' = true)
    (h63 : n + m ≤ maxLen) (hbytes : (n + m) * bytes ≤ 140737488355328) {v' : Value} {w' : World}
    (hr : (Builtin.append_ #[t, t] ty #[v, .slice (some a) m c]).run P w = .ok v' w') : v'.ownBlock = v.ownBlock ∨ v'.ownBlock = some w.heap.size := by
  subst hsize
  subst hby
  rcases hown.2 with ⟨e0, -⟩ | ⟨g, cap, cur, rfl, hbg, hg, hnc, hcm, hcs, htake⟩
  · exact absurd e0 hv
  by_cases hroom : n + m ≤ cap
  · have hfit : n * i.size + news.length ≤ cur.size := by rw [hl, hcs, ← Nat.add_mul]; exact Nat.mul_le_mul_right _ hroom
    have hr2 := run_append_room (P := P) w t ty e i ht hi g n cap cur hg a m c news hl hnews h1 hroom hfit
    rw [hr2] at hr
    cases hr
    exact .inl rfl
  · have hr2 := run_append_grow (P := P) w t ty e i z ht hi hz ⟨g, 0, none⟩ n cap xs hown.1 (hown.cells (g := g) rfl) a m c news hl hnews (by omega) (by simp only [maxLen] at h63; omega) (growslice_fits (by omega) hbytes)
    rw [hr2] at hr
    cases hr
    exact .inr rfl

theorem wpList_append_apart {P : Program} {w : World} {ops : Array Oper} {rest : List Oper} {o : Oper} {a : Act} {Q : Exit → Act → World → Prop} (hgd : o.guard = none) (s x : Operand) (t : TypeId)
    (ho : o.op = .call { callee := .builtin .append, args := #[s, x], argTypes := #[t, t] })
    (base : Nat) (e : TypeId) (i : TypeInfo) (z : Value) (size bytes : Nat) (ht : P.underlying t = some (.slice e)) (hi : P.info? e = some i) (hz : i.zero = some z)
    (hsize : i.size = size) (hby : i.bytes = bytes) (hzs : z.cells.size = size) (hsz : 0 < size)
    (v : Value) (n : Nat) (xs : List Value) (hs : a.eval s = v) (hown : w.ownsRow base e size v n xs) (hv : v ≠ .slice none 0 0)
    (ad : Addr) (m c : Nat) (news : List Value) (hx : a.eval x = .slice (some ad) m c) (hl : news.length = m * size) (hnews : ∀ j u, news[j]? = some u → w.cell? (ad.add j) = some u) (h1 : ∀ u ∈ news, u.oneCell' = true)
    (h63 : n + m ≤ maxLen) (hbytes : (n + m) * bytes ≤ 140737488355328) (hbase : base ≤ w.heap.size)
    (h : ∀ v' w', w'.ownsRow base e size v' (n + m) (xs ++ news) → w.grownBy w' v.ownBlock → (v'.ownBlock = v.ownBlock ∨ v'.ownBlock = some w.heap.size) → wpList P ops Q rest (a.put o.dst v') w') : wpList P ops Q (o :: rest) a w := by
  refine wpList_plain hgd fun _ hK => ?_
  obtain ⟨v', w', hr, h2, h3, -⟩ := run_append_own (P := P) w base t o.type e i z size bytes ht hi hz hsize hby hzs hsz v n xs hown ad m c news hl hnews h1 h63 hbytes hbase
  have hb := append_block ht hi hz hsize hby hown hv hl hnews h1 h63 hbytes hr
  unfold Oper.wp execOp
  simp only [ho, resolve, invoke, builtin, Sem.run_bind, Sem.run_pure, Result.andThen_ok, List.map_toArray, List.map_cons, List.map_nil, hs, hx, hr]
  exact hK _ _ (h v' w' h2 h3 hb)

end Go.Proofs.Ytapnkkbkhifmeaa
