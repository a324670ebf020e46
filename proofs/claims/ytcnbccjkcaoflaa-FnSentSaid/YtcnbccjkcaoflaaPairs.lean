/-
  SLICES OF PAIRS THAT GROW; the jams of a road.
-/
import Derived.Test.YtcnbccjkcaoflaaOneCell
import Derived.Test.YtcnbccjkcaoflaaCell2
import Derived.Laws.AppendOwn
import Derived.Great.BuildSlice
namespace Go.Proofs.Ytcnbccjkcaoflaa
open Go Go.RowKit
set_option maxRecDepth 100000

/-- cells of whole numbers -/
def iv (xs : List Nat) : List Value := xs.map fun x : Nat => Value.int .i64 (x : Int)
theorem iv_len (xs : List Nat) : (iv xs).length = xs.length := by simp [iv]
theorem iv_app (xs ys : List Nat) : iv (xs ++ ys) = iv xs ++ iv ys := by simp [iv]
theorem iv_set (xs : List Nat) (j x : Nat) : iv (xs.set j x) = (iv xs).set j (.int .i64 (x : Int)) := by simp [iv, List.map_set]
theorem iv_get {xs : List Nat} {j : Nat} (h : j < xs.length) : (iv xs)[j]? = some (.int .i64 ((nth xs j : Nat) : Int)) := by
  unfold iv nth; rw [List.getElem?_map, List.getElem?_eq_getElem h, List.getD_eq_getElem?_getD, List.getElem?_eq_getElem h]; rfl
/-- v is a slice of n pairs, the numbers xs, in memory from block lo on -/
def Own2 (w : World) (lo : Nat) (v : Value) (n : Nat) (xs : List Nat) : Prop := w.ownsRow lo 41 2 v n (iv xs)
theorem Own2.len {w : World} {lo : Nat} {v : Value} {n : Nat} {xs : List Nat} (h : Own2 w lo v n xs) : xs.length = 2 * n := by have := h.1; rw [iv_len] at this; omega
theorem Own2.nil (w : World) (lo : Nat) : Own2 w lo (.slice none 0 0) 0 [] := ⟨rfl, .inl ⟨rfl, rfl⟩⟩
theorem Own2.step {w w' : World} {lo : Nat} {v : Value} {n : Nat} {xs : List Nat} (h : Own2 w lo v n xs) (hb : Below w.heap.size w w') : Own2 w' lo v n xs := by
  refine ⟨h.1, h.2.imp id ?_⟩
  rintro ⟨g, cap, cur, rfl, h1, h2, h3, h4, h5, h6⟩
  have hl : g < w.heap.size := (Array.getElem?_eq_some_iff.1 h2).1
  exact ⟨g, cap, cur, rfl, h1, (hb.block g hl).trans h2, h3, h4, h5, h6⟩
theorem Own2.low {w : World} {lo lo' : Nat} {v : Value} {n : Nat} {xs : List Nat} (h : Own2 w lo v n xs) (hl : lo' ≤ lo) : Own2 w lo' v n xs := by
  refine ⟨h.1, h.2.imp id ?_⟩
  rintro ⟨g, cap, cur, rfl, h1, h2⟩
  exact ⟨g, cap, cur, rfl, by omega, h2⟩
/-- what is known of a slice that is not empty -/
theorem Own2.at {w : World} {lo : Nat} {v : Value} {n : Nat} {xs : List Nat} (h : Own2 w lo v n xs) (hn : n ≠ 0) : ∃ g cap cur, v = .slice (some ⟨g, 0, none⟩) n cap ∧ lo ≤ g ∧ At w g cur 41 ∧ 2 * n ≤ cur.size ∧ n ≤ cap ∧ (∀ j, j < 2 * n → cur[j]? = some (.int .i64 ((nth xs j : Nat) : Int))) ∧
    ∀ j x, j < 2 * n → Own2 (w.setRow g (cur.setIfInBounds j (.int .i64 ((x : Nat) : Int)))) lo v n (xs.set j x) := by
  have hlen := h.len
  rcases h.2 with ⟨-, h0⟩ | ⟨g, cap, cur, rfl, h1, h2, h3, h4, h5, h6⟩
  · exact absurd h0 hn
  · refine ⟨g, cap, cur, rfl, h1, h2, by omega, h3, fun j hj => ?_, fun j x hj => ⟨by rw [iv_len, List.length_set]; omega, .inr ⟨g, cap, cur.setIfInBounds j (.int .i64 ((x : Nat) : Int)), rfl, h1, (show At w g cur 41 from h2).setRow _, h3, h4, by simp [h5], ?_⟩⟩⟩
    · have e : (iv xs)[j]? = cur[j]? := by
        rw [← h6, List.getElem?_take_of_lt (by omega), Array.getElem?_toList]
      rw [← e]
      exact iv_get (by omega)
    · rw [Array.toList_setIfInBounds, List.take_set, h6, ← iv_set]
theorem Own2.any {w : World} {lo : Nat} {v : Value} {n : Nat} {xs : List Nat} (h : Own2 w lo v n xs) : ∃ a cap, v = .slice a n cap := by
  rcases h.2 with ⟨rfl, rfl⟩ | ⟨g, cap, cur, rfl, -⟩
  · exact ⟨none, 0, rfl⟩
  · exact ⟨_, cap, rfl⟩
theorem Below.grownBy {w w' : World} {r : Option Nat} {B : Nat} (h : w.grownBy w' r) (hB : B ≤ w.heap.size) (hr : ∀ k, r = some k → B ≤ k) : Below B w w' :=
  ⟨h.os, h.tape, h.output, h.size, fun k hk => h.block k (by omega) (fun e => by have := hr k e.symm; omega)⟩
theorem Own2.block {w : World} {lo : Nat} {v : Value} {n : Nat} {xs : List Nat} (h : Own2 w lo v n xs) : ∀ k, v.ownBlock = some k → lo ≤ k := by
  intro k hk
  rcases h.2 with ⟨rfl, -⟩ | ⟨g, cap, cur, rfl, h1, -⟩
  · cases hk
  · have : g = k := by simpa [Value.ownBlock] using hk
    omega
theorem wpList_bslice {P : Program} {w w' : World} {ops : Array Oper} {rest : List Oper} {o : Oper} {a : Act} {Q : Exit → Act → World → Prop} (hg : o.guard = none) (t : TypeId) (len : Nat) (parts : Array (Nat × Operand)) (ho : o.op = .buildSlice t len parts)
    (ps : Array (Nat × Value)) (hps : (parts.map fun (i, x) => (i, a.eval x)) = ps) (v : Value) (hrun : (Instr.buildSlice t len ps).run P w = .ok v w') (h : wpList P ops Q rest (a.put o.dst v) w') : wpList P ops Q (o :: rest) a w := by
  refine wpList_plain hg fun K hK' => ?_
  unfold Oper.wp execOp
  simp only [ho, hps, Sem.run_bind, hrun, Sem.run_pure, Result.andThen_ok]
  exact hK' _ _ h
theorem is_bslice {P : Program} {w : World} {ops : Array Oper} {rest : List Oper} {o : Oper} {a : Act} {Q : Exit → Act → World → Prop} (t : TypeId) (len : Nat) (parts : Array (Nat × Operand)) (_ho : o.op = .buildSlice t len parts) (h : wpList P ops Q (o :: rest) a w) : wpList P ops Q (o :: rest) a w := h
theorem built_two (x y : Int) : Try.prog.built 41 [(0, .int .i64 x), (1, .int .i64 y)] = some #[.int .i64 x, .int .i64 y] := by kernel_rfl
theorem run_pairs (W : World) (x y : Int) : (Instr.buildSlice 36 1 #[(0, .agg #[.int .i64 x, .int .i64 y])]).run Try.prog W = .ok (.slice (some ⟨W.heap.size, 0, none⟩) 1 1) (W.alloc (.cells #[.int .i64 x, .int .i64 y] 41)) := by kernel_rfl
theorem run_none (W : World) : (Instr.buildSlice 36 0 #[]).run Try.prog W = .ok (.slice (some ⟨W.heap.size, 0, none⟩) 0 0) (W.alloc (.cells #[] 41)) := by kernel_rfl
theorem Own2.empty (w : World) : Own2 (w.alloc (.cells #[] 41)) w.heap.size (.slice (some ⟨w.heap.size, 0, none⟩) 0 0) 0 [] :=
  ⟨rfl, .inr ⟨w.heap.size, 0, #[], rfl, Nat.le_refl _, At.new w #[] 41, Nat.le_refl _, by unfold maxLen; omega, rfl, rfl⟩⟩
theorem Own2.emptyAt {w : World} {s lo : Nat} (hs : w.heap.size = s) (hl : lo ≤ s) : Own2 (w.alloc (.cells #[] 41)) lo (.slice (some ⟨s, 0, none⟩) 0 0) 0 [] := by
  subst hs
  exact (Own2.empty w).low hl

/-- the jams of the first k cells: first and last cell of each -/
def jf (best : Nat) (cs : List Nat) : Nat → List Nat
  | 0 => []
  | k + 1 => if nth cs k ≤ best then jf best cs k else if (jf best cs k).length ≠ 0 ∧ nth (jf best cs k) ((jf best cs k).length - 1) + 1 = k then (jf best cs k).set ((jf best cs k).length - 1) k else jf best cs k ++ [k, k]
theorem jf_free {best k : Nat} {cs : List Nat} (h : nth cs k ≤ best) : jf best cs (k + 1) = jf best cs k := by rw [jf, if_pos h]
theorem jf_more {best k : Nat} {cs : List Nat} (h : ¬ nth cs k ≤ best) (h2 : (jf best cs k).length ≠ 0 ∧ nth (jf best cs k) ((jf best cs k).length - 1) + 1 = k) : jf best cs (k + 1) = (jf best cs k).set ((jf best cs k).length - 1) k := by rw [jf, if_neg h, if_pos h2]
theorem jf_new {best k : Nat} {cs : List Nat} (h : ¬ nth cs k ≤ best) (h2 : ¬ ((jf best cs k).length ≠ 0 ∧ nth (jf best cs k) ((jf best cs k).length - 1) + 1 = k)) : jf best cs (k + 1) = jf best cs k ++ [k, k] := by rw [jf, if_neg h, if_neg h2]
theorem best_amt {p b : Nat} (hp : 1015021568 ≤ p ∧ p ≤ 1065353216) (hb : 1015021568 ≤ b ∧ b ≤ 1065353216) : bestW p b ≤ 1065353216 := best_le hp hb

end Go.Proofs.Ytcnbccjkcaoflaa
