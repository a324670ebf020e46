/-
  SEVERAL TEXTS IN ONE.
-/
import Derived.Test.YtldchcjnepnjnaaG1
import Derived.Deep.RegionWith

/-
  CONTRACTS: a law's road made the program's.
-/
namespace Go.Proofs.Ytldchcjnepnjnaa
open Go Go.RowKit

/-- what a copy has after k places -/
def cur (ys : List Nat) (k : Nat) : List Nat := ys.take k ++ List.replicate (16 - k) 0

theorem cur_len {ys : List Nat} (h : ys.length = 16) (k : Nat) (hk : k ≤ 16) : (cur ys k).length = 16 := by simp [cur, h]; omega

theorem cur_set {ys : List Nat} (h : ys.length = 16) {k : Nat} (hk : k < 16) : (cur ys k).set k (nth ys k) = cur ys (k + 1) := by
  unfold cur nth
  rw [List.set_append_right _ _ (by simp; omega), List.take_succ_eq_append_getElem (by omega), List.getD_eq_getElem?_getD, List.getElem?_eq_getElem (by omega)]
  rw [show k - (List.take k ys).length = 0 from by simp; omega, show 16 - k = (16 - (k + 1)) + 1 from by omega, List.replicate_succ, List.append_assoc]
  rfl

theorem cur_all {ys : List Nat} (h : ys.length = 16) : cur ys 16 = ys := by simp [cur, ← h]

theorem below_alloc {B : Nat} {a w : World} (h : Below B a w) (hB : B ≤ w.heap.size) (c : Array Value) (t : TypeId) : Below B a (w.alloc (.cells c t)) := h.alloc hB _

theorem below3 (w : World) (A B C : Obj) : Below w.heap.size w (((w.alloc A).alloc B).alloc C) :=
  (((Below.refl _ _).alloc (Nat.le_refl _) _).alloc (by simp) _).alloc (by simp; omega) _

/-- a road in the making -/
def mk3 (cs : List Nat) (p b l : Nat) : Array Value := fl (cs ++ [p, b, l])

theorem mk3_p {cs : List Nat} (h : cs.length = 16) (p b l x : Nat) : (mk3 cs p b l).setIfInBounds 16 (.float .f32 x) = mk3 cs x b l := by
  unfold mk3; rw [fl_set, List.set_append_right _ _ (by omega), h]; rfl

theorem mk3_b {cs : List Nat} (h : cs.length = 16) (p b l x : Nat) : (mk3 cs p b l).setIfInBounds 17 (.float .f32 x) = mk3 cs p x l := by
  unfold mk3; rw [fl_set, List.set_append_right _ _ (by omega), h]; rfl

theorem mk3_l {cs : List Nat} (h : cs.length = 16) (p b l x : Nat) : (mk3 cs p b l).setIfInBounds 18 (.float .f32 x) = mk3 cs p b x := by
  unfold mk3; rw [fl_set, List.set_append_right _ _ (by omega), h]; rfl

theorem mk3_size {cs : List Nat} (h : cs.length = 16) (p b l : Nat) : (mk3 cs p b l).size = 19 := by simp [mk3, fl_size, h]

theorem cell_setRow_other (w : World) (g k j : Nat) (c : Array Value) (h : k ≠ g) : (w.setRow g c).cell? ⟨k, j, none⟩ = w.cell? ⟨k, j, none⟩ := by
  simp only [World.cell?]; rw [heap_setRow_other w g k c h]

theorem three (w : World) (A B C : Obj) : (((w.alloc A).alloc B).alloc C).heap[w.heap.size]? = some A ∧ (((w.alloc A).alloc B).alloc C).heap[w.heap.size + 1]? = some B ∧ (((w.alloc A).alloc B).alloc C).heap[w.heap.size + 1 + 1]? = some C := by
  refine ⟨heap_old (heap_old (heap_last _ _) _) _, heap_old (by have := heap_last (w.alloc A) B; rwa [World.size_alloc] at this) _, by have := heap_last ((w.alloc A).alloc B) C; rwa [World.size_alloc, World.size_alloc] at this⟩

end Go.Proofs.Ytldchcjnepnjnaa

/-
  CONTRACTS: how a law holds two answers that are one against each other.
-/
namespace Go.Proofs.Ytldchcjnepnjnaa
open Go Go.RowKit

theorem order64_zero {x : Nat} (h : x < 4294967296) (hn : nanB x = false) : (FloatKind.f64.format.order (wideB x) 0 == some .eq) = decide (x % 2147483648 = 0) := by
  obtain ⟨R, h1, h2, h3⟩ := wide_form h hn
  rw [h1]
  generalize decide (2147483648 ≤ x) = s
  show (S64.order (S64.word s R) (S64.word false 0) == some .eq) = _
  by_cases c : R = 9218868437227405312
  · subst c
    have hi := read_inf S64 d_bin s
    rw [d_inf] at hi
    obtain ⟨m, i, k1, -, -⟩ := read_fin S64 false (r := 0) (by rw [d_inf]; omega)
    unfold Ieee.Format.order
    rw [hi, k1, decide_eq_false (by omega)]
    cases s <;> rfl
  · rw [order_fin S64 s false (r := R) (q := 0) (by rw [d_inf]; omega) (by rw [d_inf]; omega), rv_zero]
    by_cases z : R = 0
    · rw [decide_eq_true (h3.1 z), z, rv_zero]; cases s <;> rfl
    · rw [decide_eq_false (fun e => z (h3.2 e))]
      have hp := rv_pos (p := S64.fractionBits) (r := R) (by omega)
      have : compare (sg s (rv S64.fractionBits R)) (sg false 0) ≠ .eq := by
        intro e
        have e' := Int.compare_eq_eq.1 e
        cases s <;> simp [sg] at e' <;> omega
      cases hc : compare (sg s (rv S64.fractionBits R)) (sg false 0) <;> simp_all

theorem zero_words {x : Nat} (h : x < 4294967296) (hz : x % 2147483648 = 0) : wideB x = 0 ∨ wideB x = 9223372036854775808 := by
  rcases (by omega : x = 0 ∨ x = 2147483648) with rfl | rfl
  · exact .inl (by decide)
  · exact .inr (by decide)

/-- two blocks behind those of w -/
def Two (w : World) (c1 : Array Value) (t1 : TypeId) (c2 : Array Value) (t2 : TypeId) (wr : World) : Prop :=
  wr.heap[w.heap.size]? = some (.cells c1 t1 (0, 0)) ∧ wr.heap[w.heap.size + 1]? = some (.cells c2 t2 (0, 0)) ∧ Below w.heap.size w wr

theorem Two.mk (w : World) (c1 : Array Value) (t1 : TypeId) (c2 : Array Value) (t2 : TypeId) : Two w c1 t1 c2 t2 ((w.alloc (.cells c1 t1)).alloc (.cells c2 t2)) :=
  ⟨heap_old (heap_last _ _) _, by have := heap_last (w.alloc (.cells c1 t1)) (.cells c2 t2); rwa [World.size_alloc] at this, ((Below.refl _ _).alloc (Nat.le_refl _) _).alloc (by simp) _⟩

theorem Two.drewN {w : World} {c1 : Array Value} {t1 : TypeId} {c2 : Array Value} {t2 : TypeId} {wr : World} (h : Two w c1 t1 c2 t2 wr) (n : Nat) : Two w c1 t1 c2 t2 (wr.drewN n) := ⟨h.1, h.2.1, below_drewN h.2.2 n⟩

theorem Two.cell1 {w : World} {c1 : Array Value} {t1 : TypeId} {c2 : Array Value} {t2 : TypeId} {wr : World} (h : Two w c1 t1 c2 t2 wr) {k : Nat} {v : Value} (hk : c1[k]? = some v) : wr.cell? ⟨w.heap.size, k, none⟩ = some v := by
  rw [cell_of_row _ _ _ _ _ _ h.1]; exact hk

theorem Two.cell2 {w : World} {c1 : Array Value} {t1 : TypeId} {c2 : Array Value} {t2 : TypeId} {wr : World} (h : Two w c1 t1 c2 t2 wr) {k : Nat} {v : Value} (hk : c2[k]? = some v) : wr.cell? ⟨w.heap.size + 1, k, none⟩ = some v := by
  rw [cell_of_row _ _ _ _ _ _ h.2.1]; exact hk

theorem Two.step {w : World} {c1 : Array Value} {t1 : TypeId} {c2 : Array Value} {t2 : TypeId} {wr w1 : World} (h : Two w c1 t1 c2 t2 wr) (hb : Below wr.heap.size wr w1) : Two w c1 t1 c2 t2 w1 := by
  have hlt : w.heap.size + 1 < wr.heap.size := by
    rcases Nat.lt_or_ge (w.heap.size + 1) wr.heap.size with c | c
    · exact c
    · have := h.2.1; rw [Array.getElem?_eq_none c] at this; cases this
  exact ⟨(hb.block _ (by omega)).trans h.1, (hb.block _ hlt).trans h.2.1, h.2.2.trans (hb.mono (by omega))⟩

/-- a valid road has no NaN -/
def goodL (cs : List Nat) (p b l : Nat) : Prop := cs.length = 16 ∧ (∀ x ∈ cs, x < 4294967296 ∧ nanB x = false) ∧ (p < 4294967296 ∧ nanB p = false) ∧ (b < 4294967296 ∧ nanB b = false) ∧ (l < 4294967296 ∧ nanB l = false)

theorem nan_le {x c : Nat} (h : x ≤ c) (hc : c ≤ 2139095040) : x < 4294967296 ∧ nanB x = false := by
  refine ⟨by omega, ?_⟩
  unfold nanB
  simp
  omega

theorem okB_good {cs : List Nat} {p b l : Nat} (hl : cs.length = 16) (h : okB cs p b l = true) : goodL cs p b l := by
  unfold okB paceB lanesB at h
  simp only [Bool.and_eq_true, List.all_eq_true, decide_eq_true_eq] at h
  obtain ⟨⟨⟨h1, h2⟩, h3⟩, h4⟩ := h
  refine ⟨hl, fun x hx => nan_le (c := 1065353216) (by have := h1 x hx; unfold shrB at this; simpa using this) (by omega), nan_le h2.2 (by omega), nan_le h3.2 (by omega), nan_le h4.2 (by omega)⟩

theorem zero_good : goodL (zeros 16) 0 0 0 := ⟨zeros_len 16, fun x hx => by obtain rfl := List.eq_of_mem_replicate hx; decide, by decide, by decide, by decide⟩

end Go.Proofs.Ytldchcjnepnjnaa
