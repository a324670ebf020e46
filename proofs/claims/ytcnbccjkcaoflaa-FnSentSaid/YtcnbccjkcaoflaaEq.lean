/-
  CONTRACTS: how a law holds two answers that are one against each other.
-/
import Derived.Test.YtcnbccjkcaoflaaConv
namespace Go.Proofs.Ytcnbccjkcaoflaa
open Go Go.RowKit

theorem order64_zero {x : Nat} (h : x < 4294967296) (hn : nanB x = false) : (FloatKind.f64.format.order (wideB x) 0 == some .eq) = decide (x % 2147483648 = 0) := by
  obtain ⟨R, h1, h2, h3⟩ := wide_form h hn
  rw [h1]
  generalize decide (2147483648 ≤ x) = s
  show (S64.order (S64.word s R) (S64.word false 0) == some .eq) = _
  by_cases c : R = 9218868437227405312
  · subst c
    have hi := read_inf S64 d_bin s
    rw [d_inf] at hi
    obtain ⟨m, i, k1, -, -⟩ := read_fin S64 false (r := 0) (by rw [d_inf]; omega)
    unfold Ieee.Format.order
    rw [hi, k1, decide_eq_false (by omega)]
    cases s <;> rfl
  · rw [order_fin S64 s false (r := R) (q := 0) (by rw [d_inf]; omega) (by rw [d_inf]; omega), rv_zero]
    by_cases z : R = 0
    · rw [decide_eq_true (h3.1 z), z, rv_zero]; cases s <;> rfl
    · rw [decide_eq_false (fun e => z (h3.2 e))]
      have hp := rv_pos (p := S64.fractionBits) (r := R) (by omega)
      have : compare (sg s (rv S64.fractionBits R)) (sg false 0) ≠ .eq := by
        intro e
        have e' := Int.compare_eq_eq.1 e
        cases s <;> simp [sg] at e' <;> omega
      cases hc : compare (sg s (rv S64.fractionBits R)) (sg false 0) <;> simp_all

theorem zero_words {x : Nat} (h : x < 4294967296) (hz : x % 2147483648 = 0) : wideB x = 0 ∨ wideB x = 9223372036854775808 := by
  rcases (by omega : x = 0 ∨ x = 2147483648) with rfl | rfl
  · exact .inl (by decide)
  · exact .inr (by decide)

/-- two blocks behind those of w -/
def Two (w : World) (c1 : Array Value) (t1 : TypeId) (c2 : Array Value) (t2 : TypeId) (wr : World) : Prop :=
  wr.heap[w.heap.size]? = some (.cells c1 t1 (0, 0)) ∧ wr.heap[w.heap.size + 1]? = some (.cells c2 t2 (0, 0)) ∧ Below w.heap.size w wr

theorem Two.mk (w : World) (c1 : Array Value) (t1 : TypeId) (c2 : Array Value) (t2 : TypeId) : Two w c1 t1 c2 t2 ((w.alloc (.cells c1 t1)).alloc (.cells c2 t2)) :=
  ⟨heap_old (heap_last _ _) _, by have := heap_last (w.alloc (.cells c1 t1)) (.cells c2 t2); rwa [World.size_alloc] at this, ((Below.refl _ _).alloc (Nat.le_refl _) _).alloc (by simp) _⟩

theorem Two.drewN {w : World} {c1 : Array Value} {t1 : TypeId} {c2 : Array Value} {t2 : TypeId} {wr : World} (h : Two w c1 t1 c2 t2 wr) (n : Nat) : Two w c1 t1 c2 t2 (wr.drewN n) := ⟨h.1, h.2.1, below_drewN h.2.2 n⟩

theorem Two.cell1 {w : World} {c1 : Array Value} {t1 : TypeId} {c2 : Array Value} {t2 : TypeId} {wr : World} (h : Two w c1 t1 c2 t2 wr) {k : Nat} {v : Value} (hk : c1[k]? = some v) : wr.cell? ⟨w.heap.size, k, none⟩ = some v := by
  rw [cell_of_row _ _ _ _ _ _ h.1]; exact hk

theorem Two.cell2 {w : World} {c1 : Array Value} {t1 : TypeId} {c2 : Array Value} {t2 : TypeId} {wr : World} (h : Two w c1 t1 c2 t2 wr) {k : Nat} {v : Value} (hk : c2[k]? = some v) : wr.cell? ⟨w.heap.size + 1, k, none⟩ = some v := by
  rw [cell_of_row _ _ _ _ _ _ h.2.1]; exact hk

theorem Two.step {w : World} {c1 : Array Value} {t1 : TypeId} {c2 : Array Value} {t2 : TypeId} {wr w1 : World} (h : Two w c1 t1 c2 t2 wr) (hb : Below wr.heap.size wr w1) : Two w c1 t1 c2 t2 w1 := by
  have hlt : w.heap.size + 1 < wr.heap.size := by
    rcases Nat.lt_or_ge (w.heap.size + 1) wr.heap.size with c | c
    · exact c
    · have := h.2.1; rw [Array.getElem?_eq_none c] at this; cases this
  exact ⟨(hb.block _ (by omega)).trans h.1, (hb.block _ hlt).trans h.2.1, h.2.2.trans (hb.mono (by omega))⟩

/-- a valid road has no NaN -/
def goodL (cs : List Nat) (p b l : Nat) : Prop := cs.length = 16 ∧ (∀ x ∈ cs, x < 4294967296 ∧ nanB x = false) ∧ (p < 4294967296 ∧ nanB p = false) ∧ (b < 4294967296 ∧ nanB b = false) ∧ (l < 4294967296 ∧ nanB l = false)

theorem nan_le {x c : Nat} (h : x ≤ c) (hc : c ≤ 2139095040) : x < 4294967296 ∧ nanB x = false := by
  refine ⟨by omega, ?_⟩
  unfold nanB
  simp
  omega

theorem okB_good {cs : List Nat} {p b l : Nat} (hl : cs.length = 16) (h : okB cs p b l = true) : goodL cs p b l := by
  unfold okB paceB lanesB at h
  simp only [Bool.and_eq_true, List.all_eq_true, decide_eq_true_eq] at h
  obtain ⟨⟨⟨h1, h2⟩, h3⟩, h4⟩ := h
  refine ⟨hl, fun x hx => nan_le (c := 1065353216) (by have := h1 x hx; unfold shrB at this; simpa using this) (by omega), nan_le h2.2 (by omega), nan_le h3.2 (by omega), nan_le h4.2 (by omega)⟩

theorem zero_good : goodL (zeros 16) 0 0 0 := ⟨zeros_len 16, fun x hx => by obtain rfl := List.eq_of_mem_replicate hx; decide, by decide, by decide, by decide⟩

end Go.Proofs.Ytcnbccjkcaoflaa
