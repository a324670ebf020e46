/-
  SEVERAL TEXTS IN ONE.
-/
import Derived.Test.YtejbaoakpkpciaaG5
import Derived.Test.YtejbaoakpkpciaaG4

/-
  CONTRACTS: how a law holds two answers that are one against each other.
-/
namespace Go.Proofs.Ytejbaoakpkpciaa
open Go Go.RowKit

theorem order64_zero {x : Nat} (h : x < 4294967296) (hn : nanB x = false) : (FloatKind.f64.format.order (wideB x) 0 == some .eq) = decide (x % 2147483648 = 0) := by
  obtain ⟨R, h1, h2, h3⟩ := wide_form h hn
  rw [h1]
  generalize decide (2147483648 ≤ x) = s
  show (S64.order (S64.word s R) (S64.word false 0) == some .eq) = _
  by_cases c : R = 9218868437227405312
  · subst c
    have hi := read_inf S64 d_bin s
    rw [d_inf] at hi
    obtain ⟨m, i, k1, -, -⟩ := read_fin S64 false (r := 0) (by rw [d_inf]; omega)
    unfold Ieee.Format.order
    rw [hi, k1, decide_eq_false (by omega)]
    cases s <;> rfl
  · rw [order_fin S64 s false (r := R) (q := 0) (by rw [d_inf]; omega) (by rw [d_inf]; omega), rv_zero]
    by_cases z : R = 0
    · rw [decide_eq_true (h3.1 z), z, rv_zero]; cases s <;> rfl
    · rw [decide_eq_false (fun e => z (h3.2 e))]
      have hp := rv_pos (p := S64.fractionBits) (r := R) (by omega)
      have : compare (sg s (rv S64.fractionBits R)) (sg false 0) ≠ .eq := by
        intro e
        have e' := Int.compare_eq_eq.1 e
        cases s <;> simp [sg] at e' <;> omega
      cases hc : compare (sg s (rv S64.fractionBits R)) (sg false 0) <;> simp_all

theorem zero_words {x : Nat} (h : x < 4294967296) (hz : x % 2147483648 = 0) : wideB x = 0 ∨ wideB x = 9223372036854775808 := by
  rcases (by omega : x = 0 ∨ x = 2147483648) with rfl | rfl
  · exact .inl (by decide)
  · exact .inr (by decide)

/-- two blocks behind those of w -/
def Two (w : World) (c1 : Array Value) (t1 : TypeId) (c2 : Array Value) (t2 : TypeId) (wr : World) : Prop :=
  wr.heap[w.heap.size]? = some (.cells c1 t1 (0, 0)) ∧ wr.heap[w.heap.size + 1]? = some (.cells c2 t2 (0, 0)) ∧ Below w.heap.size w wr

theorem Two.mk (w : World) (c1 : Array Value) (t1 : TypeId) (c2 : Array Value) (t2 : TypeId) : Two w c1 t1 c2 t2 ((w.alloc (.cells c1 t1)).alloc (.cells c2 t2)) :=
  ⟨heap_old (heap_last _ _) _, by have := heap_last (w.alloc (.cells c1 t1)) (.cells c2 t2); rwa [World.size_alloc] at this, ((Below.refl _ _).alloc (Nat.le_refl _) _).alloc (by simp) _⟩

theorem Two.drewN {w : World} {c1 : Array Value} {t1 : TypeId} {c2 : Array Value} {t2 : TypeId} {wr : World} (h : Two w c1 t1 c2 t2 wr) (n : Nat) : Two w c1 t1 c2 t2 (wr.drewN n) := ⟨h.1, h.2.1, below_drewN h.2.2 n⟩

theorem Two.cell1 {w : World} {c1 : Array Value} {t1 : TypeId} {c2 : Array Value} {t2 : TypeId} {wr : World} (h : Two w c1 t1 c2 t2 wr) {k : Nat} {v : Value} (hk : c1[k]? = some v) : wr.cell? ⟨w.heap.size, k, none⟩ = some v := by
  rw [cell_of_row _ _ _ _ _ _ h.1]; exact hk

theorem Two.cell2 {w : World} {c1 : Array Value} {t1 : TypeId} {c2 : Array Value} {t2 : TypeId} {wr : World} (h : Two w c1 t1 c2 t2 wr) {k : Nat} {v : Value} (hk : c2[k]? = some v) : wr.cell? ⟨w.heap.size + 1, k, none⟩ = some v := by
  rw [cell_of_row _ _ _ _ _ _ h.2.1]; exact hk

theorem Two.step {w : World} {c1 : Array Value} {t1 : TypeId} {c2 : Array Value} {t2 : TypeId} {wr w1 : World} (h : Two w c1 t1 c2 t2 wr) (hb : Below wr.heap.size wr w1) : Two w c1 t1 c2 t2 w1 := by
  have hlt : w.heap.size + 1 < wr.heap.size := by
    rcases Nat.lt_or_ge (w.heap.size + 1) wr.heap.size with c | c
    · exact c
    · have := h.2.1; rw [Array.getElem?_eq_none c] at this; cases this
  exact ⟨(hb.block _ (by omega)).trans h.1, (hb.block _ hlt).trans h.2.1, h.2.2.trans (hb.mono (by omega))⟩

/-- a valid road has no NaN -/
def goodL (cs : List Nat) (p b l : Nat) : Prop := cs.length = 16 ∧ (∀ x ∈ cs, x < 4294967296 ∧ nanB x = false) ∧ (p < 4294967296 ∧ nanB p = false) ∧ (b < 4294967296 ∧ nanB b = false) ∧ (l < 4294967296 ∧ nanB l = false)

theorem nan_le {x c : Nat} (h : x ≤ c) (hc : c ≤ 2139095040) : x < 4294967296 ∧ nanB x = false := by
  refine ⟨by omega, ?_⟩
  unfold nanB
  simp
  omega

theorem okB_good {cs : List Nat} {p b l : Nat} (hl : cs.length = 16) (h : okB cs p b l = true) : goodL cs p b l := by
  unfold okB paceB lanesB at h
  simp only [Bool.and_eq_true, List.all_eq_true, decide_eq_true_eq] at h
  obtain ⟨⟨⟨h1, h2⟩, h3⟩, h4⟩ := h
  refine ⟨hl, fun x hx => nan_le (c := 1065353216) (by have := h1 x hx; unfold shrB at this; simpa using this) (by omega), nan_le h2.2 (by omega), nan_le h3.2 (by omega), nan_le h4.2 (by omega)⟩

theorem zero_good : goodL (zeros 16) 0 0 0 := ⟨zeros_len 16, fun x hx => by obtain rfl := List.eq_of_mem_replicate hx; decide, by decide, by decide, by decide⟩

end Go.Proofs.Ytejbaoakpkpciaa

/-
  CONTRACTS: rows of four numbers, a law's made the program's, and held against each other.
-/
namespace Go.Proofs.Ytejbaoakpkpciaa
open Go Go.RowKit
set_option maxRecDepth 100000

/-- what a copy of n places has after k places -/
def cpN (n : Nat) (ys : List Nat) (k : Nat) : List Nat := ys.take k ++ List.replicate (n - k) 0
theorem cpN_len {n : Nat} {ys : List Nat} (h : ys.length = n) (k : Nat) (hk : k ≤ n) : (cpN n ys k).length = n := by simp [cpN, h]; omega
theorem cpN_set {n : Nat} {ys : List Nat} (h : ys.length = n) {k : Nat} (hk : k < n) : (cpN n ys k).set k (nth ys k) = cpN n ys (k + 1) := by
  unfold cpN nth
  rw [List.set_append_right _ _ (by simp; omega), List.take_succ_eq_append_getElem (by omega), List.getD_eq_getElem?_getD, List.getElem?_eq_getElem (by omega)]
  rw [show k - (List.take k ys).length = 0 from by simp; omega, show n - k = (n - (k + 1)) + 1 from by omega, List.replicate_succ, List.append_assoc]
  rfl
theorem cpN_all {n : Nat} {ys : List Nat} (h : ys.length = n) : cpN n ys n = ys := by simp [cpN, ← h]

/-- the same number: two NaNs, or one number -/
def Agr (x y : Nat) : Prop := x < 4294967296 ∧ y < 4294967296 ∧ (nanB x = true ∧ nanB y = true ∨ nanB x = false ∧ y = x)

end Go.Proofs.Ytejbaoakpkpciaa

/-
  SUMS OF WHATEVER NUMBERS: what a sum gives, a NaN where there is none; two such sums agree.
  No Go text in it. Conditions: those of each theorem.
-/
namespace Go.Proofs.Ytejbaoakpkpciaa
open Go Go.RowKit

theorem word_num (s : Bool) {q : Nat} (h : q ≤ 2139095040) : S32.word s q < 4294967296 ∧ nanB (S32.word s q) = false := by
  have hs := s_sw
  cases s
  · rw [word_false]; unfold nanB; exact ⟨by omega, decide_eq_false (by omega)⟩
  · rw [word_true, hs]; unfold nanB; exact ⟨by omega, decide_eq_false (by omega)⟩

theorem write_num {d : Ieee.Datum} (h : ∀ s t, d ≠ .nan s t) : S32.write d < 4294967296 ∧ nanB (S32.write d) = false := by
  cases d with
  | number s m i =>
    show S32.nearest s m i < _ ∧ nanB (S32.nearest s m i) = false
    unfold Ieee.Format.nearest
    split
    · exact word_num s (by omega)
    · exact word_num s (Nat.le_trans (Nat.min_le_right _ _) (by rw [s_inf]; exact Nat.le_refl _))
  | infinity s => exact word_num s (by rw [s_inf]; exact Nat.le_refl _)
  | nan s t => exact absurd rfl (h s t)

theorem sum_num {d e f : Ieee.Datum} (h : d.sum e = some f) : ∀ s t, f ≠ .nan s t := by
  intro s t hf
  subst hf
  cases d <;> cases e <;> simp [Ieee.Datum.sum] at h

theorem add_num {x y r : Nat} (h : floatBits .add .f32 x y = some r) : r < 4294967296 ∧ nanB r = false := by
  have h' : S32.add x y = some r := h
  unfold Ieee.Format.add at h'
  cases hs : (S32.read x).sum (S32.read y) with
  | none => rw [hs] at h'; cases h'
  | some f =>
    rw [hs] at h'
    obtain rfl := Option.some.inj h'
    exact write_num (sum_num hs)

theorem read_nanB {x : Nat} (h : x < 4294967296) (c : nanB x = true) : ∃ s t, S32.read x = .nan s t := by
  have hs := split32 h
  have hm : x % 2147483648 < 2147483648 := Nat.mod_lt _ (by omega)
  unfold nanB at c
  generalize decide (2147483648 ≤ x) = s at hs
  generalize x % 2147483648 = r at hs hm c
  subst hs
  exact ⟨_, _, read_nan S32 s_bin s (by rw [s_inf]; simpa using c) (by rw [s_sw]; exact hm)⟩

theorem add_nanL {x y : Nat} (h : x < 4294967296) (c : nanB x = true) : floatBits .add .f32 x y = none := by
  obtain ⟨s, t, e⟩ := read_nanB h c
  show S32.add x y = none
  unfold Ieee.Format.add
  rw [e]
  rfl

/-- z is the sum of x and y (a NaN where there is none) -/
def AddR (x y z : Nat) : Prop := z < 4294967296 ∧ (floatBits .add .f32 x y = some z ∨ floatBits .add .f32 x y = none ∧ nanB z = true)

theorem AddR.agr {x x' y z z' : Nat} (hx : Agr x x') (h : AddR x y z) (h' : AddR x' y z') : Agr z z' := by
  refine ⟨h.1, h'.1, ?_⟩
  rcases hx.2.2 with ⟨n1, n2⟩ | ⟨n1, rfl⟩
  · rcases h.2 with k | ⟨-, k⟩
    · rw [add_nanL hx.1 n1] at k; cases k
    rcases h'.2 with k' | ⟨-, k'⟩
    · rw [add_nanL hx.2.1 n2] at k'; cases k'
    exact .inl ⟨k, k'⟩
  · rcases h.2 with k | ⟨k0, k⟩ <;> rcases h'.2 with k' | ⟨k0', k'⟩
    · rw [k] at k'; exact .inr ⟨(add_num k).2, (Option.some.inj k').symm⟩
    · rw [k] at k0'; cases k0'
    · rw [k'] at k0; cases k0
    · exact .inl ⟨k, k'⟩

theorem run_add_any {P : Program} (t : TypeId) (x y : Nat) (w : World) :
    ∃ z n, (binOp .add t (.float .f32 x) (.float .f32 y)).run P w = .ok (.float .f32 z) (w.drewN n) ∧ AddR x y z := by
  cases h : floatBits .add .f32 x y with
  | some z => exact ⟨z, 0, run_float_arith w .add t .f32 _ _ _ h, (add_num h).1, .inl h⟩
  | none => exact ⟨_, 1, run_arith_nan w .add (.inl rfl) t .f32 x y h, (tapeNan32 w x y).1, .inr ⟨h, (tapeNan32 w x y).2⟩⟩

/-- v is the sum of four numbers, from the first on -/
def Sum4 (a b c d v : Nat) : Prop := ∃ y z, AddR a b y ∧ AddR y c z ∧ AddR z d v
theorem Sum4.agr {a b c d v v' : Nat} (ha : a < 4294967296) (h : Sum4 a b c d v) (h' : Sum4 a b c d v') : Agr v v' := by
  obtain ⟨y, z, h1, h2, h3⟩ := h
  obtain ⟨y', z', k1, k2, k3⟩ := h'
  have e0 : Agr a a := ⟨ha, ha, by cases h : nanB a; exact .inr ⟨rfl, rfl⟩; exact .inl ⟨rfl, rfl⟩⟩
  exact AddR.agr (AddR.agr (AddR.agr e0 h1 k1) h2 k2) h3 k3
end Go.Proofs.Ytejbaoakpkpciaa
