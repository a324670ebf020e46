/-
  SEVERAL TEXTS IN ONE.
-/
import Derived.Test.YtejbaoakpkpciaaTl
import Derived.Test.YtejbaoakpkpciaaCell
import Derived.WalkKit

/-
  VALID LISTS OF TALLIES, in whole numbers.
  No Go text in it. Conditions: those of each theorem.
-/
namespace Go.Proofs.Ytejbaoakpkpciaa
open Go

/-- is the tally k one that can stand there -/
def okOne (xs : Ts) (k : Nat) : Bool := ((decide (0 ≤ tn xs k ∧ tn xs k ≤ 65535) && decide (0 ≤ tc xs k)) && (decide (0 ≤ tf xs k) && decide (tf xs k ≤ 1000))) && (decide (k = 0) || decide (tn xs (k - 1) < tn xs k))
def okTk (xs : Ts) : Nat → Bool
  | 0 => true
  | k + 1 => okTk xs k && okOne xs k
/-- is the list valid -/
def okT (xs : Ts) : Bool := decide (xs.length ≤ 96) && okTk xs xs.length
section
variable {xs : Ts} {k : Nat}
theorem okOne_1 (h : ¬ (0 ≤ tn xs k ∧ tn xs k ≤ 65535)) : okOne xs k = false := by unfold okOne; rw [decide_eq_false h]; rfl
theorem okOne_2 (h : ¬ 0 ≤ tc xs k) : okOne xs k = false := by unfold okOne; rw [decide_eq_false h, Bool.and_false]; rfl
theorem okOne_3 (h : ¬ 0 ≤ tf xs k) : okOne xs k = false := by unfold okOne; rw [decide_eq_false h, Bool.false_and, Bool.and_false]; rfl
theorem okOne_4 (h : ¬ tf xs k ≤ 1000) : okOne xs k = false := by unfold okOne; rw [decide_eq_false h, Bool.and_false, Bool.and_false]; rfl
theorem okOne_5 (h0 : 0 < k) (h : ¬ tn xs (k - 1) < tn xs k) : okOne xs k = false := by
  unfold okOne; rw [decide_eq_false h, decide_eq_false (by omega : ¬ k = 0), Bool.or_self, Bool.and_false]
theorem okOne_yes (h1 : 0 ≤ tn xs k ∧ tn xs k ≤ 65535) (h2 : 0 ≤ tc xs k) (h3 : 0 ≤ tf xs k) (h4 : tf xs k ≤ 1000) (h5 : k = 0 ∨ tn xs (k - 1) < tn xs k) : okOne xs k = true := by
  unfold okOne
  rw [decide_eq_true h1, decide_eq_true h2, decide_eq_true h3, decide_eq_true h4, Bool.true_and, Bool.true_and, Bool.true_and]
  rcases h5 with h | h
  · rw [decide_eq_true h, Bool.true_or]
  · rw [decide_eq_true h, Bool.or_true]
theorem okOne_of (h : okOne xs k = true) : (0 ≤ tn xs k ∧ tn xs k ≤ 65535) ∧ 0 ≤ tc xs k ∧ (0 ≤ tf xs k ∧ tf xs k ≤ 1000) ∧ (k = 0 ∨ tn xs (k - 1) < tn xs k) := by
  unfold okOne at h
  simp only [Bool.and_eq_true, Bool.or_eq_true, decide_eq_true_eq] at h
  exact ⟨h.1.1.1, h.1.1.2, h.1.2, h.2⟩
theorem okTk_next (h : okTk xs k = true) (h1 : okOne xs k = true) : okTk xs (k + 1) = true := by
  show (okTk xs k && okOne xs k) = true
  rw [h, h1]; rfl
theorem okTk_no : ∀ {n : Nat}, k < n → okOne xs k = false → okTk xs n = false
  | 0, h, _ => by omega
  | n + 1, h, h1 => by
    show (okTk xs n && okOne xs n) = false
    by_cases c : k = n
    · subst c; rw [h1, Bool.and_false]
    · rw [okTk_no (by omega) h1, Bool.false_and]
theorem okTk_at : ∀ {n : Nat}, okTk xs n = true → k < n → okOne xs k = true
  | 0, _, h => by omega
  | n + 1, h, hk => by
    have h' : (okTk xs n && okOne xs n) = true := h
    rw [Bool.and_eq_true] at h'
    by_cases c : k = n
    · subst c; exact h'.2
    · exact okTk_at h'.1 (by omega)
theorem okT_no (hk : k < xs.length) (h : okOne xs k = false) : okT xs = false := by unfold okT; rw [okTk_no hk h, Bool.and_false]
theorem okT_long (h : ¬ xs.length ≤ 96) : okT xs = false := by unfold okT; rw [decide_eq_false h]; rfl
theorem okT_all (h : okTk xs xs.length = true) : okT xs = decide (xs.length ≤ 96) := by unfold okT; rw [h, Bool.and_true]
theorem okT_yes (hl : xs.length ≤ 96) (h : okTk xs xs.length = true) : okT xs = true := by rw [okT_all h, decide_eq_true hl]
theorem okT_len (h : okT xs = true) : xs.length ≤ 96 := by unfold okT at h; rw [Bool.and_eq_true, decide_eq_true_eq] at h; exact h.1
theorem okT_at (h : okT xs = true) (hk : k < xs.length) : (0 ≤ tn xs k ∧ tn xs k ≤ 65535) ∧ 0 ≤ tc xs k ∧ (0 ≤ tf xs k ∧ tf xs k ≤ 1000) ∧ (k = 0 ∨ tn xs (k - 1) < tn xs k) := by
  unfold okT at h; rw [Bool.and_eq_true] at h; exact okOne_of (okTk_at h.2 hk)
end
end Go.Proofs.Ytejbaoakpkpciaa

/-
  BLOCKS OF CELLS BEHIND A CALL: 'At W g c T': block g of W holds the row c; what calls, draws, new blocks and stores do to it; the walk's arms for whole rows.
  No Go text in it. Conditions: those of each theorem.
-/
namespace Go.Proofs.Ytejbaoakpkpciaa
open Go Go.RowKit

def At (W : World) (g : Nat) (c : Array Value) (T : TypeId) : Prop := W.heap[g]? = some (.cells c T (0, 0))
section
variable {W W' : World} {g : Nat} {c : Array Value} {T : TypeId}
theorem At.lt (h : At W g c T) : g < W.heap.size := by
  rcases Nat.lt_or_ge g W.heap.size with k | k
  · exact k
  · unfold At at h; rw [Array.getElem?_eq_none k] at h; cases h
theorem At.step (h : At W g c T) (hb : Below W.heap.size W W') : At W' g c T := (hb.block _ h.lt).trans h
theorem At.drewN (h : At W g c T) (n : Nat) : At (W.drewN n) g c T := h
theorem At.alloc (h : At W g c T) (o : Obj) : At (W.alloc o) g c T := heap_old h o
theorem At.new (W : World) (c : Array Value) (T : TypeId) : At (W.alloc (.cells c T)) W.heap.size c T := heap_last _ _
theorem At.setRow (h : At W g c T) (c' : Array Value) : At (W.setRow g c') g c' T := heap_setRow _ _ _ _ _ _ h
theorem At.setRow_other (h : At W g c T) {k : Nat} (hk : g ≠ k) (c' : Array Value) : At (W.setRow k c') g c T := (heap_setRow_other _ _ _ _ hk).trans h
theorem At.cell (h : At W g c T) {k : Nat} {v : Value} (hk : c[k]? = some v) : W.cell? ⟨g, k, none⟩ = some v := by rw [cell_of_row _ _ _ _ _ _ h]; exact hk
theorem At.free (h : At W g c T) (k : Nat) : W.frozen? ⟨g, k, none⟩ = false := frozen_of_row _ _ _ _ _ h
end
theorem bthen {w a b : World} (h : Below w.heap.size w a) (k : Below a.heap.size a b) : Below w.heap.size w b := h.trans (k.mono h.size)
theorem bnew {w a : World} (h : Below w.heap.size w a) (o : Obj) : Below w.heap.size w (a.alloc o) := h.alloc h.size o
theorem bdrew {B : Nat} {w a : World} (h : Below B w a) (n : Nat) : Below B w (a.drewN n) := h.trans ⟨rfl, rfl, rfl, Nat.le_refl _, fun _ _ => rfl⟩
theorem b0 (w : World) (o : Obj) : Below w.heap.size w (w.alloc o) := bnew (Below.refl _ _) o

variable {P : Program} {ops : Array Oper} {rest : List Oper} {o : Oper} {a : Act} {w : World} {Q : Exit → Act → World → Prop}
/-- a whole row loaded -/
theorem wpList_load_at (hgd : o.guard = none) (ty : TypeId) (x : Operand) (ho : o.op = .load ty x) (g : Nat) (hx : a.eval x = .pointer (some ⟨g, 0, none⟩)) (c : Array Value) (T : TypeId) (hA : At w g c T) (n : Nat) (hn : c.size = n) (d : TypeDesc)
    (hu : P.underlying ty = some d) (hd : (match d with | .struct _ | .array _ _ => true | _ => false) = true) (hi : (P.info? ty).map (·.size) = some n) (h : wpList P ops Q rest (a.put o.dst (.agg c)) w) : wpList P ops Q (o :: rest) a w :=
  wpList_load_row hgd ty x ho g hx T c (0, 0) d hA hu hd (by rw [hn]; exact hi) h
/-- a part of a row loaded -/
theorem wpList_load_part (hgd : o.guard = none) (ty : TypeId) (x : Operand) (ho : o.op = .load ty x) (g off : Nat) (hx : a.eval x = .pointer (some ⟨g, off, none⟩)) (c : Array Value) (T : TypeId) (hA : At w g c T) (n : Nat) (hn : off + n ≤ c.size) (d : TypeDesc)
    (hu : P.underlying ty = some d) (hd : (match d with | .struct _ | .array _ _ => true | _ => false) = true) (hi : (P.info? ty).map (·.size) = some n) (c' : Array Value) (hc : c.extract off (off + n) = c') (h : wpList P ops Q rest (a.put o.dst (.agg c')) w) : wpList P ops Q (o :: rest) a w :=
  wpList_load_of hgd ty x ho ⟨g, off, none⟩ hx _ (by subst hc; exact run_loadAt_part w g off n ty c T (0, 0) d hA hu hd hi hn) h
/-- a whole row stored: behind it the world is a variable -/
theorem wpList_store_at (hgd : o.guard = none) (ty : TypeId) (x y : Operand) (ho : o.op = .store ty x y) (g : Nat) (hx : a.eval x = .pointer (some ⟨g, 0, none⟩)) (c : Array Value) (hy : a.eval y = .agg c) (old : Array Value) (T : TypeId) (hA : At w g old T) (n : Nat) (hn : c.size = n) (ho' : old.size = n)
    (hi : (P.info? ty).map (·.size) = some n) (h1 : c.all (·.oneCell') = true) (h : wpList P ops Q rest (a.put o.dst undef) (w.setRow g c)) : wpList P ops Q (o :: rest) a w :=
  wpList_store_of hgd ty x y ho ⟨g, 0, none⟩ hx (.agg c) hy _ (by
    have := run_storeAt_part (P := P) w g 0 T ty old c hA (by rw [hn]; exact hi) (by omega) h1
    rwa [splice_all (by omega)] at this) h

/-- a row and a plain value handed back -/
theorem results_at_tmp {fn : Func} {p u : Tmp} {ty : TypeId} (h : fn.results = #[.cell p ty, .tmp u]) (tmps : Array Value) (W : World) (g : Nat) (c : Array Value) (T : TypeId) (v : Value) (hp : tmps.getD p undef = .pointer (some ⟨g, 0, none⟩)) (hv : tmps.getD u undef = v) (hA : At W g c T)
    (d : TypeDesc) (hu : P.underlying ty = some d) (hd : (match d with | .struct _ | .array _ _ => true | _ => false) = true) (n : Nat) (hn : c.size = n) (hi : (P.info? ty).map (·.size) = some n) :
    (results fn tmps).run P W = .ok (.tuple #[.agg c, v]) W := by
  rw [results_cell_tmp h, hp, hv]
  have := run_loadVar_row (P := P) W g T ty c (0, 0) d hA hu hd (by rw [hn]; exact hi)
  simp only [asAddr, Sem.run_pure, Result.andThen_ok, this]
/-- a row handed back -/
theorem results_at {fn : Func} {p : Tmp} {ty : TypeId} (h : fn.results = #[.cell p ty]) (tmps : Array Value) (W : World) (g : Nat) (c : Array Value) (T : TypeId) (hp : tmps.getD p undef = .pointer (some ⟨g, 0, none⟩)) (hA : At W g c T)
    (d : TypeDesc) (hu : P.underlying ty = some d) (hd : (match d with | .struct _ | .array _ _ => true | _ => false) = true) (n : Nat) (hn : c.size = n) (hi : (P.info? ty).map (·.size) = some n) :
    (results fn tmps).run P W = .ok (.agg c) W :=
  results_cell_row h tmps W g T c (0, 0) d hp hA hu hd (by rw [hn]; exact hi)
theorem bset {B : Nat} {w a : World} (h : Below B w a) {g : Nat} (hg : B ≤ g) (c : Array Value) : Below B w (a.setRow g c) := Below.setRow h hg c
end Go.Proofs.Ytejbaoakpkpciaa
