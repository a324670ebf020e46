/-
  BLOCKS OF CELLS BEHIND A CALL: 'At W g c T': block g of W holds the row c; what calls, draws, new blocks and stores do to it; the walk's arms for whole rows.
  No Go text in it. Conditions: those of each theorem.
-/
import Derived.Test.YtldchcjnepnjnaaCell
import Derived.WalkKit
namespace Go.Proofs.Ytldchcjnepnjnaa
open Go Go.RowKit

def inB (a b k : Int) : Bool := decide (a ≤ k ∧ k ≤ b)

def At (W : World) (g : Nat) (c : Array Value) (T : TypeId) : Prop := W.heap[g]? = some (.cells c T (0, 0))
section
variable {W W' : World} {g : Nat} {c : Array Value} {T : TypeId}
theorem At.lt (h : At W g c T) : g < W.heap.size := by
  rcases Nat.lt_or_ge g W.heap.size with k | k
  · exact k
  · unfold At at h; rw [Array.getElem?_eq_none k] at h; cases h
theorem At.step (h : At W g c T) (hb : Below W.heap.size W W') : At W' g c T := (hb.block _ h.lt).trans h
theorem At.drewN (h : At W g c T) (n : Nat) : At (W.drewN n) g c T := h
theorem At.alloc (h : At W g c T) (o : Obj) : At (W.alloc o) g c T := heap_old h o
theorem At.new (W : World) (c : Array Value) (T : TypeId) : At (W.alloc (.cells c T)) W.heap.size c T := heap_last _ _
theorem At.setRow (h : At W g c T) (c' : Array Value) : At (W.setRow g c') g c' T := heap_setRow _ _ _ _ _ _ h
theorem At.setRow_other (h : At W g c T) {k : Nat} (hk : g ≠ k) (c' : Array Value) : At (W.setRow k c') g c T := (heap_setRow_other _ _ _ _ hk).trans h
theorem At.cell (h : At W g c T) {k : Nat} {v : Value} (hk : c[k]? = some v) : W.cell? ⟨g, k, none⟩ = some v := by rw [cell_of_row _ _ _ _ _ _ h]; exact hk
theorem At.free (h : At W g c T) (k : Nat) : W.frozen? ⟨g, k, none⟩ = false := frozen_of_row _ _ _ _ _ h
end
theorem bthen {w a b : World} (h : Below w.heap.size w a) (k : Below a.heap.size a b) : Below w.heap.size w b := h.trans (k.mono h.size)
theorem bnew {w a : World} (h : Below w.heap.size w a) (o : Obj) : Below w.heap.size w (a.alloc o) := h.alloc h.size o
theorem bdrew {B : Nat} {w a : World} (h : Below B w a) (n : Nat) : Below B w (a.drewN n) := h.trans ⟨rfl, rfl, rfl, Nat.le_refl _, fun _ _ => rfl⟩
theorem b0 (w : World) (o : Obj) : Below w.heap.size w (w.alloc o) := bnew (Below.refl _ _) o

variable {P : Program} {ops : Array Oper} {rest : List Oper} {o : Oper} {a : Act} {w : World} {Q : Exit → Act → World → Prop}
/-- a whole row loaded -/
theorem wpList_load_at (hgd : o.guard = none) (ty : TypeId) (x : Operand) (ho : o.op = .load ty x) (g : Nat) (hx : a.eval x = .pointer (some ⟨g, 0, none⟩)) (c : Array Value) (T : TypeId) (hA : At w g c T) (n : Nat) (hn : c.size = n) (d : TypeDesc)
    (hu : P.underlying ty = some d) (hd : (match d with | .struct _ | .array _ _ => true | _ => false) = true) (hi : (P.info? ty).map (·.size) = some n) (h : wpList P ops Q rest (a.put o.dst (.agg c)) w) : wpList P ops Q (o :: rest) a w :=
  wpList_load_row hgd ty x ho g hx T c (0, 0) d hA hu hd (by rw [hn]; exact hi) h
/-- a part of a row loaded -/
theorem wpList_load_part (hgd : o.guard = none) (ty : TypeId) (x : Operand) (ho : o.op = .load ty x) (g off : Nat) (hx : a.eval x = .pointer (some ⟨g, off, none⟩)) (c : Array Value) (T : TypeId) (hA : At w g c T) (n : Nat) (hn : off + n ≤ c.size) (d : TypeDesc)
    (hu : P.underlying ty = some d) (hd : (match d with | .struct _ | .array _ _ => true | _ => false) = true) (hi : (P.info? ty).map (·.size) = some n) (c' : Array Value) (hc : c.extract off (off + n) = c') (h : wpList P ops Q rest (a.put o.dst (.agg c')) w) : wpList P ops Q (o :: rest) a w :=
  wpList_load_of hgd ty x ho ⟨g, off, none⟩ hx _ (by subst hc; exact run_loadAt_part w g off n ty c T (0, 0) d hA hu hd hi hn) h
/-- a whole row stored: behind it the world is a variable -/
theorem wpList_store_at (hgd : o.guard = none) (ty : TypeId) (x y : Operand) (ho : o.op = .store ty x y) (g : Nat) (hx : a.eval x = .pointer (some ⟨g, 0, none⟩)) (c : Array Value) (hy : a.eval y = .agg c) (old : Array Value) (T : TypeId) (hA : At w g old T) (n : Nat) (hn : c.size = n) (ho' : old.size = n)
    (hi : (P.info? ty).map (·.size) = some n) (h1 : c.all (·.oneCell') = true) (h : wpList P ops Q rest (a.put o.dst undef) (w.setRow g c)) : wpList P ops Q (o :: rest) a w :=
  wpList_store_of hgd ty x y ho ⟨g, 0, none⟩ hx (.agg c) hy _ (by
    have := run_storeAt_part (P := P) w g 0 T ty old c hA (by rw [hn]; exact hi) (by omega) h1
    rwa [splice_all (by omega)] at this) h

/-- a row and a plain value handed back -/
theorem results_at_tmp {fn : Func} {p u : Tmp} {ty : TypeId} (h : fn.results = #[.cell p ty, .tmp u]) (tmps : Array Value) (W : World) (g : Nat) (c : Array Value) (T : TypeId) (v : Value) (hp : tmps.getD p undef = .pointer (some ⟨g, 0, none⟩)) (hv : tmps.getD u undef = v) (hA : At W g c T)
    (d : TypeDesc) (hu : P.underlying ty = some d) (hd : (match d with | .struct _ | .array _ _ => true | _ => false) = true) (n : Nat) (hn : c.size = n) (hi : (P.info? ty).map (·.size) = some n) :
    (results fn tmps).run P W = .ok (.tuple #[.agg c, v]) W := by
  rw [results_cell_tmp h, hp, hv]
  have := run_loadVar_row (P := P) W g T ty c (0, 0) d hA hu hd (by rw [hn]; exact hi)
  simp only [asAddr, Sem.run_pure, Result.andThen_ok, this]
/-- a row handed back -/
theorem results_at {fn : Func} {p : Tmp} {ty : TypeId} (h : fn.results = #[.cell p ty]) (tmps : Array Value) (W : World) (g : Nat) (c : Array Value) (T : TypeId) (hp : tmps.getD p undef = .pointer (some ⟨g, 0, none⟩)) (hA : At W g c T)
    (d : TypeDesc) (hu : P.underlying ty = some d) (hd : (match d with | .struct _ | .array _ _ => true | _ => false) = true) (n : Nat) (hn : c.size = n) (hi : (P.info? ty).map (·.size) = some n) :
    (results fn tmps).run P W = .ok (.agg c) W :=
  results_cell_row h tmps W g T c (0, 0) d hp hA hu hd (by rw [hn]; exact hi)
theorem bset {B : Nat} {w a : World} (h : Below B w a) {g : Nat} (hg : B ≤ g) (c : Array Value) : Below B w (a.setRow g c) := Below.setRow h hg c
end Go.Proofs.Ytldchcjnepnjnaa
