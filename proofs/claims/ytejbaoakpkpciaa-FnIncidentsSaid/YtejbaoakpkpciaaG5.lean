/-
  SEVERAL TEXTS IN ONE.
-/
import Derived.Test.YtejbaoakpkpciaaG1
import Derived.Deep.Quiet
import Derived.Deep.QuietTactic
import Derived.BigQuiet
import Derived.KernelRfl
import Derived.Test.YtejbaoakpkpciaaG2
import Derived.Deep.RegionWith

/-
  A STATEMENT WHOSE ORDER IS OPEN, AND WHOSE CALLS MAKE MEMORY BUT LEAVE WHAT WAS THERE: one walk in the order of the text serves every order.
  No Go text in it. Conditions: those of each theorem.
-/
namespace Go.Proofs.Ytejbaoakpkpciaa
open Go Go.RowKit

/-- the worlds in which nothing has turned of what W holds -/
def Cb (W : World) (w' : World) : Prop := Below W.heap.size W w'
theorem Cb.refl (W : World) : Cb W W := Below.refl _ _
theorem Cb.step {W w1 w2 : World} (h : Cb W w1) (k : Below w1.heap.size w1 w2) : Cb W w2 := bthen h k
theorem Cb.const (W : World) : ∀ p : Prop, (∀ w, Cb W w → p) = p := fun _ => propext ⟨fun h => h W (Cb.refl W), fun h _ _ => h⟩

section
variable {P : Program} {C : World → Prop} {o : Oper} {a : Act} {K : Act → Prop}
theorem q_load (ty : TypeId) (x : Operand) (ho : o.op = .load ty x) (ad : Addr) (hx : a.eval x = .pointer (some ad)) (v : Value) (hrun : ∀ w, C w → (Instr.loadAt ty (.pointer (some ad))).run P w = .ok v w) (hK : K (a.put o.dst v)) : o.quiet P a C K := by
  refine ⟨v, fun w hw => ?_, hK⟩
  unfold Oper.quietAt execOp
  simp only [ho, hx, Sem.run_bind, hrun w hw, Sem.run_pure, Result.andThen_ok]
  exact ⟨rfl, rfl⟩
end

theorem run_load_cell {P : Program} (w : World) (ty : TypeId) (k : FloatKind) (hu : P.underlying ty = some (.float k)) (ad : Addr) (v : Value) (hc : w.cell? ad = some v) : (Instr.loadAt ty (.pointer (some ad))).run P w = .ok v w := by
  have hagg : (isAgg ty).run P w = .ok false w := by
    unfold isAgg
    rw [Sem.run_bind, run_underlying hu w]
    rfl
  simp only [Instr.loadAt, Instr.sureAddr, Sem.run_bind, Sem.run_pure, Result.andThen]
  simp [loadVar, Sem.run_bind, hagg, hc]

section
variable {P : Program} {W : World} {o : Oper} {a : Act} {K : Act → Prop} {g : Nat} {c : Array Value} {T : TypeId}
/-- a narrow float's cell, in whatever world of the class -/
theorem q_cell (ty : TypeId) (x : Operand) (ho : o.op = .load ty x) (kd : FloatKind) (hu : P.underlying ty = some (.float kd)) (k : Nat) (hx : a.eval x = .pointer (some ⟨g, k, none⟩)) (hA : At W g c T) (v : Value) (hk : c[k]? = some v) (hK : K (a.put o.dst v)) : o.quiet P a (Cb W) K :=
  q_load ty x ho _ hx v (fun w hw => run_load_cell w ty kd hu _ v (At.cell (At.step hA hw) hk)) hK
/-- a whole row -/
theorem q_row (ty : TypeId) (x : Operand) (ho : o.op = .load ty x) (hx : a.eval x = .pointer (some ⟨g, 0, none⟩)) (hA : At W g c T) (n : Nat) (hn : c.size = n) (d : TypeDesc)
    (hu : P.underlying ty = some d) (hd : (match d with | .struct _ | .array _ _ => true | _ => false) = true) (hi : (P.info? ty).map (·.size) = some n) (hK : K (a.put o.dst (.agg c))) : o.quiet P a (Cb W) K :=
  q_load ty x ho _ hx (.agg c) (fun w hw => by
    have := run_loadAt_part (P := P) w g 0 n ty c T (0, 0) d (At.step hA hw) hu hd hi (by omega)
    rwa [Nat.zero_add, ← hn, Array.extract_size] at this) hK
end

theorem wp_region_cb {P : Program} {id : Nat} {Q : Exit → Act → World → Prop} {a : Act} {w : World} {l : List Oper} (hm : P.follows .mixedOrders = true) (hB : Region.lexB .any l.toArray = true)
    (h : wpQuiet P l.toArray (Cb w) (fun a' => ∀ w', Cb w w' → Q .normal a' w') l a) : (Code.region id l.toArray true).wp P Q a w :=
  wp_region_quiet (C := Cb w) hm hB ⟨rfl, rfl, rfl, Nat.le_refl _, fun _ _ => rfl⟩ (by simpa using h)
end Go.Proofs.Ytejbaoakpkpciaa

/-
  A part of a row, read in a statement whose order is open.
  No Go text in it. Conditions: those of the theorem.
-/
namespace Go.Proofs.Ytejbaoakpkpciaa
open Go Go.RowKit
theorem q_part {P : Program} {W : World} {o : Oper} {a : Act} {K : Act → Prop} {g : Nat} {c : Array Value} {T : TypeId} (ty : TypeId) (x : Operand) (ho : o.op = .load ty x) (off : Nat) (hx : a.eval x = .pointer (some ⟨g, off, none⟩)) (hA : At W g c T) (n : Nat) (hn : off + n ≤ c.size) (d : TypeDesc)
    (hu : P.underlying ty = some d) (hd : (match d with | .struct _ | .array _ _ => true | _ => false) = true) (hi : (P.info? ty).map (·.size) = some n) (c' : Array Value) (hc : c.extract off (off + n) = c') (hK : K (a.put o.dst (.agg c'))) : o.quiet P a (Cb W) K :=
  q_load ty x ho _ hx (.agg c') (fun w hw => by
    have := run_loadAt_part (P := P) w g off n ty c T (0, 0) d (At.step hA hw) hu hd hi hn
    rw [hc] at this
    exact this) hK
end Go.Proofs.Ytejbaoakpkpciaa

/-
  CONTRACTS: a law's road made the program's.
-/
namespace Go.Proofs.Ytejbaoakpkpciaa
open Go Go.RowKit

/-- what a copy has after k places -/
def cur (ys : List Nat) (k : Nat) : List Nat := ys.take k ++ List.replicate (16 - k) 0

theorem cur_len {ys : List Nat} (h : ys.length = 16) (k : Nat) (hk : k ≤ 16) : (cur ys k).length = 16 := by simp [cur, h]; omega

theorem cur_set {ys : List Nat} (h : ys.length = 16) {k : Nat} (hk : k < 16) : (cur ys k).set k (nth ys k) = cur ys (k + 1) := by
  unfold cur nth
  rw [List.set_append_right _ _ (by simp; omega), List.take_succ_eq_append_getElem (by omega), List.getD_eq_getElem?_getD, List.getElem?_eq_getElem (by omega)]
  rw [show k - (List.take k ys).length = 0 from by simp; omega, show 16 - k = (16 - (k + 1)) + 1 from by omega, List.replicate_succ, List.append_assoc]
  rfl

theorem cur_all {ys : List Nat} (h : ys.length = 16) : cur ys 16 = ys := by simp [cur, ← h]

theorem below_alloc {B : Nat} {a w : World} (h : Below B a w) (hB : B ≤ w.heap.size) (c : Array Value) (t : TypeId) : Below B a (w.alloc (.cells c t)) := h.alloc hB _

theorem below3 (w : World) (A B C : Obj) : Below w.heap.size w (((w.alloc A).alloc B).alloc C) :=
  (((Below.refl _ _).alloc (Nat.le_refl _) _).alloc (by simp) _).alloc (by simp; omega) _

/-- a road in the making -/
def mk3 (cs : List Nat) (p b l : Nat) : Array Value := fl (cs ++ [p, b, l])

theorem mk3_p {cs : List Nat} (h : cs.length = 16) (p b l x : Nat) : (mk3 cs p b l).setIfInBounds 16 (.float .f32 x) = mk3 cs x b l := by
  unfold mk3; rw [fl_set, List.set_append_right _ _ (by omega), h]; rfl

theorem mk3_b {cs : List Nat} (h : cs.length = 16) (p b l x : Nat) : (mk3 cs p b l).setIfInBounds 17 (.float .f32 x) = mk3 cs p x l := by
  unfold mk3; rw [fl_set, List.set_append_right _ _ (by omega), h]; rfl

theorem mk3_l {cs : List Nat} (h : cs.length = 16) (p b l x : Nat) : (mk3 cs p b l).setIfInBounds 18 (.float .f32 x) = mk3 cs p b x := by
  unfold mk3; rw [fl_set, List.set_append_right _ _ (by omega), h]; rfl

theorem mk3_size {cs : List Nat} (h : cs.length = 16) (p b l : Nat) : (mk3 cs p b l).size = 19 := by simp [mk3, fl_size, h]

theorem cell_setRow_other (w : World) (g k j : Nat) (c : Array Value) (h : k ≠ g) : (w.setRow g c).cell? ⟨k, j, none⟩ = w.cell? ⟨k, j, none⟩ := by
  simp only [World.cell?]; rw [heap_setRow_other w g k c h]

theorem three (w : World) (A B C : Obj) : (((w.alloc A).alloc B).alloc C).heap[w.heap.size]? = some A ∧ (((w.alloc A).alloc B).alloc C).heap[w.heap.size + 1]? = some B ∧ (((w.alloc A).alloc B).alloc C).heap[w.heap.size + 1 + 1]? = some C := by
  refine ⟨heap_old (heap_old (heap_last _ _) _) _, heap_old (by have := heap_last (w.alloc A) B; rwa [World.size_alloc] at this) _, by have := heap_last ((w.alloc A).alloc B) C; rwa [World.size_alloc, World.size_alloc] at this⟩

end Go.Proofs.Ytejbaoakpkpciaa
