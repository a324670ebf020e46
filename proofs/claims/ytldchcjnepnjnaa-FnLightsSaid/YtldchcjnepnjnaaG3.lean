/-
  SEVERAL TEXTS IN ONE.
-/
import Derived.Test.YtldchcjnepnjnaaAt
import Derived.Deep.Quiet
import Derived.Deep.QuietTactic
import Derived.BigQuiet
import Derived.KernelRfl
import Derived.Test.YtldchcjnepnjnaaG2
import Derived.Test.YtldchcjnepnjnaaMix

/-
  A STATEMENT WHOSE ORDER IS OPEN, AND WHOSE CALLS MAKE MEMORY BUT LEAVE WHAT WAS THERE: one walk in the order of the text serves every order.
  No Go text in it. Conditions: those of each theorem.
-/
namespace Go.Proofs.Ytldchcjnepnjnaa
open Go Go.RowKit

/-- the worlds in which nothing has turned of what W holds -/
def Cb (W : World) (w' : World) : Prop := Below W.heap.size W w'
theorem Cb.refl (W : World) : Cb W W := Below.refl _ _
theorem Cb.step {W w1 w2 : World} (h : Cb W w1) (k : Below w1.heap.size w1 w2) : Cb W w2 := bthen h k
theorem Cb.const (W : World) : ∀ p : Prop, (∀ w, Cb W w → p) = p := fun _ => propext ⟨fun h => h W (Cb.refl W), fun h _ _ => h⟩

section
variable {P : Program} {C : World → Prop} {o : Oper} {a : Act} {K : Act → Prop}
theorem q_load (ty : TypeId) (x : Operand) (ho : o.op = .load ty x) (ad : Addr) (hx : a.eval x = .pointer (some ad)) (v : Value) (hrun : ∀ w, C w → (Instr.loadAt ty (.pointer (some ad))).run P w = .ok v w) (hK : K (a.put o.dst v)) : o.quiet P a C K := by
  refine ⟨v, fun w hw => ?_, hK⟩
  unfold Oper.quietAt execOp
  simp only [ho, hx, Sem.run_bind, hrun w hw, Sem.run_pure, Result.andThen_ok]
  exact ⟨rfl, rfl⟩
end

theorem run_load_cell {P : Program} (w : World) (ty : TypeId) (k : FloatKind) (hu : P.underlying ty = some (.float k)) (ad : Addr) (v : Value) (hc : w.cell? ad = some v) : (Instr.loadAt ty (.pointer (some ad))).run P w = .ok v w := by
  have hagg : (isAgg ty).run P w = .ok false w := by
    unfold isAgg
    rw [Sem.run_bind, run_underlying hu w]
    rfl
  simp only [Instr.loadAt, Instr.sureAddr, Sem.run_bind, Sem.run_pure, Result.andThen]
  simp [loadVar, Sem.run_bind, hagg, hc]

section
variable {P : Program} {W : World} {o : Oper} {a : Act} {K : Act → Prop} {g : Nat} {c : Array Value} {T : TypeId}
/-- a narrow float's cell, in whatever world of the class -/
theorem q_cell (ty : TypeId) (x : Operand) (ho : o.op = .load ty x) (kd : FloatKind) (hu : P.underlying ty = some (.float kd)) (k : Nat) (hx : a.eval x = .pointer (some ⟨g, k, none⟩)) (hA : At W g c T) (v : Value) (hk : c[k]? = some v) (hK : K (a.put o.dst v)) : o.quiet P a (Cb W) K :=
  q_load ty x ho _ hx v (fun w hw => run_load_cell w ty kd hu _ v (At.cell (At.step hA hw) hk)) hK
/-- a whole row -/
theorem q_row (ty : TypeId) (x : Operand) (ho : o.op = .load ty x) (hx : a.eval x = .pointer (some ⟨g, 0, none⟩)) (hA : At W g c T) (n : Nat) (hn : c.size = n) (d : TypeDesc)
    (hu : P.underlying ty = some d) (hd : (match d with | .struct _ | .array _ _ => true | _ => false) = true) (hi : (P.info? ty).map (·.size) = some n) (hK : K (a.put o.dst (.agg c))) : o.quiet P a (Cb W) K :=
  q_load ty x ho _ hx (.agg c) (fun w hw => by
    have := run_loadAt_part (P := P) w g 0 n ty c T (0, 0) d (At.step hA hw) hu hd hi (by omega)
    rwa [Nat.zero_add, ← hn, Array.extract_size] at this) hK
end

theorem wp_region_cb {P : Program} {id : Nat} {Q : Exit → Act → World → Prop} {a : Act} {w : World} {l : List Oper} (hm : P.follows .mixedOrders = true) (hB : Region.lexB .any l.toArray = true)
    (h : wpQuiet P l.toArray (Cb w) (fun a' => ∀ w', Cb w w' → Q .normal a' w') l a) : (Code.region id l.toArray true).wp P Q a w :=
  wp_region_quiet (C := Cb w) hm hB ⟨rfl, rfl, rfl, Nat.le_refl _, fun _ _ => rfl⟩ (by simpa using h)
end Go.Proofs.Ytldchcjnepnjnaa

/-
  CONTRACTS: rows of four numbers, a law's made the program's, and held against each other.
-/
namespace Go.Proofs.Ytldchcjnepnjnaa
open Go Go.RowKit
set_option maxRecDepth 100000

/-- what a copy of n places has after k places -/
def cpN (n : Nat) (ys : List Nat) (k : Nat) : List Nat := ys.take k ++ List.replicate (n - k) 0
theorem cpN_len {n : Nat} {ys : List Nat} (h : ys.length = n) (k : Nat) (hk : k ≤ n) : (cpN n ys k).length = n := by simp [cpN, h]; omega
theorem cpN_set {n : Nat} {ys : List Nat} (h : ys.length = n) {k : Nat} (hk : k < n) : (cpN n ys k).set k (nth ys k) = cpN n ys (k + 1) := by
  unfold cpN nth
  rw [List.set_append_right _ _ (by simp; omega), List.take_succ_eq_append_getElem (by omega), List.getD_eq_getElem?_getD, List.getElem?_eq_getElem (by omega)]
  rw [show k - (List.take k ys).length = 0 from by simp; omega, show n - k = (n - (k + 1)) + 1 from by omega, List.replicate_succ, List.append_assoc]
  rfl
theorem cpN_all {n : Nat} {ys : List Nat} (h : ys.length = n) : cpN n ys n = ys := by simp [cpN, ← h]

/-- the same number: two NaNs, or one number -/
def Agr (x y : Nat) : Prop := x < 4294967296 ∧ y < 4294967296 ∧ (nanB x = true ∧ nanB y = true ∨ nanB x = false ∧ y = x)

end Go.Proofs.Ytldchcjnepnjnaa
