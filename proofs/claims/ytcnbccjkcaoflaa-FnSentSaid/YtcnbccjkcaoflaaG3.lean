/-
  SEVERAL TEXTS IN ONE.
-/
import Derived.Test.YtcnbccjkcaoflaaTake
import Derived.Test.YtcnbccjkcaoflaaArms
import Derived.Test.YtcnbccjkcaoflaaOneCell
import Derived.Test.YtcnbccjkcaoflaaTail

/-
  OPERATIONS IN A WALK WHOSE ORDER IS OPEN, by hand: what each yields, its operands by the kernel.
  No Go text in it. Conditions: those of each theorem.
-/
namespace Go.Proofs.Ytcnbccjkcaoflaa
open Go Go.RowKit
section
variable {P : Program} {o : Oper} {a : Act} {w w' : World} {v : Value}
theorem hx_move (x : Operand) (ho : o.op = .move x) (hx : a.eval x = v) : (execOp a.eval o).run P w = .ok (.value v) w := by
  unfold execOp
  simp only [ho, hx, Sem.run_pure]
theorem hx_index (ty : TypeId) (x y : Operand) (ho : o.op = .indexAddr ty x y) (v1 v2 : Value) (h1 : a.eval x = v1) (h2 : a.eval y = v2) (hrun : (Instr.indexAt ty v1 v2).run P w = .ok v w) : (execOp a.eval o).run P w = .ok (.value v) w := by
  unfold execOp
  simp only [ho, h1, h2, Sem.run_bind, hrun, Sem.run_pure, Result.andThen_ok]
theorem hx_sub (ty : TypeId) (x y : Operand) {T : TypeId} (ho : o.op = .binOp .sub ty x y T) (v1 v2 : Value) (h1 : a.eval x = v1) (h2 : a.eval y = v2) (hrun : (binOp .sub ty v1 v2).run P w = .ok v w') : (execOp a.eval o).run P w = .ok (.value v) w' := by
  have hg : eqGuard .sub ty x y v1 v2 = pure () := rfl
  unfold execOp
  simp only [ho, h1, h2, hg, Sem.run_bind, hrun, Sem.run_pure, Result.andThen_ok]
theorem hx_store (ty : TypeId) (x y : Operand) (ho : o.op = .store ty x y) (v1 v2 : Value) (h1 : a.eval x = v1) (h2 : a.eval y = v2) (hrun : (Instr.storeAt ty v1 v2).run P w = .ok () w') : (execOp a.eval o).run P w = .ok .skip w' := by
  unfold execOp
  simp only [ho, h1, h2, Sem.run_bind, hrun, Sem.run_pure, Result.andThen_ok]
end
theorem run_sub_i64 {P : Program} (W : World) (t : TypeId) (a b : Int) : (binOp .sub t (.int .i64 a) (.int .i64 b)).run P W = .ok (.int .i64 (IntKind.i64.wrap (a - b))) W := by
  simp [binOp, Op.intArith]
end Go.Proofs.Ytcnbccjkcaoflaa

/-
  CONTRACTS: three numbers sorted.
-/
namespace Go.Proofs.Ytcnbccjkcaoflaa
open Go Go.RowKit
set_option maxRecDepth 100000

/-- a number, not NaN -/
def Num (x : Nat) : Prop := x < 4294967296 ∧ nanB x = false
def ltB (x y : Nat) : Bool := FloatKind.f32.format.order x y == some .lt
def Nums (L : List Nat) : Prop := ∀ k, k < L.length → Num (nth L k)
theorem nth_set' {vs : List Nat} {k x : Nat} (hk : k < vs.length) (j : Nat) : nth (vs.set k x) j = if j = k then x else nth vs j := by
  unfold nth
  rw [List.getD_eq_getElem?_getD, List.getD_eq_getElem?_getD, List.getElem?_set]
  by_cases h : k = j
  · subst h; rw [if_pos rfl, if_pos hk, if_pos rfl]; rfl
  · rw [if_neg h, if_neg (fun e => h e.symm)]
/-- two neighbours changed -/
def swp (L : List Nat) (q : Nat) : List Nat := (L.set (q + 1) (nth L q)).set q (nth L (q + 1))
theorem swp_len (L : List Nat) (q : Nat) : (swp L q).length = L.length := by simp [swp]
theorem swp_nums {L : List Nat} {q : Nat} (hq : q + 1 < L.length) (h : Nums L) : Nums (swp L q) := by
  intro k hk
  rw [swp_len] at hk
  unfold swp
  rw [nth_set' (by rw [List.length_set]; omega)]
  split
  · exact h _ hq
  · rw [nth_set' hq]
    split
    · exact h _ (by omega)
    · exact h k hk
/-- the number at a place, put into those ahead of it -/
def insF (L : List Nat) : Nat → List Nat
  | 0 => L
  | q + 1 => if ltB (nth L (q + 1)) (nth L q) then insF (swp L q) q else L
def srt (L : List Nat) : List Nat := insF (insF L 1) 2
theorem insF_len (L : List Nat) : ∀ q, (insF L q).length = L.length
  | 0 => rfl
  | q + 1 => by
    unfold insF
    split
    · rw [insF_len (swp L q) q, swp_len]
    · rfl
theorem insF_nums : ∀ {q : Nat} {L : List Nat}, q < L.length → Nums L → Nums (insF L q)
  | 0, _, _, h => h
  | q + 1, L, hq, h => by
    unfold insF
    split
    · exact insF_nums (by rw [swp_len]; omega) (swp_nums hq h)
    · exact h
/-- the rest of the outer rounds -/
def srtF (L : List Nat) (j : Nat) : List Nat := if j = 1 then insF (insF L 1) 2 else if j = 2 then insF L 2 else L

end Go.Proofs.Ytcnbccjkcaoflaa

/-
  CONTRACTS: slices.Sort of three numbers.
-/
namespace Go.Proofs.Ytcnbccjkcaoflaa
open Go Go.RowKit
set_option maxRecDepth 100000

end Go.Proofs.Ytcnbccjkcaoflaa
