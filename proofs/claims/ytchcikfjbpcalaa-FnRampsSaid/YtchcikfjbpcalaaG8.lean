/-
  SEVERAL TEXTS IN ONE.
-/
import Derived.Test.YtchcikfjbpcalaaG7
import Derived.Test.YtchcikfjbpcalaaRes
import Derived.Test.YtchcikfjbpcalaaFluxesOf
import Derived.Test.YtchcikfjbpcalaaIterator
import Derived.OrdersHeld
import Derived.Test.YtchcikfjbpcalaaNew

/-
  CONTRACTS: several steps, the model's.
-/
namespace Go.Proofs.Ytchcikfjbpcalaa
open Go Go.RowKit
set_option maxRecDepth 100000


end Go.Proofs.Ytchcikfjbpcalaa

/-
  CONTRACTS: the function that hands the steps on, made; the model's one step.
-/
namespace Go.Proofs.Ytchcikfjbpcalaa
open Go Go.RowKit Go.Shelf
set_option maxRecDepth 100000

theorem stepsOf_any (c : Array Value) (_hz : c.size = 19) (p1 p2 : Option Addr) (n1 c1 n2 c2 : Nat) (w : World) :
    Calls Try.prog 69 #[.agg c, .slice p1 n1 c1, .slice p2 n2 c2] w fun e w' => e = .returned (.func (.func 72) #[] #[.pointer (some ⟨w.heap.size, 0, none⟩), .pointer (some ⟨(w.heap.size + 1), 0, none⟩), .pointer (some ⟨(w.heap.size + 1 + 1), 0, none⟩)]) ∧ w' = (((w.alloc (.cells c 28)).alloc (.cells #[.slice p1 n1 c1] 76)).alloc (.cells #[.slice p2 n2 c2] 76)) := by
  have hmf : ∀ (fn : Fn) (first cap : Array Value) (w : World), (Instr.makeFunc fn first cap).run Try.prog w = .ok (.func fn first cap) w := fun _ _ _ _ => rfl
  go_enter Try.func69, Try.ntmps69
  go_wp2
  go_ret
  exact ⟨rfl, rfl⟩

end Go.Proofs.Ytchcikfjbpcalaa

/-
  CONTRACTS: a number many times.
-/
namespace Go.Proofs.Ytchcikfjbpcalaa
open Go Go.RowKit
set_option maxRecDepth 100000

theorem repeated_any (a n : Nat) (hn : n ≤ 400) (w : World) :
    Calls Try.prog 70 #[.float .f32 a, .int .i64 n] w fun e w' => e = .returned (.slice (some ⟨w.heap.size, 0, none⟩) n n) ∧ w'.heap.size = w.heap.size + 1 ∧ At w' w.heap.size (fl (List.replicate 400 a)) 100 ∧ Below w.heap.size w w' := by
  have A0 : At (w.alloc (.cells (fl (zeros 400)) 100)) w.heap.size (fl (zeros 400)) 100 := At.new w _ _
  have B0 := Lib.hid (b0 w (.cells (fl (zeros 400)) 100))
  have S0 : (w.alloc (.cells (fl (zeros 400)) 100)).heap.size = w.heap.size + 1 := World.size_alloc _ _
  go_enter Try.func70, Try.ntmps70
  go_wp2
  have BB0 := B0
  go_loopw [7] (fun i wr => ∃ k : Nat, k ≤ 400 ∧ i = .int .i64 k ∧ At wr w.heap.size (fl (mixTo (List.replicate 400 a) (zeros 400) k)) 100 ∧ wr.heap.size = w.heap.size + 1 ∧ Hid (Below w.heap.size w wr)) (fun i _ => 400 - (intOf i).toNat)
  case atStart => exact ⟨0, by omega, rfl, by rw [mixTo_zero]; exact A0, S0, BB0⟩
  case round =>
    obtain ⟨k, hk, rfl, A4, S4, B4⟩ := hrel
    clear A0 S0 B0 BB0
    have hr := List.length_replicate (n := 400) (a := a)
    have hM := mixTo_len hr (zeros_len 400) hk
    by_cases hlt : k < 400
    · have hki : (k : Int) < 400 := by omega
      have s2 : IntKind.i64.wrap ((k : Int) + 1) = (k : Int) + 1 := IntWalk.i64_in _ (by omega)
      have G := run_store_one (P := Try.prog) wr w.heap.size k 100 (fl (mixTo (List.replicate 400 a) (zeros 400) k)) (.float .f32 a) A4 (by rw [fl_size, hM]; omega) rfl
      have ea : nth (List.replicate 400 a) k = a := by unfold nth; rw [List.getD_eq_getElem?_getD, List.getElem?_replicate, if_pos hlt]; rfl
      have e1 : ((mixTo (List.replicate 400 a) (zeros 400) k).set k a) = mixTo (List.replicate 400 a) (zeros 400) (k + 1) := by rw [← mixTo_set hr (zeros_len 400) hlt, ea]
      rw [fl_set, e1] at G
      have A6 := A4.setRow (fl (mixTo (List.replicate 400 a) (zeros 400) (k + 1)))
      have S6 : (wr.setRow w.heap.size (fl (mixTo (List.replicate 400 a) (zeros 400) (k + 1)))).heap.size = w.heap.size + 1 := by simpa using S4
      have B6 := Lib.hid (bset B4.out (g := w.heap.size) (Nat.le_refl _) (fl (mixTo (List.replicate 400 a) (zeros 400) (k + 1))))
      clear A4 S4 B4 hM hr ea e1
      go_wp2
      exact ⟨⟨k + 1, by omega, by go_num, A6, S6, B6⟩, by simp [intOf]; omega⟩
    · obtain rfl : k = 400 := by omega
      rw [mixTo_all hr (zeros_len 400)] at A4
      clear hM hr
      have hn0 : (0 : Int) ≤ (n : Int) := by omega
      have hn4 : (n : Int) ≤ ((Try.prog.arrayLen 100 : Nat) : Int) := by rw [show Try.prog.arrayLen 100 = 400 by kernel_rfl]; omega
      have hsl : ∀ w', (Instr.sliceAt 100 (.pointer (some ⟨w.heap.size, 0, none⟩)) none (some (.int .i64 n)) (some (.int .i64 n))).run Try.prog w' = .ok (.slice (some ⟨w.heap.size, 0, none⟩) n n) w' := fun w' => by
        rw [run_sliceAt_array_hm w' 100 ⟨w.heap.size, 0, none⟩ (by kernel_rfl) .i64 .i64 n n hn0 (Int.le_refl _) hn4]
        rw [show (sizeOf (Try.prog.elem 100)).run Try.prog w' = .ok 1 w' by kernel_rfl]
        simp only [Result.andThen, slicedAt, Int.toNat_natCast, Nat.sub_zero]
        by_cases h0 : n = 0
        · subst h0; rfl
        · rw [if_neg h0]; rfl
      go_wp2
      go_ret
      exact ⟨rfl, S4, A4, B4.out⟩
end Go.Proofs.Ytchcikfjbpcalaa

/-
  A STATEMENT WHOSE ORDER IS OPEN, by hand: reads are taken first, calls come in their chain: the pieces.
  No Go text in it. Conditions: those of each theorem.
-/
namespace Go.Proofs.Ytchcikfjbpcalaa
open Go Go.RowKit
section
variable {P : Program} {ops : Array Oper} {Q : Exit → Act → World → Prop} {S : World → Prop} {o : Oper} {a : Act} {w : World} {v : Value} {i : Nat} {K : Act → World → Prop}
theorem yif (hg : o.guard = none) (h : ∀ w, S w → (execOp a.eval o).run P w = .ok (.value v) w) : YieldsIf P ops S o v a := by
  refine .inl ⟨wanted_none hg _, fun w hw => ?_⟩
  rw [h w hw]
theorem x_load (ty : TypeId) (x : Operand) (ho : o.op = .load ty x) (ad : Addr) (hx : a.eval x = .pointer (some ad)) (hrun : (Instr.loadAt ty (.pointer (some ad))).run P w = .ok v w) : (execOp a.eval o).run P w = .ok (.value v) w := by
  unfold execOp
  simp only [ho, hx, Sem.run_bind, hrun, Sem.run_pure, Result.andThen_ok]
theorem x_move (x : Operand) (ho : o.op = .move x) : (execOp a.eval o).run P w = .ok (.value (a.eval x)) w := by
  unfold execOp
  simp only [ho, Sem.run_pure]
theorem x_assign (x : Operand) (ho : o.op = .assign x) : (execOp a.eval o).run P w = .ok (.value (a.eval x)) w := by
  unfold execOp
  simp only [ho, Sem.run_pure]
theorem op_call {f : FuncId} {args : Array Value} (ho : ops[i]? = some o) (hg : o.guard = none) (hx : (execOp a.eval o).run P w = .ok (.enter f args) w) (hc : Calls P f args w fun e w' => ∃ v, e = .returned v ∧ K (a.put o.dst v) w') : wpOp P ops Q i K a w := by
  unfold wpOp
  simp only [ho, wanted_none hg, if_true]
  refine .inl ?_
  unfold Oper.wp
  rw [hx]
  exact hc.mono fun e w' ⟨v, h1, h2⟩ => by subst h1; exact h2
theorem op_value {w' : World} (ho : ops[i]? = some o) (hg : o.guard = none) (hx : (execOp a.eval o).run P w = .ok (.value v) w') (hK : K (a.put o.dst v) w') : wpOp P ops Q i K a w := by
  unfold wpOp
  simp only [ho, wanted_none hg, if_true]
  refine .inl ?_
  unfold Oper.wp
  rw [hx]
  exact hK
theorem op_skip {w' : World} (ho : ops[i]? = some o) (hg : o.guard = none) (hx : (execOp a.eval o).run P w = .ok .skip w') (hK : K (a.put o.dst undef) w') : wpOp P ops Q i K a w := by
  unfold wpOp
  simp only [ho, wanted_none hg, if_true]
  refine .inl ?_
  unfold Oper.wp
  rw [hx]
  exact hK
theorem one_of {i j : Nat} (h : i ∈ [j]) : i = j := by simpa using h
end
end Go.Proofs.Ytchcikfjbpcalaa
