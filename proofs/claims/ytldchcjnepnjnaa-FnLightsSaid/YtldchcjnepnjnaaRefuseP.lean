/-
  CONTRACTS: checks that refuse by a panic, and what recovers it (plans that are not valid among them).
-/
import Derived.Test.YtldchcjnepnjnaaG6
import Derived.Test.YtldchcjnepnjnaaMix
import Derived.Defers
import Derived.Recover
import Derived.WalkLawsBesides
import Derived.Laws.Pointers
namespace Go.Proofs.Ytldchcjnepnjnaa
open Go Go.RowKit
set_option maxRecDepth 100000

/-- what a check panics with, and the code that it stands for -/
def Refuses (x : Value) (c : Int) : Prop := x = .iface 67 (.int .i64 c) ∨ False ∨ (c = 1 ∧ ∃ (s : Value) (b o : Int), x = .iface 72 (.agg (plC s b o)))

/-- how checks end: they return, or they panic -/
def Chk (c : Int) (e : Ending) : Prop := (c = 0 ∧ e = .returned (.tuple #[])) ∨ (c ≠ 0 ∧ ∃ x, Refuses x c ∧ e = .panicked [{ v := x, recovered := false }])

theorem need_ok (c : Int) (w : World) : Calls Try.prog 19 #[.bool true, .int .i64 c] w fun e w' => e = .returned (.tuple #[]) ∧ w' = w := by
  go_enter Try.func19, Try.ntmps19
  go_wp2
  go_end0
  exact ⟨rfl, rfl⟩

theorem need_bad (c : Int) (w : World) : Calls Try.prog 19 #[.bool false, .int .i64 c] w fun e w' => e = .panicked [{ v := .iface 67 (.int .i64 c), recovered := false }] ∧ w' = w := by
  go_enter Try.func19, Try.ntmps19
  go_wp2
  exact ⟨rfl, rfl, rfl⟩

theorem code_unmet (c : Int) (w : World) : Calls Try.prog 54 #[.int .i64 c] w fun e w' => e = .returned (.int .i64 c) ∧ w' = w := by
  go_enter Try.func54, Try.ntmps54
  go_wp2
  go_ret
  exact ⟨rfl, rfl⟩

theorem upon_method {P : Program} {o : Oper} {a : Act} {K : Act → World → Prop} {Q : Exit → Act → World → Prop} {n : Nat} {T : TypeId} {v : Value} {m : String} {w : World} {k : FuncId × Value → World → Result Next} {f : FuncId} {x : Value}
    (h : (method n T v m).run P w = .ok (f, x) w) (H : Oper.upon P o a K Q (k (f, x) w)) : Oper.upon P o a K Q (((method n T v m).run P w).andThen k) := by
  rw [h]; exact H

theorem ta_nil (w : World) : (Instr.typeAssert .nilIface 20 63 true).run Try.prog w = .ok (.tuple #[.nilIface, .bool false]) w := by kernel_rfl

theorem ta_unmet (c : Int) (w : World) : (Instr.typeAssert (.iface 67 (.int .i64 c)) 20 63 true).run Try.prog w = .ok (.tuple #[.iface 67 (.int .i64 c), .bool true]) w := by kernel_rfl

theorem ta_noPlan (s : Value) (b o : Int) (w : World) : (Instr.typeAssert (.iface 72 (.agg (plC s b o))) 20 63 true).run Try.prog w = .ok (.tuple #[.iface 72 (.agg (plC s b o)), .bool true]) w := by kernel_rfl

theorem catch_idle (p : Addr) (w : World) :
    CallsD Try.prog 28 #[.pointer (some p)] .returning w fun e u' w' => e = .returned (.tuple #[]) ∧ u' = .returning ∧ w' = w := by
  refine callsD_of_wpS Try.func28 rfl fun c₀ cs hu => ?_
  apply wpS_seq
  apply wpS_region
  simp [wpOpsS, go_sem, recoverD, hu, Try.ntmps28, Exit.thenS, ta_nil]
  apply wpS_seq
  apply wpS_region
  simp [wpOpsS, go_sem, Exit.thenS]
  refine wpS_cond (t := false) (by simp [Act.eval, Array.replicate]) ?_
  simp only [Bool.false_eq_true, if_false]
  refine wpS_of_wp (wp_skip ?_)
  cases c₀
  simp_all [bodyPostS, results, Try.results28]

theorem catch_unmet (p : Addr) (c d : Int) (older : List PanicEntry) (w : World) (hc : w.cell? p = some (.int .i64 d)) (hz : w.frozen? p = false) :
    CallsD Try.prog 28 #[.pointer (some p)] (.panicking ({ v := .iface 67 (.int .i64 c), recovered := false } :: older)) w fun e u' w' =>
      e = .returned (.tuple #[]) ∧ u' = .panicking ({ v := .iface 67 (.int .i64 c), recovered := true } :: older) ∧ w' = w.setCell p (.int .i64 c) := by
  refine callsD_of_wpS Try.func28 rfl fun c₀ cs hu => ?_
  apply wpS_seq
  apply wpS_region
  simp [wpOpsS, go_sem, recoverD, hu, Try.ntmps28, Exit.thenS, ta_unmet]
  apply wpS_seq
  apply wpS_region
  simp [wpOpsS, go_sem, Exit.thenS]
  refine wpS_cond (t := true) (by simp [Act.eval, Array.replicate]) ?_
  simp only [if_true]
  refine wpS_of_wp ?_
  simp [Array.replicate]
  go_wp2
  refine upon_method (f := 54) (x := .int .i64 c) (by kernel_rfl) ?_
  go_wp2
  cases c₀
  simp_all [bodyPostS, results, Try.results28]

theorem catch_noPlan (p : Addr) (s : Value) (b o : Int) (d : Int) (older : List PanicEntry) (w : World) (hc : (w.alloc (.cells (plC s b o) 72)).cell? p = some (.int .i64 d)) (hz : (w.alloc (.cells (plC s b o) 72)).frozen? p = false) :
    CallsD Try.prog 28 #[.pointer (some p)] (.panicking ({ v := .iface 72 (.agg (plC s b o)), recovered := false } :: older)) w fun e u' w' =>
      e = .returned (.tuple #[]) ∧ u' = .panicking ({ v := .iface 72 (.agg (plC s b o)), recovered := true } :: older) ∧ w' = (w.alloc (.cells (plC s b o) 72)).setCell p (.int .i64 1) := by
  refine callsD_of_wpS Try.func28 rfl fun c₀ cs hu => ?_
  apply wpS_seq
  apply wpS_region
  simp [wpOpsS, go_sem, recoverD, hu, Try.ntmps28, Exit.thenS, ta_noPlan]
  apply wpS_seq
  apply wpS_region
  simp [wpOpsS, go_sem, Exit.thenS]
  refine wpS_cond (t := true) (by simp [Act.eval, Array.replicate]) ?_
  simp only [if_true]
  refine wpS_of_wp ?_
  simp [Array.replicate]
  go_wp2
  refine upon_method (f := 55) (x := .agg (plC s b o)) (by kernel_rfl) ?_
  go_wp2
  cases c₀
  simp_all [bodyPostS, results, Try.results28]

theorem refusalOf_any (g : Nat) (cap : Array Value) (c : Int) (w : World)
    (hg : ∀ w, (callFunc g cap).run Try.prog w = .ok (.enter g cap) w) (H : ∀ w1, Below w.heap.size w w1 → Calls Try.prog g cap w1 fun e w' => Chk c e ∧ Below w1.heap.size w1 w') :
    Calls Try.prog 16 #[.func (.func g) #[] cap] w fun e w' => e = .returned (.int .i64 c) ∧ Below w.heap.size w w' := by
  have hmf : ∀ (fn : Fn) (first cap : Array Value) (w : World), (Instr.makeFunc fn first cap).run Try.prog w = .ok (.func fn first cap) w := fun _ _ _ _ => rfl
  have A0 := At.new w #[.int .i64 0] 2
  have H1 := H _ (b0 w (.cells #[.int .i64 0] 2))
  have B0 := Lib.hid (b0 w (.cells #[.int .i64 0] 2))
  go_enter_defers Try.func16, Try.ntmps16
  go_wp2
  refine H1.mono ?_
  rintro e w1 ⟨⟨rfl, rfl⟩ | ⟨-, x, hx, rfl⟩, hb1⟩
  · have A1 := A0.step hb1
    have c1 := A1.cell (k := 0) (v := .int .i64 0) rfl
    have z1 := A1.free 0
    have c2 : (w1.setCell ⟨w.heap.size, 0, none⟩ (.int .i64 0)).cell? ⟨w.heap.size, 0, none⟩ = some (.int .i64 0) := World.cell?_setCell_same' _ _ _ (by rw [c1]; rfl)
    have B2 : Below w.heap.size w (w1.setCell ⟨w.heap.size, 0, none⟩ (.int .i64 0)) := (bthen B0.out hb1).setCell (p := ⟨w.heap.size, 0, none⟩) (Nat.le_refl _) _
    go_wp2
    refine leaves_cons (f := 28) (args := #[.pointer (some ⟨w.heap.size, 0, none⟩)]) (by simp) (by simp [go_sem]) ?_
    refine (catch_idle _ _).mono ?_
    rintro e u' w2 ⟨rfl, rfl, rfl⟩
    simp [Leaves, settle, results, Try.results16, go_sem, c2]
    exact B2
  · have A1 := A0.step hb1
    have c1 := A1.cell (k := 0) (v := .int .i64 0) rfl
    have z1 := A1.free 0
    have c2 : (w1.setCell ⟨w.heap.size, 0, none⟩ (.int .i64 c)).cell? ⟨w.heap.size, 0, none⟩ = some (.int .i64 c) := World.cell?_setCell_same' _ _ _ (by rw [c1]; rfl)
    have B2 : Below w.heap.size w (w1.setCell ⟨w.heap.size, 0, none⟩ (.int .i64 c)) := (bthen B0.out hb1).setCell (p := ⟨w.heap.size, 0, none⟩) (Nat.le_refl _) _
    go_wp2
    rcases hx with rfl | h | ⟨rfl, s, b, o, rfl⟩
    · refine leaves_cons (f := 28) (args := #[.pointer (some ⟨w.heap.size, 0, none⟩)]) (by simp) (by simp [go_sem]) ?_
      refine (catch_unmet _ c 0 [] _ c1 z1).mono ?_
      rintro e u' w2 ⟨rfl, rfl, rfl⟩
      simp [Leaves, settle, results, Try.results16, go_sem, c2]
      exact B2
    · exact h.elim
    · refine leaves_cons (f := 28) (args := #[.pointer (some ⟨w.heap.size, 0, none⟩)]) (by simp) (by simp [go_sem]) ?_
      have A2 := A1.alloc (.cells (plC s b o) 72)
      refine (catch_noPlan _ s b o 0 [] _ (A2.cell (k := 0) (v := .int .i64 0) rfl) (A2.free 0)).mono ?_
      rintro e u' w2 ⟨rfl, rfl, rfl⟩
      have c3 : ((w1.alloc (.cells (plC s b o) 72)).setCell ⟨w.heap.size, 0, none⟩ (.int .i64 1)).cell? ⟨w.heap.size, 0, none⟩ = some (.int .i64 1) := World.cell?_setCell_same' _ _ _ (by rw [A2.cell (k := 0) (v := .int .i64 0) rfl]; rfl)
      have B3 : Below w.heap.size w ((w1.alloc (.cells (plC s b o) 72)).setCell ⟨w.heap.size, 0, none⟩ (.int .i64 1)) := (bnew (bthen B0.out hb1) _).setCell (p := ⟨w.heap.size, 0, none⟩) (Nat.le_refl _) _
      simp [Leaves, settle, results, Try.results16, go_sem, c3]
      exact B3

theorem all_no {q : Nat → Bool} {xs : List Nat} {k : Nat} (hk : k < xs.length) (hs : q (nth xs k) = false) : xs.all q = false := by
  cases h : xs.all q
  · rfl
  · have := List.all_eq_true.1 h (nth xs k) (by
      show (xs[k]?).getD 0 ∈ xs
      rw [List.getElem?_eq_getElem hk, Option.getD_some]; exact List.getElem_mem hk)
    rw [hs] at this; cases this

theorem all_next {q : Nat → Bool} {xs : List Nat} {k : Nat} (h : (xs.take k).all q = true) (hk : k < xs.length) (hs : q (nth xs k) = true) : (xs.take (k + 1)).all q = true := by
  have e : nth xs k = xs[k] := by
    show (xs[k]?).getD 0 = _
    rw [List.getElem?_eq_getElem hk, Option.getD_some]
  rw [List.take_succ_eq_append_getElem hk, List.all_append, h, ← e]
  simp [hs]

/-- the code of a list of numbers -/
def amtC (xs : List Nat) : Int := if xs.all amtB then 0 else 2

theorem At.fl_cells {w : World} {g : Nat} {xs : List Nat} {T : TypeId} (h : At w g (fl xs) T) : ∀ k, k < xs.length → w.cell? ⟨g, 0 + k, none⟩ = some (.float .f32 (nth xs k)) := fun k hk => by
  rw [Nat.zero_add]; exact h.cell (fl_get hk)

end Go.Proofs.Ytldchcjnepnjnaa
