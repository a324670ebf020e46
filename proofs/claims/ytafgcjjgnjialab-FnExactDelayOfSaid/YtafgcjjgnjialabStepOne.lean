/-
  CONTRACTS: the function that hands the steps on, made; the model's one step.
-/
import Derived.Test.YtafgcjjgnjialabIterator
import Derived.Test.YtafgcjjgnjialabStepsS
namespace Go.Proofs.Ytafgcjjgnjialab
open Go Go.RowKit Go.Shelf
set_option maxRecDepth 100000

theorem stepsOf_any (c : Array Value) (_hz : c.size = 19) (p1 p2 : Option Addr) (n1 c1 n2 c2 : Nat) (w : World) :
    Calls Try.prog 72 #[.agg c, .slice p1 n1 c1, .slice p2 n2 c2] w fun e w' => e = .returned (.func (.func 124) #[] #[.pointer (some ⟨w.heap.size, 0, none⟩), .pointer (some ⟨(w.heap.size + 1), 0, none⟩), .pointer (some ⟨(w.heap.size + 1 + 1), 0, none⟩)]) ∧ w' = (((w.alloc (.cells c 29)).alloc (.cells #[.slice p1 n1 c1] 26)).alloc (.cells #[.slice p2 n2 c2] 26)) := by
  have hmf : ∀ (fn : Fn) (first cap : Array Value) (w : World), (Instr.makeFunc fn first cap).run Try.prog w = .ok (.func fn first cap) w := fun _ _ _ _ => rfl
  go_enter Try.func72, Try.ntmps72
  go_wp2
  go_ret
  exact ⟨rfl, rfl⟩

end Go.Proofs.Ytafgcjjgnjialab
