/-
  CONTRACTS: MakeRoad.
-/
import Derived.Test.YtcnbccjkcaoflaaEq
import Derived.Test.YtcnbccjkcaoflaaAt
namespace Go.Proofs.Ytcnbccjkcaoflaa
open Go Go.RowKit

theorem zeros_lt : ∀ x ∈ zeros 16, x < 4294967296 := fun x hx => by obtain rfl := List.eq_of_mem_replicate hx; decide

theorem At.new1 (w : World) (A : Obj) (c : Array Value) (T : TypeId) : At ((w.alloc A).alloc (.cells c T)) (w.heap.size + 1) c T := by
  have := At.new (w.alloc A) c T
  rwa [World.size_alloc] at this

def vMakeRoad (p b l : Nat) : Nat × Nat × Nat × Int := if okB (zeros 16) p b l then (p, b, l, 0) else (0, 0, 0, 1)

theorem vMakeRoad_yes {p b l : Nat} (h : okB (zeros 16) p b l = true) : vMakeRoad p b l = (p, b, l, 0) := by unfold vMakeRoad; rw [if_pos h]

theorem vMakeRoad_no {p b l : Nat} (h : okB (zeros 16) p b l = false) : vMakeRoad p b l = (0, 0, 0, 1) := by unfold vMakeRoad; rw [h]; rfl

theorem vMakeRoad_good (p b l : Nat) : goodL (zeros 16) (vMakeRoad p b l).1 (vMakeRoad p b l).2.1 (vMakeRoad p b l).2.2.1 := by
  cases h : okB (zeros 16) p b l
  · rw [vMakeRoad_no h]; exact zero_good
  · rw [vMakeRoad_yes h]; exact okB_good (zeros_len 16) h

end Go.Proofs.Ytcnbccjkcaoflaa
