/-
  CONTRACTS: a law's road made the program's.
-/
import Derived.Test.YtcnbccjkcaoflaaRoadS
import Derived.Deep.RegionWith
namespace Go.Proofs.Ytcnbccjkcaoflaa
open Go Go.RowKit

/-- what a copy has after k places -/
def cur (ys : List Nat) (k : Nat) : List Nat := ys.take k ++ List.replicate (16 - k) 0

theorem cur_len {ys : List Nat} (h : ys.length = 16) (k : Nat) (hk : k ≤ 16) : (cur ys k).length = 16 := by simp [cur, h]; omega

theorem cur_set {ys : List Nat} (h : ys.length = 16) {k : Nat} (hk : k < 16) : (cur ys k).set k (nth ys k) = cur ys (k + 1) := by
  unfold cur nth
  rw [List.set_append_right _ _ (by simp; omega), List.take_succ_eq_append_getElem (by omega), List.getD_eq_getElem?_getD, List.getElem?_eq_getElem (by omega)]
  rw [show k - (List.take k ys).length = 0 from by simp; omega, show 16 - k = (16 - (k + 1)) + 1 from by omega, List.replicate_succ, List.append_assoc]
  rfl

theorem cur_all {ys : List Nat} (h : ys.length = 16) : cur ys 16 = ys := by simp [cur, ← h]

theorem below_alloc {B : Nat} {a w : World} (h : Below B a w) (hB : B ≤ w.heap.size) (c : Array Value) (t : TypeId) : Below B a (w.alloc (.cells c t)) := h.alloc hB _

theorem below3 (w : World) (A B C : Obj) : Below w.heap.size w (((w.alloc A).alloc B).alloc C) :=
  (((Below.refl _ _).alloc (Nat.le_refl _) _).alloc (by simp) _).alloc (by simp; omega) _

/-- a road in the making -/
def mk3 (cs : List Nat) (p b l : Nat) : Array Value := fl (cs ++ [p, b, l])

theorem mk3_p {cs : List Nat} (h : cs.length = 16) (p b l x : Nat) : (mk3 cs p b l).setIfInBounds 16 (.float .f32 x) = mk3 cs x b l := by
  unfold mk3; rw [fl_set, List.set_append_right _ _ (by omega), h]; rfl

theorem mk3_b {cs : List Nat} (h : cs.length = 16) (p b l x : Nat) : (mk3 cs p b l).setIfInBounds 17 (.float .f32 x) = mk3 cs p x l := by
  unfold mk3; rw [fl_set, List.set_append_right _ _ (by omega), h]; rfl

theorem mk3_l {cs : List Nat} (h : cs.length = 16) (p b l x : Nat) : (mk3 cs p b l).setIfInBounds 18 (.float .f32 x) = mk3 cs p b x := by
  unfold mk3; rw [fl_set, List.set_append_right _ _ (by omega), h]; rfl

theorem mk3_size {cs : List Nat} (h : cs.length = 16) (p b l : Nat) : (mk3 cs p b l).size = 19 := by simp [mk3, fl_size, h]

theorem cell_setRow_other (w : World) (g k j : Nat) (c : Array Value) (h : k ≠ g) : (w.setRow g c).cell? ⟨k, j, none⟩ = w.cell? ⟨k, j, none⟩ := by
  simp only [World.cell?]; rw [heap_setRow_other w g k c h]

theorem three (w : World) (A B C : Obj) : (((w.alloc A).alloc B).alloc C).heap[w.heap.size]? = some A ∧ (((w.alloc A).alloc B).alloc C).heap[w.heap.size + 1]? = some B ∧ (((w.alloc A).alloc B).alloc C).heap[w.heap.size + 1 + 1]? = some C := by
  refine ⟨heap_old (heap_old (heap_last _ _) _) _, heap_old (by have := heap_last (w.alloc A) B; rwa [World.size_alloc] at this) _, by have := heap_last ((w.alloc A).alloc B) C; rwa [World.size_alloc, World.size_alloc] at this⟩

end Go.Proofs.Ytcnbccjkcaoflaa
