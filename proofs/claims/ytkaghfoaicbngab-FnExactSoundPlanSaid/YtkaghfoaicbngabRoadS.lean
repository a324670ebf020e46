/-
  CONTRACTS: the model's valid road, by a pointer and by value.
-/
import Derived.Test.YtkaghfoaicbngabRoad
namespace Go.Proofs.Ytkaghfoaicbngab
open Go Go.RowKit

/-- the block g holds a road -/
def RoadAt (w : World) (g : Nat) (cs : List Nat) (p b l : Nat) : Prop := ∃ T fr, w.heap[g]? = some (.cells (rd cs p b l) T fr)
section
variable {w : World} {g : Nat} {cs : List Nat} {p b l : Nat} (h : RoadAt w g cs p b l) (hl : cs.length = 16)
include h hl
theorem RoadAt.car {k : Nat} (hk : k < 16) : w.cell? ⟨g, k, none⟩ = some (.float .f32 (nth cs k)) := by
  obtain ⟨T, fr, hg⟩ := h; rw [cell_of_row w g k _ T fr hg]; exact rd_cell hl p b l hk
theorem RoadAt.pace : w.cell? ⟨g, 16, none⟩ = some (.float .f32 p) := by
  obtain ⟨T, fr, hg⟩ := h; rw [cell_of_row w g 16 _ T fr hg]; exact rd_pace hl p b l
theorem RoadAt.back : w.cell? ⟨g, 17, none⟩ = some (.float .f32 b) := by
  obtain ⟨T, fr, hg⟩ := h; rw [cell_of_row w g 17 _ T fr hg]; exact rd_back hl p b l
theorem RoadAt.lanes : w.cell? ⟨g, 18, none⟩ = some (.float .f32 l) := by
  obtain ⟨T, fr, hg⟩ := h; rw [cell_of_row w g 18 _ T fr hg]; exact rd_lanes hl p b l
end
theorem RoadAt.drewN {w : World} {g : Nat} {cs : List Nat} {p b l : Nat} (h : RoadAt w g cs p b l) (n : Nat) : RoadAt (w.drewN n) g cs p b l := h
theorem RoadAt.new (w : World) (cs : List Nat) (p b l : Nat) (T : TypeId) : RoadAt (w.alloc (.cells (rd cs p b l) T)) w.heap.size cs p b l := ⟨T, _, heap_last _ _⟩
theorem RoadAt.old {w : World} {g : Nat} {cs : List Nat} {p b l : Nat} (h : RoadAt w g cs p b l) (o : Obj) : RoadAt (w.alloc o) g cs p b l := by
  obtain ⟨T, fr, hg⟩ := h; exact ⟨T, fr, heap_old hg o⟩

end Go.Proofs.Ytkaghfoaicbngab
