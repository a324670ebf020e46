/-
  CONTRACTS: slices of slots, a law's made the program's, and held against each other.
-/
import Derived.Test.YtopjikgkoodbmabToSlot
import Derived.Test.YtopjikgkoodbmabLawS
import Derived.Laws.MakeOwn
import Derived.OwnWalk
namespace Go.Proofs.Ytopjikgkoodbmab
open Go Go.ChangeShapes Go.WideShapes Go.ChangeAt Go.RowKit
set_option maxRecDepth 100000

/-- cells one after the other, loaded as an array or a struct -/
theorem run_loadAt_cells {P : Program} (w : World) (g off n : Nat) (ty : TypeId) (c : Array Value) (d : TypeDesc) (hn : c.size = n) (hu : P.underlying ty = some d) (hd : (match d with | .struct _ | .array _ _ => true | _ => false) = true) (hi : (P.info? ty).map (·.size) = some n)
    (hc : ∀ j, j < n → w.cell? ⟨g, off + j, none⟩ = c[j]?) : (Instr.loadAt ty (.pointer (some ⟨g, off, none⟩))).run P w = .ok (.agg c) w := by
  have hl := run_loadCells (P := P) w ⟨g, off, none⟩ n (fun j => c.getD j undef) (fun j hj => by
    have hadd : (⟨g, off, none⟩ : Addr).add j = ⟨g, off + j, none⟩ := by unfold Addr.add; split <;> simp_all
    rw [hadd, hc j hj, Array.getD_eq_getD_getElem?, Array.getElem?_eq_getElem (by omega)]; rfl)
  have he : ((List.range n).map fun j => c.getD j undef).toArray = c := by
    apply Array.ext_getElem?
    intro i
    by_cases h : i < n
    · simp [h, Array.getD_eq_getD_getElem?]
      rw [Array.getElem?_eq_getElem (by omega)]; rfl
    · rw [Array.getElem?_eq_none (by simp; omega), Array.getElem?_eq_none (by omega)]
  rw [he] at hl
  cases hq : P.info? ty with
  | none => simp [hq] at hi
  | some i =>
    have hs : i.size = n := by simpa [hq] using hi
    have hagg : (isAgg ty).run P w = .ok true w := by
      unfold isAgg
      rw [Sem.run_bind, run_underlying hu w]
      cases d <;> simp_all
    simp only [Instr.loadAt, Instr.sureAddr, Sem.run_bind, Sem.run_pure, Result.andThen]
    simp [loadVar, Sem.run_bind, hagg, sizeOf, typeInfo, hq, hs, hl]

/-- a slice of slots that came in -/
structure SSl (w : World) (v : Value) (xs : Slots) : Prop where
  val : (xs = [] ∧ ∃ a cap, v = .slice a 0 cap) ∨ ∃ g off cap, v = .slice (some ⟨g, off, none⟩) xs.length cap ∧ g < w.heap.size ∧ ∀ i, i < xs.length → ∀ j, j < 9 → w.cell? ⟨g, off + i * 9 + j, none⟩ = (sl1 (sb xs i) (st xs i))[j]?
  wf : SlW xs
  len : xs.length ≤ maxLen
theorem SSl.step {B : Nat} {w w' : World} {v : Value} {xs : Slots} (h : SSl w v xs) (hB : w.heap.size ≤ B) (hb : Below B w w') : SSl w' v xs := by
  refine ⟨h.val.imp id ?_, h.wf, h.len⟩
  rintro ⟨g, off, cap, rfl, hg, hc⟩
  refine ⟨g, off, cap, rfl, Nat.lt_of_lt_of_le hg hb.size, fun i hi j hj => ?_⟩
  rw [← hc i hi j hj]
  unfold World.cell?
  rw [hb.block g (by omega)]
theorem SSl.any {w : World} {v : Value} {xs : Slots} (h : SSl w v xs) : ∃ a cap, v = .slice a xs.length cap := by
  rcases h.val with ⟨rfl, a, cap, rfl⟩ | ⟨g, off, cap, rfl, -⟩
  · exact ⟨a, cap, rfl⟩
  · exact ⟨_, cap, rfl⟩

end Go.Proofs.Ytopjikgkoodbmab
