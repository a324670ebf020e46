/-
  CONTRACTS: the shape of a light that came in.
-/
import Derived.Test.YtkhnhbmnmciiaabShPlan
import Derived.Test.YtkhnhbmnmciiaabLight
import Derived.Test.YtkhnhbmnmciiaabRunPl
namespace Go.Proofs.Ytkhnhbmnmciiaab
open Go Go.ChangeShapes Go.WideShapes Go.ChangeAt Go.RowKit
set_option maxRecDepth 100000

theorem shape_light {H : Type} {enc : TypeId × Value → H} {W : World} {v : Value} {d : DataW H} {ps : List MemPlace} {base : Nat} (hv : Value.okWide Try.prog W .any base 73 v) (h : DataW.Trod enc Try.prog W 0 (fun _ => true) true 73 v d ps) :
    ∃ s n r, v = .agg (ltC s n r) := by
  obtain ⟨cs, rfl, hsz⟩ := okWide_struct Try.underlying73 hv
  clear hv
  have hc3 : Try.prog.cellsOf 73 = 3 := by kernel_rfl
  rw [hc3] at hsz
  obtain ⟨c0, c1, c2, rfl⟩ : ∃ c0 c1 c2, cs = #[c0, c1, c2] := by
    obtain ⟨l⟩ := cs
    match l, hsz with
    | [c0, c1, c2], _ => exact ⟨c0, c1, c2, rfl⟩
  obtain ⟨fuel, h⟩ := h
  obtain ⟨y0, y1, y2, m, -, -, h0, h1, h2⟩ := Go.Deep.trod_struct3 Try.underlying73 h
  have hci : Try.prog.cellsOf 2 = 1 := by kernel_rfl
  have hcb : Try.prog.cellsOf 4 = 1 := by kernel_rfl
  simp only [hcb, hci, Value.cells, List.drop_zero] at h0 h1 h2
  have e1 : (List.drop 1 [c0, c1, c2]).take 1 = [c1] := rfl
  have e2 : (List.drop 2 [c0, c1, c2]).take 1 = [c2] := rfl
  have e0 : [c0, c1, c2].take 1 = [c0] := rfl
  rw [e0] at h0
  rw [e1] at h1
  rw [e2] at h2
  obtain ⟨s, rfl, -⟩ := trod_int1 Try.underlying2 h0
  obtain ⟨n, rfl, -⟩ := trod_int1 Try.underlying2 h1
  obtain ⟨r, rfl⟩ := trod_bool1 Try.underlying4 h2
  exact ⟨s, n, r, rfl⟩
theorem run_light {w : World} {g : Nat} {s n : Int} {r : Bool} {T : TypeId} (ty : TypeId) (fs : Array Field) (h : At w g (ltC s n r) T) (hu : Try.prog.underlying ty = some (.struct fs)) (hi : (Try.prog.info? ty).map (·.size) = some 3) :
    (Instr.loadAt ty (.pointer (some ⟨g, 0, none⟩))).run Try.prog w = .ok (.agg (ltC s n r)) w :=
  run_loadAt_part w g 0 3 ty (ltC s n r) T (0, 0) _ h hu rfl hi (by rw [ltC_size]; omega)
/-- what several orders come to is shown once: the proposition is read off the first -/
theorem share3 {H F : Nat → Nat → World → Prop} {goal : Prop} (main : (∀ a b w, H a b w → F a b w) → goal) (rest : ∀ a b w, H a b w → F a b w) : goal := main rest
theorem share2 {H F : Nat → World → Prop} {goal : Prop} (main : (∀ a w, H a w → F a w) → goal) (rest : ∀ a w, H a w → F a w) : goal := main rest
theorem two_of {i j k : Nat} (h : i ∈ [j, k]) : i = j ∨ i = k := by simpa using h

end Go.Proofs.Ytkhnhbmnmciiaab
