/-
  CONTRACTS: the shape of a row of whole numbers that came in.
-/
import Derived.Test.YtkhnhbmnmciiaaaToTab
import Derived.Test.YtkhnhbmnmciiaaaIl
namespace Go.Proofs.Ytkhnhbmnmciiaaa
open Go Go.ChangeShapes Go.WideShapes Go.ChangeAt Go.RowKit
set_option maxRecDepth 100000

theorem cell_int {W : World} {r : Reach} {base : Nat} {v : Value} (h : Cell.okWide Try.prog W r base 2 v) : ∃ x, v = .int .i64 x := by
  have h1 : Value.okWide Try.prog W r base 2 v := by simpa [Value.okWide, Try.underlying2] using h
  exact okWide_int Try.underlying2 h1
/-- an aggregate whose cells are all whole numbers -/
theorem shape_il {W : World} {r : Reach} {base : Nat} {v : Value} {T n : Nat} {d : TypeDesc} (hu : Try.prog.underlying T = some d) (hd : (match d with | .struct _ | .array _ _ => true | _ => false) = true) (hc : Try.prog.cellsOf T = n)
    (ht : Try.prog.cellTypes Try.prog.depth T = some (List.replicate n 2)) (h : Value.okWide Try.prog W r base T v) : ∃ xs : List Int, v = .agg (il xs) ∧ xs.length = n ∧ True := by
  have h' : ∃ cs, v = .agg cs ∧ cs.size = Try.prog.cellsOf T ∧ Row.okWide Try.prog W r base T cs := by
    unfold Value.okWide at h
    rw [hu] at h
    cases d <;> simp_all
  obtain ⟨cs, rfl, hsz, ts, hts, -, hcell⟩ := h'
  rw [ht] at hts
  obtain rfl := Option.some.inj hts
  rw [hc] at hsz
  have hx : ∀ i (hi : i < cs.size), ∃ x, cs[i] = .int .i64 x := by
    intro i hi
    obtain ⟨u, hu, hok⟩ := hcell i cs[i] (Array.getElem?_eq_getElem hi)
    rw [List.length_replicate, Nat.mod_eq_of_lt (by omega), List.getElem?_replicate, if_pos (by omega)] at hu
    obtain rfl := Option.some.inj hu
    exact cell_int hok
  refine ⟨cs.toList.map fun v => (match v with | .int _ x => x | _ => 0), ?_, by simp [hsz], trivial⟩
  congr 1
  apply Array.ext'
  simp only [il, List.map_map]
  apply List.ext_getElem
  · simp
  · intro i h1 h2
    obtain ⟨x, hx1⟩ := hx i (by simpa using h1)
    simp [hx1]

end Go.Proofs.Ytkhnhbmnmciiaaa
