/-
  CONTRACTS: the shape of a centre that came in.
-/
import Derived.Test.YtkaghfoaicbngabCentre0
import Derived.Test.YtkaghfoaicbngabShPlan
import Derived.Test.YtkaghfoaicbngabLawS
namespace Go.Proofs.Ytkaghfoaicbngab
open Go Go.ChangeShapes Go.WideShapes Go.ChangeAt Go.RowKit
set_option maxRecDepth 100000
theorem trod_i64s {H : Type} {enc : TypeId × Value → H} {W : World} {base : Nat} {sp : Nat → Bool} {hd : Bool} {n : Nat} {v : Value} {x : DataW H × List MemPlace} {t e : TypeId} (ht : Try.prog.underlying t = some (.slice e)) (he : Try.prog.underlying e = some (.int .i64)) (hc : Try.prog.cellsOf e = 1)
    (h : DataW.trod enc Try.prog W base sp hd n t [v] = some x) : ∃ xs, ISl W v xs := by
  rcases Go.Deep.open_slice1 ht hc h with ⟨h0, -⟩ | ⟨a, len, cap, m, n, V, D, Pl, h0, -, hl, hm, hmm, -, hx⟩
  · exact ⟨[], ⟨.inl ⟨rfl, none, 0, by simpa using h0⟩, by simp, by simp⟩⟩
  · have hm2 : len ≤ m := by rw [hmm]; split <;> omega
    have hv : v = .slice (some a) len cap := by simpa using h0
    rw [hv]
    clear h0 hv
    by_cases hz : len = 0
    · subst hz
      exact ⟨[], ⟨.inl ⟨rfl, some a, cap, rfl⟩, by simp, by simp⟩⟩
    obtain ⟨g, off, spot⟩ := a
    have h00 := (hx 0 (by omega)).1
    have hs : spot = none := by
      unfold World.cell? at h00
      rw [show (Addr.add ⟨g, off, spot⟩ 0) = ⟨g, off, spot⟩ from rfl] at h00
      cases spot with
      | none => rfl
      | some s => split at h00 <;> simp at h00
    subst hs
    have hadd : ∀ i, Addr.add ⟨g, off, none⟩ i = ⟨g, off + i, none⟩ := fun i => by
      unfold Addr.add
      by_cases h : i = 0
      · subst h; rfl
      · rw [if_neg h]
    let xs : List Int := (List.range len).map fun i => match V i with | .int _ x => x | _ => 0
    have hxs : xs.length = len := by simp [xs]
    have key : ∀ i, i < len → V i = .int .i64 (ith xs i) ∧ I64j (ith xs i) := by
      intro i hi
      obtain ⟨h1, h2⟩ := hx i (by omega)
      obtain ⟨b, hb, hb2⟩ := trod_int1j he h2
      have : ith xs i = b := by
        unfold ith
        simp only [xs, List.getD_eq_getElem?_getD, List.getElem?_map, List.getElem?_range hi, Option.map_some, Option.getD_some, hb]
      rw [this]; exact ⟨hb, hb2⟩
    refine ⟨xs, ⟨.inr ⟨g, off, cap, by rw [hxs], cell_block h00, fun i hi => ?_⟩, fun x hx' => ?_, by omega⟩⟩
    · rw [hxs] at hi
      obtain ⟨h1, -⟩ := hx i (by omega)
      rw [(key i hi).1, hadd] at h1
      exact h1
    · obtain ⟨i, hi, rfl⟩ := List.mem_iff_getElem.1 hx'
      have := (key i (by omega)).2
      unfold ith at this
      rwa [List.getD_eq_getElem?_getD, List.getElem?_eq_getElem hi, Option.getD_some] at this


theorem shape_centre {H : Type} {enc : TypeId × Value → H} {W : World} {v : Value} {d : DataW H} {ps : List MemPlace} {base : Nat} (hv : Value.okWide Try.prog W .any base 63 v) (h : DataW.Trod enc Try.prog W 0 (fun _ => true) true 63 v d ps) :
    ∃ (p : Int) (a : Option Addr) (cap : Nat) (xs : List Int), v = .agg (ce p (.slice a xs.length cap)) ∧ I64j p ∧ ISl W (.slice a xs.length cap) xs := by
  obtain ⟨cs, rfl, hsz⟩ := okWide_struct Try.underlying63 hv
  clear hv
  have hc2 : Try.prog.cellsOf 63 = 2 := by kernel_rfl
  rw [hc2] at hsz
  obtain ⟨c0, c1, rfl⟩ : ∃ c0 c1, cs = #[c0, c1] := by
    obtain ⟨l⟩ := cs
    match l, hsz with
    | [c0, c1], _ => exact ⟨c0, c1, rfl⟩
  obtain ⟨fuel, h⟩ := h
  obtain ⟨y0, y1, m, -, -, h0, h1⟩ := trod_struct2 Try.underlying63 h
  have hcS : Try.prog.cellsOf 23 = 1 := by kernel_rfl
  have hci : Try.prog.cellsOf 2 = 1 := by kernel_rfl
  simp only [hcS, hci, Value.cells, List.drop_zero] at h0 h1
  have e1 : (List.drop 1 [c0, c1]).take 1 = [c1] := rfl
  have e0 : [c0, c1].take 1 = [c0] := rfl
  rw [e0] at h0
  rw [e1] at h1
  obtain ⟨p, rfl, hp⟩ := trod_int1j Try.underlying2 h0
  obtain ⟨xs, hx⟩ := trod_i64s Try.underlying23 Try.underlying2 (by kernel_rfl) h1
  obtain ⟨a, cap, rfl⟩ := hx.any
  exact ⟨p, a, cap, xs, rfl, hp, hx⟩

end Go.Proofs.Ytkaghfoaicbngab
