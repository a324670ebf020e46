/-
  CONTRACTS: the shape of a slice of plans that came in.
-/
import Derived.Test.YtboahhipobcababG22
import Derived.Test.YtboahhipobcababG9
import Derived.Test.YtboahhipobcababLawS
namespace Go.Proofs.Ytboahhipobcabab
open Go Go.ChangeShapes Go.WideShapes Go.ChangeAt Go.RowKit Go.Deep
set_option maxRecDepth 100000

theorem trod_slots {H : Type} {enc : TypeId × Value → H} {W : World} {base : Nat} {sp : Nat → Bool} {hd : Bool} {n : Nat} {v : Value} {x : DataW H × List MemPlace} (h0 : DataW.trod enc Try.prog W base sp hd n 91 [v] = some x) :
    ∃ a cap xs, v = .slice a xs.length cap ∧ SSl W (.slice a xs.length cap) xs := by
  have hc9 : Try.prog.cellsOf 188 = 9 := by kernel_rfl
  rcases Go.Deep.open_slice Try.underlying91 h0 with ⟨h0, -⟩ | ⟨a, len, cap, mm, n, D, Pl, h0, -, hl, hm, hmm, -, hx⟩
  · obtain rfl : v = .slice none 0 0 := by simpa using h0
    exact ⟨none, 0, [], rfl, ⟨.inl ⟨rfl, none, 0, rfl⟩, by simp [SlW], by simp⟩⟩
  · obtain rfl : v = .slice (some a) len cap := by simpa using h0
    have hm2 : len ≤ mm := by rw [hmm]; split <;> omega
    rw [hc9] at hx
    by_cases hz : len = 0
    · subst hz
      exact ⟨some a, cap, [], rfl, ⟨.inl ⟨rfl, some a, cap, rfl⟩, by simp [SlW], by simp⟩⟩
    have hel : ∀ i, i < len → ∃ s : List Bool × Int, (s.1.length = 8 ∧ I64 s.2) ∧ ∀ j, j < 9 → W.cell? ((a.add (i * 9)).add j) = (sl1 s.1 s.2)[j]? := by
      intro i hi
      obtain ⟨cs', hcs, ht⟩ := hx i (by omega)
      obtain ⟨bb, t, rfl, hb8, hti⟩ := trod_slot ht
      obtain ⟨-, -, hat⟩ := World.cells?_some hcs
      exact ⟨(bb, t), ⟨hb8, hti⟩, fun j hj => by rw [hat j hj, Array.getElem?_toList]⟩
    obtain ⟨f, hf⟩ := Go.Deep.choose_lt hel
    obtain ⟨g, off, spot⟩ := a
    have h00 := (hf 0 (by omega)).2 0 (by omega)
    have hs : spot = none := by
      have e : ((Addr.mk g off spot).add (0 * 9)).add 0 = ⟨g, off, spot⟩ := rfl
      rw [e, sl1_green (hf 0 (by omega)).1.1 _ (by omega)] at h00
      unfold World.cell? at h00
      cases spot with
      | none => rfl
      | some s => split at h00 <;> simp at h00
    subst hs
    have hadd : ∀ i j, ((Addr.mk g off none).add i).add j = ⟨g, off + i + j, none⟩ := fun i j => by
      rw [Go.Deep.add_add]
      unfold Addr.add
      by_cases h : i + j = 0
      · rw [if_pos h]; congr 1; show off = _; omega
      · rw [if_neg h]; congr 1; show off + (i + j) = _; omega
    let xs : Slots := (List.range len).map f
    have hxs : xs.length = len := by simp [xs]
    have hat : ∀ i, i < len → xs.getD i ([], 0) = f i := fun i hi => by
      simp [xs, List.getD_eq_getElem?_getD, List.getElem?_map, List.getElem?_range hi]
    refine ⟨some ⟨g, off, none⟩, cap, xs, by rw [hxs], ⟨.inr ⟨g, off, cap, rfl, ?_, fun i hi j hj => ?_⟩, fun s hs => ?_, by omega⟩⟩
    · rw [sl1_green (hf 0 (by omega)).1.1 _ (by omega)] at h00
      rw [hadd] at h00
      exact cell_block h00
    · rw [hxs] at hi
      have := (hf i hi).2 j hj
      rw [hadd] at this
      rw [this]
      unfold sb st
      rw [hat i hi]
    · obtain ⟨i, hi, rfl⟩ := List.mem_map.1 hs
      exact (hf i (by simpa using hi)).1

theorem trod_plan {H : Type} {enc : TypeId × Value → H} {W : World} {base : Nat} {sp : Nat → Bool} {hd : Bool} {n : Nat} {cs : List Value} {x : DataW H × List MemPlace} (h : DataW.trod enc Try.prog W base sp hd n 93 cs = some x) :
    ∃ a cap xs b o, cs = (plC (.slice a xs.length cap) b o).toList ∧ SSl W (.slice a xs.length cap) xs ∧ I64 b ∧ I64 o := by
  obtain ⟨y0, y1, y2, m, -, hl, h0, h1, h2⟩ := Go.Deep.trod_struct3 Try.underlying93 h
  have hc3 : Try.prog.cellsOf 93 = 3 := by kernel_rfl
  have hcS : Try.prog.cellsOf 91 = 1 := by kernel_rfl
  have hci : Try.prog.cellsOf 2 = 1 := by kernel_rfl
  rw [hc3] at hl
  obtain ⟨c0, c1, c2, rfl⟩ : ∃ c0 c1 c2, cs = [c0, c1, c2] := by
    match cs, hl with
    | [c0, c1, c2], _ => exact ⟨c0, c1, c2, rfl⟩
  simp only [hcS, hci, List.drop_zero] at h0 h1 h2
  have e1 : (List.drop 1 [c0, c1, c2]).take 1 = [c1] := rfl
  have e2 : (List.drop 2 [c0, c1, c2]).take 1 = [c2] := rfl
  have e0 : [c0, c1, c2].take 1 = [c0] := rfl
  rw [e0] at h0
  rw [e1] at h1
  rw [e2] at h2
  obtain ⟨b, rfl, hb⟩ := trod_int1 Try.underlying2 h1
  obtain ⟨o, rfl, ho⟩ := trod_int1 Try.underlying2 h2
  obtain ⟨a, cap, xs, rfl, hs⟩ := trod_slots h0
  exact ⟨a, cap, xs, b, o, rfl, hs, hb, ho⟩

theorem trod_plans {H : Type} {enc : TypeId × Value → H} {W : World} {base : Nat} {sp : Nat → Bool} {hd : Bool} {n : Nat} {v : Value} {x : DataW H × List MemPlace} (h0 : DataW.trod enc Try.prog W base sp hd n 22 [v] = some x) :
    ∃ ps, PSl W v ps := by
  have hc9 : Try.prog.cellsOf 93 = 3 := by kernel_rfl
  rcases Go.Deep.open_slice Try.underlying22 h0 with ⟨h0, -⟩ | ⟨a, len, cap, mm, n, D, Pl, h0, -, hl, hm, hmm, -, hx⟩
  · obtain rfl : v = .slice none 0 0 := by simpa using h0
    exact ⟨[], ⟨.inl ⟨rfl, none, 0, rfl⟩, by simp⟩⟩
  · obtain rfl : v = .slice (some a) len cap := by simpa using h0
    have hm2 : len ≤ mm := by rw [hmm]; split <;> omega
    rw [hc9] at hx
    by_cases hz : len = 0
    · subst hz
      exact ⟨[], ⟨.inl ⟨rfl, some a, cap, rfl⟩, by simp⟩⟩
    have hel : ∀ i, i < len → ∃ s : Slots × Int × Int, (∃ a' c, SSl W (.slice a' s.1.length c) s.1 ∧ ∀ j, j < 3 → W.cell? ((a.add (i * 3)).add j) = (plC (.slice a' s.1.length c) s.2.1 s.2.2)[j]?) := by
      intro i hi
      obtain ⟨cs', hcs, ht⟩ := hx i (by omega)
      obtain ⟨a, c, xs, b, o, rfl, hs, -, -⟩ := trod_plan ht
      obtain ⟨-, -, hat⟩ := World.cells?_some hcs
      exact ⟨(xs, b, o), a, c, hs, fun j hj => by rw [hat j hj, Array.getElem?_toList]⟩
    obtain ⟨f, hf⟩ := Go.Deep.choose_lt hel
    obtain ⟨g, off, spot⟩ := a
    have h00 : ∃ u, W.cell? ⟨g, off, spot⟩ = some u := by
      obtain ⟨a, c, hs, hj⟩ := hf 0 (by omega)
      have := hj 0 (by omega)
      have e : ((Addr.mk g off spot).add (0 * 3)).add 0 = ⟨g, off, spot⟩ := rfl
      rw [e] at this
      exact ⟨_, this⟩
    obtain ⟨u0, h00⟩ := h00
    have hs : spot = none := by
      unfold World.cell? at h00
      cases spot with
      | none => rfl
      | some s => split at h00 <;> simp at h00
    subst hs
    have hadd : ∀ i j, ((Addr.mk g off none).add i).add j = ⟨g, off + i + j, none⟩ := fun i j => by
      rw [Go.Deep.add_add]
      unfold Addr.add
      by_cases h : i + j = 0
      · rw [if_pos h]; congr 1; show off = _; omega
      · rw [if_neg h]; congr 1; show off + (i + j) = _; omega
    let xs : Ps := (List.range len).map f
    have hxs : xs.length = len := by simp [xs]
    have hat : ∀ i, i < len → xs.getD i ([], 0, 0) = f i := fun i hi => by
      simp [xs, List.getD_eq_getElem?_getD, List.getElem?_map, List.getElem?_range hi]
    refine ⟨xs, ⟨.inr ⟨g, off, cap, by rw [hxs], cell_block h00, fun i hi => ?_⟩, by omega⟩⟩
    rw [hxs] at hi
    obtain ⟨a, c, hs, hj⟩ := hf i hi
    unfold pS pB pO
    rw [hat i hi]
    exact ⟨a, c, hs, fun j hj' => by rw [← hadd]; exact hj j hj'⟩

theorem shape_plans {H : Type} {enc : TypeId × Value → H} {W : World} {v : Value} {d : DataW H} {ps : List MemPlace} (hv : ∃ a len cap, v = .slice a len cap) (h : DataW.Trod enc Try.prog W 0 (fun _ => true) true 22 v d ps) : ∃ xs, PSl W v xs := by
  obtain ⟨fuel, h⟩ := h
  obtain ⟨a0, l0, c0, rfl⟩ := hv
  have e1 : (Value.slice a0 l0 c0).cells.toList = [.slice a0 l0 c0] := rfl
  rw [e1] at h
  exact trod_plans h

end Go.Proofs.Ytboahhipobcabab
