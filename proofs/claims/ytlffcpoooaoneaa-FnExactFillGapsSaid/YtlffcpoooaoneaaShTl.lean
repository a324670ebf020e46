/-
  CONTRACTS: the shape of a slice of tallies that came in.
-/
import Derived.Test.YtlffcpoooaoneaaToTls
import Derived.Deep.Slices
import Derived.Deep.Strs
import Derived.ChangeSame
namespace Go.Proofs.Ytlffcpoooaoneaa
open Go Go.ChangeShapes Go.WideShapes Go.ChangeAt Go.RowKit
set_option maxRecDepth 100000

theorem trod_num {H : Type} {enc : TypeId × Value → H} {P : Program} {w : World} {base : Nat} {sp : Nat → Bool} {hd : Bool} {t : TypeId} {n : Nat} {v : Value} {x : DataW H × List MemPlace} {k : IntKind} (ht : P.underlying t = some (.int k)) (h : DataW.trod enc P w base sp hd n t [v] = some x) : ∃ b, v = .int k b ∧ k.min ≤ b ∧ b ≤ k.max := by
  cases n with
  | zero => simp [DataW.trod] at h
  | succ n =>
    unfold DataW.trod at h
    rw [ht] at h
    split at h <;> simp_all
    rename_i k1 k2 b1 hk
    obtain ⟨⟨-, h1⟩, -⟩ := h
    subst hk
    simpa [Lit.wf] using h1
/-- a tally's cells, from what its reading says -/
theorem trod_tally {H : Type} {enc : TypeId × Value → H} {w : World} {base : Nat} {sp : Nat → Bool} {hd : Bool} {n : Nat} {cs : List Value} {x : DataW H × List MemPlace} (h : DataW.trod enc Try.prog w base sp hd n 113 cs = some x) :
    ∃ t c f : Int, cs = (t1 t c f).toList ∧ I64t t ∧ I16 c ∧ I16 f := by
  obtain ⟨y0, y1, y2, m, -, hl, h0, h1, h2⟩ := Go.Deep.trod_struct3 Try.underlying113 h
  have hc : Try.prog.cellsOf 113 = 3 := by kernel_rfl
  have hci : Try.prog.cellsOf 2 = 1 := by kernel_rfl
  have hcs : Try.prog.cellsOf 34 = 1 := by kernel_rfl
  rw [hc] at hl
  obtain ⟨c0, c1, c2, rfl⟩ : ∃ c0 c1 c2, cs = [c0, c1, c2] := by
    match cs, hl with
    | [c0, c1, c2], _ => exact ⟨c0, c1, c2, rfl⟩
  simp only [hci, hcs, List.drop_zero] at h0 h1 h2
  have e1 : (List.drop 1 [c0, c1, c2]).take 1 = [c1] := rfl
  have e2 : (List.drop 2 [c0, c1, c2]).take 1 = [c2] := rfl
  have e0 : [c0, c1, c2].take 1 = [c0] := rfl
  rw [e0] at h0
  rw [e1] at h1
  rw [e2] at h2
  obtain ⟨t, rfl, ht1, ht2⟩ := trod_num Try.underlying2 h0
  obtain ⟨c, rfl, hc1, hc2⟩ := trod_num Try.underlying34 h1
  obtain ⟨f, rfl, hf1, hf2⟩ := trod_num Try.underlying34 h2
  exact ⟨t, c, f, rfl, ⟨ht1, ht2⟩, ⟨hc1, hc2⟩, ⟨hf1, hf2⟩⟩

theorem shape_tl {H : Type} {enc : TypeId × Value → H} {W : World} {v : Value} {d : DataW H} {ps : List MemPlace} (hv : ∃ a len cap, v = .slice a len cap) (h : DataW.Trod enc Try.prog W 0 (fun _ => true) true 22 v d ps) : ∃ a cap xs, v = .slice a xs.length cap ∧ STl W (.slice a xs.length cap) xs := by
  obtain ⟨fuel, h⟩ := h
  obtain ⟨a0, l0, cap0, rfl⟩ := hv
  have hc3 : Try.prog.cellsOf 113 = 3 := by kernel_rfl
  have e1 : (Value.slice a0 l0 cap0).cells.toList = [.slice a0 l0 cap0] := rfl
  rw [e1] at h
  rcases Go.Deep.open_slice Try.underlying22 h with ⟨h0, -⟩ | ⟨a, len, cap, mm, n, D, Pl, h0, -, hl, hm, hmm, -, hx⟩
  · obtain ⟨rfl, rfl, rfl⟩ : a0 = none ∧ l0 = 0 ∧ cap0 = 0 := by simpa using h0
    exact ⟨none, 0, [], rfl, ⟨.inl ⟨rfl, none, 0, rfl⟩, by simp [TW], by simp⟩⟩
  · obtain ⟨rfl, rfl, rfl⟩ : a0 = some a ∧ l0 = len ∧ cap0 = cap := by simpa using h0
    have hm2 : l0 ≤ mm := by rw [hmm]; simp; exact hl
    rw [hc3] at hx
    by_cases hz : l0 = 0
    · subst hz
      exact ⟨some a, cap0, [], rfl, ⟨.inl ⟨rfl, some a, cap0, rfl⟩, by simp [TW], by simp⟩⟩
    have hel : ∀ i, i < l0 → ∃ s : Int × Int × Int, (I64t s.1 ∧ I16 s.2.1 ∧ I16 s.2.2) ∧ ∀ j, j < 3 → W.cell? ((a.add (i * 3)).add j) = (t1 s.1 s.2.1 s.2.2)[j]? := by
      intro i hi
      obtain ⟨cs', hcs, ht⟩ := hx i (by omega)
      obtain ⟨t, c, f, rfl, hw⟩ := trod_tally ht
      obtain ⟨-, -, hat⟩ := World.cells?_some hcs
      exact ⟨(t, c, f), hw, fun j hj => by rw [hat j hj, Array.getElem?_toList]⟩
    obtain ⟨f, hf⟩ := Go.Deep.choose_lt hel
    obtain ⟨g, off, spot⟩ := a
    have h00 := (hf 0 (by omega)).2 0 (by omega)
    have hs : spot = none := by
      have e : ((Addr.mk g off spot).add (0 * 3)).add 0 = ⟨g, off, spot⟩ := rfl
      rw [e, t1_0] at h00
      unfold World.cell? at h00
      cases spot with
      | none => rfl
      | some s => split at h00 <;> simp at h00
    subst hs
    have hadd : ∀ i j, ((Addr.mk g off none).add i).add j = ⟨g, off + i + j, none⟩ := fun i j => by
      rw [Go.Deep.add_add]
      unfold Addr.add
      by_cases h : i + j = 0
      · rw [if_pos h]; congr 1; show off = _; omega
      · rw [if_neg h]; congr 1; show off + (i + j) = _; omega
    let xs : Ts := (List.range l0).map f
    have hxs : xs.length = l0 := by simp [xs]
    have hat : ∀ i, i < l0 → xs.getD i (0, 0, 0) = f i := fun i hi => by
      simp [xs, List.getD_eq_getElem?_getD, List.getElem?_map, List.getElem?_range hi]
    refine ⟨some ⟨g, off, none⟩, cap0, xs, by rw [hxs], ⟨.inr ⟨g, off, cap0, rfl, ?_, fun i hi j hj => ?_⟩, fun s hs => ?_, by omega⟩⟩
    · rw [t1_0] at h00
      rw [hadd] at h00
      exact cell_block h00
    · rw [hxs] at hi
      have := (hf i hi).2 j hj
      rw [hadd] at this
      rw [this]
      unfold tn tc tf
      rw [hat i hi]
    · obtain ⟨i, hi, rfl⟩ := List.mem_map.1 hs
      exact (hf i (by simpa using hi)).1

end Go.Proofs.Ytlffcpoooaoneaa
