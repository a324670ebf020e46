/-
  SEVERAL TEXTS IN ONE.
-/
import Derived.Test.YtboahhipobcabaaGreatToPlan
import Derived.Deep.Slices
import Derived.Deep.Strs
import Derived.ChangeSame
import Derived.Test.YtboahhipobcabaaGreatG13
import Derived.Test.YtboahhipobcabaaGreatG8

/-
  CONTRACTS: the shape of a plan that came in.
-/
namespace Go.Proofs.YtboahhipobcabaaGreat
open Go Go.ChangeShapes Go.WideShapes Go.ChangeAt Go.RowKit
set_option maxRecDepth 100000

theorem trod_bool1 {H : Type} {enc : TypeId × Value → H} {P : Program} {w : World} {base : Nat} {sp : Nat → Bool} {hd : Bool} {t : TypeId} {n : Nat} {v : Value} {x : DataW H × List MemPlace} (ht : P.underlying t = some .bool) (h : DataW.trod enc P w base sp hd n t [v] = some x) : ∃ b, v = .bool b := by
  cases n with
  | zero => simp [DataW.trod] at h
  | succ n =>
    unfold DataW.trod at h
    rw [ht] at h
    split at h <;> simp_all
theorem trod_int1 {H : Type} {enc : TypeId × Value → H} {P : Program} {w : World} {base : Nat} {sp : Nat → Bool} {hd : Bool} {t : TypeId} {n : Nat} {v : Value} {x : DataW H × List MemPlace} (ht : P.underlying t = some (.int .i64)) (h : DataW.trod enc P w base sp hd n t [v] = some x) : ∃ b, v = .int .i64 b ∧ I64 b := by
  cases n with
  | zero => simp [DataW.trod] at h
  | succ n =>
    unfold DataW.trod at h
    rw [ht] at h
    split at h <;> simp_all
    rename_i k1 k2 b1 hk
    obtain ⟨⟨-, h1⟩, -⟩ := h
    subst hk
    simp [Lit.wf, IntKind.min, IntKind.max, IntKind.bits, IntKind.signed] at h1
    unfold I64; omega
theorem trod_arr {H : Type} {enc : TypeId × Value → H} {P : Program} {w : World} {base : Nat} {sp : Nat → Bool} {hd : Bool} {t e : TypeId} {k n : Nat} {cs : List Value} {x : DataW H × List MemPlace} (ht : P.underlying t = some (.array k e)) (h : DataW.trod enc P w base sp hd n t cs = some x) :
    ∃ m, cs.length = P.cellsOf t ∧ ∀ i, i < k → ∃ y, DataW.trod enc P w base sp hd m e ((cs.drop (i * P.cellsOf e)).take (P.cellsOf e)) = some y := by
  cases n with
  | zero => simp [DataW.trod] at h
  | succ n =>
    unfold DataW.trod at h
    rw [ht] at h
    split at h <;> simp_all
    obtain ⟨hl, xs, hp, -⟩ := h
    refine ⟨n, fun i hi => ?_⟩
    have := mapM_some_get hp i i (by simp [hi])
    have hlen := mapM_some_length hp
    rw [List.getElem?_eq_getElem (by rw [hlen]; simpa using hi)] at this
    have hxi : i < xs.length := by rw [hlen]; simpa using hi
    rw [show some xs[i] = some (xs[i].1, xs[i].2) from rfl] at this
    exact ⟨_, _, this⟩
/-- a slot's cells, from what its reading says -/
theorem trod_slot {H : Type} {enc : TypeId × Value → H} {w : World} {base : Nat} {sp : Nat → Bool} {hd : Bool} {n : Nat} {cs : List Value} {x : DataW H × List MemPlace} (h : DataW.trod enc Tryz.prog w base sp hd n 216 cs = some x) :
    ∃ (b : List Bool) (t : Int), cs = (sl1 b t).toList ∧ b.length = 8 ∧ I64 t := by
  obtain ⟨y0, y1, m, -, hl, h0, h1⟩ := trod_struct2 Tryz.underlying216 h
  have hc : Tryz.prog.cellsOf 216 = 9 := by kernel_rfl
  have hc8 : Tryz.prog.cellsOf 52 = 8 := by kernel_rfl
  have hcb : Tryz.prog.cellsOf 4 = 1 := by kernel_rfl
  have hci : Tryz.prog.cellsOf 2 = 1 := by kernel_rfl
  rw [hc] at hl
  simp only [hc8, hci, List.drop_zero] at h0 h1
  obtain ⟨m2, -, hb⟩ := trod_arr Tryz.underlying52 h0
  have hbit : ∀ i, i < 8 → ∃ b, cs[i]? = some (.bool b) := by
    intro i hi
    obtain ⟨y, hy⟩ := hb i hi
    rw [hcb, Nat.mul_one] at hy
    have e : ((cs.take 8).drop i).take 1 = [cs[i]'(by omega)] := by
      rw [List.drop_eq_getElem_cons (by simp; omega)]
      simp
    rw [e] at hy
    obtain ⟨b, hb⟩ := trod_bool1 Tryz.underlying4 hy
    exact ⟨b, by rw [List.getElem?_eq_getElem (by omega), hb]⟩
  have e8 : (cs.drop 8).take 1 = [cs[8]'(by omega)] := by
    rw [List.drop_eq_getElem_cons (by omega)]; rfl
  rw [e8] at h1
  obtain ⟨t, ht, hti⟩ := trod_int1 Tryz.underlying2 h1
  let b : List Bool := (List.range 8).map fun i => match cs[i]? with | some (Value.bool x) => x | _ => false
  have hbl : b.length = 8 := by simp [b]
  refine ⟨b, t, ?_, hbl, hti⟩
  rw [sl1_list]
  apply List.ext_getElem?
  intro i
  unfold sll
  rcases Nat.lt_or_ge i 8 with c | c
  · rw [List.getElem?_append_left (by simp [hbl]; exact c), List.getElem?_map]
    obtain ⟨x, hx⟩ := hbit i c
    simp [b, List.getElem?_map, List.getElem?_range c, hx]
  · rcases Nat.eq_or_lt_of_le c with c | c
    · subst c
      rw [List.getElem?_append_right (by simp [hbl]), List.getElem?_eq_getElem (by omega), ht]; simp [hbl]
    · rw [List.getElem?_eq_none (by omega), List.getElem?_eq_none (by simp [hbl]; omega)]

theorem shape_plan {H : Type} {enc : TypeId × Value → H} {W : World} {v : Value} {d : DataW H} {ps : List MemPlace} {base : Nat} (hv : Value.okWide Tryz.prog W .any base 122 v) (h : DataW.Trod enc Tryz.prog W 0 (fun _ => true) true 122 v d ps) :
    ∃ a cap xs b o, v = .agg (plC (.slice a xs.length cap) b o) ∧ SSl W (.slice a xs.length cap) xs ∧ I64 b ∧ I64 o := by
  obtain ⟨cs, rfl, hsz⟩ := okWide_struct Tryz.underlying122 hv
  clear hv
  have hc3 : Tryz.prog.cellsOf 122 = 3 := by kernel_rfl
  rw [hc3] at hsz
  obtain ⟨c0, c1, c2, rfl⟩ : ∃ c0 c1 c2, cs = #[c0, c1, c2] := by
    obtain ⟨l⟩ := cs
    match l, hsz with
    | [c0, c1, c2], _ => exact ⟨c0, c1, c2, rfl⟩
  obtain ⟨fuel, h⟩ := h
  obtain ⟨y0, y1, y2, m, -, -, h0, h1, h2⟩ := Go.Deep.trod_struct3 Tryz.underlying122 h
  have hcS : Tryz.prog.cellsOf 120 = 1 := by kernel_rfl
  have hci : Tryz.prog.cellsOf 2 = 1 := by kernel_rfl
  have hc9 : Tryz.prog.cellsOf 216 = 9 := by kernel_rfl
  simp only [hcS, hci, Value.cells, List.drop_zero] at h0 h1 h2
  have e1 : (List.drop 1 [c0, c1, c2]).take 1 = [c1] := rfl
  have e2 : (List.drop 2 [c0, c1, c2]).take 1 = [c2] := rfl
  have e0 : [c0, c1, c2].take 1 = [c0] := rfl
  rw [e0] at h0
  rw [e1] at h1
  rw [e2] at h2
  obtain ⟨b, rfl, hb⟩ := trod_int1 Tryz.underlying2 h1
  obtain ⟨o, rfl, ho⟩ := trod_int1 Tryz.underlying2 h2
  rcases Go.Deep.open_slice Tryz.underlying120 h0 with ⟨h0, -⟩ | ⟨a, len, cap, mm, n, D, Pl, h0, -, hl, hm, hmm, -, hx⟩
  · obtain rfl : c0 = .slice none 0 0 := by simpa using h0
    exact ⟨none, 0, [], b, o, rfl, ⟨.inl ⟨rfl, none, 0, rfl⟩, by simp [SlW], by simp⟩, hb, ho⟩
  · obtain rfl : c0 = .slice (some a) len cap := by simpa using h0
    have hm2 : len ≤ mm := by rw [hmm]; simp; exact hl
    rw [hc9] at hx
    by_cases hz : len = 0
    · subst hz
      exact ⟨some a, cap, [], b, o, rfl, ⟨.inl ⟨rfl, some a, cap, rfl⟩, by simp [SlW], by simp⟩, hb, ho⟩
    have hel : ∀ i, i < len → ∃ s : List Bool × Int, (s.1.length = 8 ∧ I64 s.2) ∧ ∀ j, j < 9 → W.cell? ((a.add (i * 9)).add j) = (sl1 s.1 s.2)[j]? := by
      intro i hi
      obtain ⟨cs', hcs, ht⟩ := hx i (by omega)
      obtain ⟨bb, t, rfl, hb8, hti⟩ := trod_slot ht
      obtain ⟨-, -, hat⟩ := World.cells?_some hcs
      exact ⟨(bb, t), ⟨hb8, hti⟩, fun j hj => by rw [hat j hj, Array.getElem?_toList]⟩
    obtain ⟨f, hf⟩ := Go.Deep.choose_lt hel
    obtain ⟨g, off, spot⟩ := a
    have h00 := (hf 0 (by omega)).2 0 (by omega)
    have hs : spot = none := by
      have e : ((Addr.mk g off spot).add (0 * 9)).add 0 = ⟨g, off, spot⟩ := rfl
      rw [e, sl1_green (hf 0 (by omega)).1.1 _ (by omega)] at h00
      unfold World.cell? at h00
      cases spot with
      | none => rfl
      | some s => split at h00 <;> simp at h00
    subst hs
    have hadd : ∀ i j, ((Addr.mk g off none).add i).add j = ⟨g, off + i + j, none⟩ := fun i j => by
      rw [Go.Deep.add_add]
      unfold Addr.add
      by_cases h : i + j = 0
      · rw [if_pos h]; congr 1; show off = _; omega
      · rw [if_neg h]; congr 1; show off + (i + j) = _; omega
    let xs : Slots := (List.range len).map f
    have hxs : xs.length = len := by simp [xs]
    have hat : ∀ i, i < len → xs.getD i ([], 0) = f i := fun i hi => by
      simp [xs, List.getD_eq_getElem?_getD, List.getElem?_map, List.getElem?_range hi]
    refine ⟨some ⟨g, off, none⟩, cap, xs, b, o, by rw [hxs]; rfl, ⟨.inr ⟨g, off, cap, rfl, ?_, fun i hi j hj => ?_⟩, fun s hs => ?_, by omega⟩, hb, ho⟩
    · rw [sl1_green (hf 0 (by omega)).1.1 _ (by omega)] at h00
      rw [hadd] at h00
      exact cell_block h00
    · rw [hxs] at hi
      have := (hf i hi).2 j hj
      rw [hadd] at this
      rw [this]
      unfold sb st
      rw [hat i hi]
    · obtain ⟨i, hi, rfl⟩ := List.mem_map.1 hs
      exact (hf i (by simpa using hi)).1

end Go.Proofs.YtboahhipobcabaaGreat

/-
  CONTRACTS: the shape of a slice of plans that came in.
-/
namespace Go.Proofs.YtboahhipobcabaaGreat
open Go Go.ChangeShapes Go.WideShapes Go.ChangeAt Go.RowKit Go.Deep
set_option maxRecDepth 100000

theorem trod_slots {H : Type} {enc : TypeId × Value → H} {W : World} {base : Nat} {sp : Nat → Bool} {hd : Bool} {n : Nat} {v : Value} {x : DataW H × List MemPlace} (h0 : DataW.trod enc Tryz.prog W base sp hd n 120 [v] = some x) :
    ∃ a cap xs, v = .slice a xs.length cap ∧ SSl W (.slice a xs.length cap) xs := by
  have hc9 : Tryz.prog.cellsOf 216 = 9 := by kernel_rfl
  rcases Go.Deep.open_slice Tryz.underlying120 h0 with ⟨h0, -⟩ | ⟨a, len, cap, mm, n, D, Pl, h0, -, hl, hm, hmm, -, hx⟩
  · obtain rfl : v = .slice none 0 0 := by simpa using h0
    exact ⟨none, 0, [], rfl, ⟨.inl ⟨rfl, none, 0, rfl⟩, by simp [SlW], by simp⟩⟩
  · obtain rfl : v = .slice (some a) len cap := by simpa using h0
    have hm2 : len ≤ mm := by rw [hmm]; split <;> omega
    rw [hc9] at hx
    by_cases hz : len = 0
    · subst hz
      exact ⟨some a, cap, [], rfl, ⟨.inl ⟨rfl, some a, cap, rfl⟩, by simp [SlW], by simp⟩⟩
    have hel : ∀ i, i < len → ∃ s : List Bool × Int, (s.1.length = 8 ∧ I64 s.2) ∧ ∀ j, j < 9 → W.cell? ((a.add (i * 9)).add j) = (sl1 s.1 s.2)[j]? := by
      intro i hi
      obtain ⟨cs', hcs, ht⟩ := hx i (by omega)
      obtain ⟨bb, t, rfl, hb8, hti⟩ := trod_slot ht
      obtain ⟨-, -, hat⟩ := World.cells?_some hcs
      exact ⟨(bb, t), ⟨hb8, hti⟩, fun j hj => by rw [hat j hj, Array.getElem?_toList]⟩
    obtain ⟨f, hf⟩ := Go.Deep.choose_lt hel
    obtain ⟨g, off, spot⟩ := a
    have h00 := (hf 0 (by omega)).2 0 (by omega)
    have hs : spot = none := by
      have e : ((Addr.mk g off spot).add (0 * 9)).add 0 = ⟨g, off, spot⟩ := rfl
      rw [e, sl1_green (hf 0 (by omega)).1.1 _ (by omega)] at h00
      unfold World.cell? at h00
      cases spot with
      | none => rfl
      | some s => split at h00 <;> simp at h00
    subst hs
    have hadd : ∀ i j, ((Addr.mk g off none).add i).add j = ⟨g, off + i + j, none⟩ := fun i j => by
      rw [Go.Deep.add_add]
      unfold Addr.add
      by_cases h : i + j = 0
      · rw [if_pos h]; congr 1; show off = _; omega
      · rw [if_neg h]; congr 1; show off + (i + j) = _; omega
    let xs : Slots := (List.range len).map f
    have hxs : xs.length = len := by simp [xs]
    have hat : ∀ i, i < len → xs.getD i ([], 0) = f i := fun i hi => by
      simp [xs, List.getD_eq_getElem?_getD, List.getElem?_map, List.getElem?_range hi]
    refine ⟨some ⟨g, off, none⟩, cap, xs, by rw [hxs], ⟨.inr ⟨g, off, cap, rfl, ?_, fun i hi j hj => ?_⟩, fun s hs => ?_, by omega⟩⟩
    · rw [sl1_green (hf 0 (by omega)).1.1 _ (by omega)] at h00
      rw [hadd] at h00
      exact cell_block h00
    · rw [hxs] at hi
      have := (hf i hi).2 j hj
      rw [hadd] at this
      rw [this]
      unfold sb st
      rw [hat i hi]
    · obtain ⟨i, hi, rfl⟩ := List.mem_map.1 hs
      exact (hf i (by simpa using hi)).1

theorem trod_plan {H : Type} {enc : TypeId × Value → H} {W : World} {base : Nat} {sp : Nat → Bool} {hd : Bool} {n : Nat} {cs : List Value} {x : DataW H × List MemPlace} (h : DataW.trod enc Tryz.prog W base sp hd n 122 cs = some x) :
    ∃ a cap xs b o, cs = (plC (.slice a xs.length cap) b o).toList ∧ SSl W (.slice a xs.length cap) xs ∧ I64 b ∧ I64 o := by
  obtain ⟨y0, y1, y2, m, -, hl, h0, h1, h2⟩ := Go.Deep.trod_struct3 Tryz.underlying122 h
  have hc3 : Tryz.prog.cellsOf 122 = 3 := by kernel_rfl
  have hcS : Tryz.prog.cellsOf 120 = 1 := by kernel_rfl
  have hci : Tryz.prog.cellsOf 2 = 1 := by kernel_rfl
  rw [hc3] at hl
  obtain ⟨c0, c1, c2, rfl⟩ : ∃ c0 c1 c2, cs = [c0, c1, c2] := by
    match cs, hl with
    | [c0, c1, c2], _ => exact ⟨c0, c1, c2, rfl⟩
  simp only [hcS, hci, List.drop_zero] at h0 h1 h2
  have e1 : (List.drop 1 [c0, c1, c2]).take 1 = [c1] := rfl
  have e2 : (List.drop 2 [c0, c1, c2]).take 1 = [c2] := rfl
  have e0 : [c0, c1, c2].take 1 = [c0] := rfl
  rw [e0] at h0
  rw [e1] at h1
  rw [e2] at h2
  obtain ⟨b, rfl, hb⟩ := trod_int1 Tryz.underlying2 h1
  obtain ⟨o, rfl, ho⟩ := trod_int1 Tryz.underlying2 h2
  obtain ⟨a, cap, xs, rfl, hs⟩ := trod_slots h0
  exact ⟨a, cap, xs, b, o, rfl, hs, hb, ho⟩

theorem trod_plans {H : Type} {enc : TypeId × Value → H} {W : World} {base : Nat} {sp : Nat → Bool} {hd : Bool} {n : Nat} {v : Value} {x : DataW H × List MemPlace} (h0 : DataW.trod enc Tryz.prog W base sp hd n 25 [v] = some x) :
    ∃ ps, PSl W v ps := by
  have hc9 : Tryz.prog.cellsOf 122 = 3 := by kernel_rfl
  rcases Go.Deep.open_slice Tryz.underlying25 h0 with ⟨h0, -⟩ | ⟨a, len, cap, mm, n, D, Pl, h0, -, hl, hm, hmm, -, hx⟩
  · obtain rfl : v = .slice none 0 0 := by simpa using h0
    exact ⟨[], ⟨.inl ⟨rfl, none, 0, rfl⟩, by simp⟩⟩
  · obtain rfl : v = .slice (some a) len cap := by simpa using h0
    have hm2 : len ≤ mm := by rw [hmm]; split <;> omega
    rw [hc9] at hx
    by_cases hz : len = 0
    · subst hz
      exact ⟨[], ⟨.inl ⟨rfl, some a, cap, rfl⟩, by simp⟩⟩
    have hel : ∀ i, i < len → ∃ s : Slots × Int × Int, (∃ a' c, SSl W (.slice a' s.1.length c) s.1 ∧ ∀ j, j < 3 → W.cell? ((a.add (i * 3)).add j) = (plC (.slice a' s.1.length c) s.2.1 s.2.2)[j]?) := by
      intro i hi
      obtain ⟨cs', hcs, ht⟩ := hx i (by omega)
      obtain ⟨a, c, xs, b, o, rfl, hs, -, -⟩ := trod_plan ht
      obtain ⟨-, -, hat⟩ := World.cells?_some hcs
      exact ⟨(xs, b, o), a, c, hs, fun j hj => by rw [hat j hj, Array.getElem?_toList]⟩
    obtain ⟨f, hf⟩ := Go.Deep.choose_lt hel
    obtain ⟨g, off, spot⟩ := a
    have h00 : ∃ u, W.cell? ⟨g, off, spot⟩ = some u := by
      obtain ⟨a, c, hs, hj⟩ := hf 0 (by omega)
      have := hj 0 (by omega)
      have e : ((Addr.mk g off spot).add (0 * 3)).add 0 = ⟨g, off, spot⟩ := rfl
      rw [e] at this
      exact ⟨_, this⟩
    obtain ⟨u0, h00⟩ := h00
    have hs : spot = none := by
      unfold World.cell? at h00
      cases spot with
      | none => rfl
      | some s => split at h00 <;> simp at h00
    subst hs
    have hadd : ∀ i j, ((Addr.mk g off none).add i).add j = ⟨g, off + i + j, none⟩ := fun i j => by
      rw [Go.Deep.add_add]
      unfold Addr.add
      by_cases h : i + j = 0
      · rw [if_pos h]; congr 1; show off = _; omega
      · rw [if_neg h]; congr 1; show off + (i + j) = _; omega
    let xs : Ps := (List.range len).map f
    have hxs : xs.length = len := by simp [xs]
    have hat : ∀ i, i < len → xs.getD i ([], 0, 0) = f i := fun i hi => by
      simp [xs, List.getD_eq_getElem?_getD, List.getElem?_map, List.getElem?_range hi]
    refine ⟨xs, ⟨.inr ⟨g, off, cap, by rw [hxs], cell_block h00, fun i hi => ?_⟩, by omega⟩⟩
    rw [hxs] at hi
    obtain ⟨a, c, hs, hj⟩ := hf i hi
    unfold pS pB pO
    rw [hat i hi]
    exact ⟨a, c, hs, fun j hj' => by rw [← hadd]; exact hj j hj'⟩

theorem shape_plans {H : Type} {enc : TypeId × Value → H} {W : World} {v : Value} {d : DataW H} {ps : List MemPlace} (hv : ∃ a len cap, v = .slice a len cap) (h : DataW.Trod enc Tryz.prog W 0 (fun _ => true) true 25 v d ps) : ∃ xs, PSl W v xs := by
  obtain ⟨fuel, h⟩ := h
  obtain ⟨a0, l0, c0, rfl⟩ := hv
  have e1 : (Value.slice a0 l0 c0).cells.toList = [.slice a0 l0 c0] := rfl
  rw [e1] at h
  exact trod_plans h

end Go.Proofs.YtboahhipobcabaaGreat
