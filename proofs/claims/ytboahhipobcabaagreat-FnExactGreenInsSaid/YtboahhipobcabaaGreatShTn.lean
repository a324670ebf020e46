/-
  CONTRACTS: the shape of a town that came in.
-/
import Derived.Test.YtboahhipobcabaaGreatTn
import Derived.Test.YtboahhipobcabaaGreatG21
import Derived.Lib.SmallJoins
namespace Go.Proofs.YtboahhipobcabaaGreat
open Go Go.ChangeShapes Go.WideShapes Go.ChangeAt Go.RowKit Go.Deep
set_option maxRecDepth 100000

instance : Inhabited Rd4 := ⟨zR⟩

instance : Inhabited Jt := ⟨zJ⟩
theorem floats_of : ∀ (cs : List Value), (∀ i, i < cs.length → ∃ b, cs[i]? = some (.float .f32 b) ∧ b < 4294967296) → ∃ xs : List Nat, cs = xs.map (Value.float .f32) ∧ xs.length = cs.length ∧ ∀ x ∈ xs, x < 4294967296
  | [], _ => ⟨[], rfl, rfl, by simp⟩
  | c :: cs, h => by
    obtain ⟨b, hb, hb2⟩ := h 0 (by simp)
    obtain ⟨xs, h1, h2, h3⟩ := floats_of cs fun i hi => by
      have := h (i + 1) (by simp; omega)
      simpa using this
    refine ⟨b :: xs, ?_, by simp [h2], fun x hx => ?_⟩
    · rw [List.map_cons, ← h1]
      have : c = .float .f32 b := by simpa using hb
      rw [this]
    · rcases List.mem_cons.1 hx with rfl | hx
      · exact hb2
      · exact h3 x hx

theorem take_one {cs : List Value} {i : Nat} (h : i < cs.length) : (cs.drop i).take 1 = [cs[i]] := by
  rw [List.drop_eq_getElem_cons h]; rfl

theorem trod_floats {H : Type} {enc : TypeId × Value → H} {W : World} {base : Nat} {sp : Nat → Bool} {hd : Bool} {n : Nat} {cs : List Value} {x : DataW H × List MemPlace} {t : TypeId} {k : Nat} (ht : Tryz.prog.underlying t = some (.array k 26)) (hk : Tryz.prog.cellsOf t = k) (h : DataW.trod enc Tryz.prog W base sp hd n t cs = some x) :
    ∃ xs : List Nat, cs = xs.map (Value.float .f32) ∧ xs.length = k ∧ ∀ x ∈ xs, x < 4294967296 := by
  obtain ⟨m, hl, hb⟩ := trod_arr ht h
  have hcb : Tryz.prog.cellsOf 26 = 1 := by kernel_rfl
  rw [hk] at hl
  obtain ⟨xs, h1, h2, h3⟩ := floats_of cs fun i hi => by
    obtain ⟨y, hy⟩ := hb i (by omega)
    rw [hcb, Nat.mul_one, take_one hi] at hy
    obtain ⟨b, hb, hb2⟩ := trod_float1 Tryz.underlying26 hy
    exact ⟨b, by rw [List.getElem?_eq_getElem hi, hb], hb2⟩
  exact ⟨xs, h1, by omega, h3⟩

theorem trod_road {H : Type} {enc : TypeId × Value → H} {W : World} {base : Nat} {sp : Nat → Bool} {hd : Bool} {n : Nat} {cs : List Value} {x : DataW H × List MemPlace} (h : DataW.trod enc Tryz.prog W base sp hd n 129 cs = some x) : ∃ r : Rd4, cs = (rdr r).toList := by
  obtain ⟨y0, y1, y2, y3, m, -, hl, h0, h1, h2, h3⟩ := Go.Joins.trod_struct4 Tryz.underlying129 h
  have hc : Tryz.prog.cellsOf 129 = 19 := by kernel_rfl
  have hcb : Tryz.prog.cellsOf 26 = 1 := by kernel_rfl
  have hca : Tryz.prog.cellsOf 61 = 16 := by kernel_rfl
  rw [hc] at hl
  simp only [hcb, hca, List.drop_zero] at h0 h1 h2 h3
  rw [take_one (by omega)] at h1 h2 h3
  obtain ⟨xs, e0, hx, hlt⟩ := trod_floats Tryz.underlying61 hca h0
  obtain ⟨p, e1, hp⟩ := trod_float1 Tryz.underlying26 h1
  obtain ⟨b, e2, hb⟩ := trod_float1 Tryz.underlying26 h2
  obtain ⟨l, e3, hla⟩ := trod_float1 Tryz.underlying26 h3
  refine ⟨⟨xs, p, b, l, hx, hlt, hp, hb, hla⟩, ?_⟩
  show cs = ((xs ++ [p, b, l]).map (Value.float .f32))
  rw [List.map_append, ← e0]
  show cs = cs.take 16 ++ [.float .f32 p, .float .f32 b, .float .f32 l]
  rw [← e1, ← e2, ← e3]
  apply List.ext_getElem
  · simp [hl]
  · intro i h1 h2
    by_cases c : i < 16
    · rw [List.getElem_append_left (by simp; omega)]; simp
    · rw [List.getElem_append_right (by simp; omega)]
      have hi : i = 16 ∨ i = 17 ∨ i = 18 := by omega
      rcases hi with rfl | rfl | rfl <;> simp [hl]

theorem trod_jn {H : Type} {enc : TypeId × Value → H} {W : World} {base : Nat} {sp : Nat → Bool} {hd : Bool} {n : Nat} {cs : List Value} {x : DataW H × List MemPlace} (h : DataW.trod enc Tryz.prog W base sp hd n 116 cs = some x) : ∃ (i o : Int) (ts ps : List Nat), cs = (jn i o ts ps).toList ∧ I64j i ∧ I64j o ∧ ts.length = 16 ∧ ps.length = 4 ∧ (∀ x ∈ ts, x < 4294967296) ∧ ∀ x ∈ ps, x < 4294967296 := by
  obtain ⟨y0, y1, y2, y3, m, -, hl, h0, h1, h2, h3⟩ := Go.Joins.trod_struct4 Tryz.underlying116 h
  have hc : Tryz.prog.cellsOf 116 = 22 := by kernel_rfl
  have hcb : Tryz.prog.cellsOf 26 = 1 := by kernel_rfl
  have hci : Tryz.prog.cellsOf 2 = 1 := by kernel_rfl
  have hc4 : Tryz.prog.cellsOf 65 = 4 := by kernel_rfl
  have hc44 : Tryz.prog.cellsOf 66 = 16 := by kernel_rfl
  rw [hc] at hl
  simp only [hci, hc4, hc44, List.drop_zero] at h0 h1 h2 h3
  have e0 : cs.take 1 = [cs[0]] := take_one (i := 0) (by omega)
  rw [e0] at h0
  rw [take_one (by omega)] at h1
  obtain ⟨i, e0, hi⟩ := trod_int1j Tryz.underlying2 h0
  obtain ⟨o, e1, ho⟩ := trod_int1j Tryz.underlying2 h1
  obtain ⟨ps, e3, hp, hpl⟩ := trod_floats Tryz.underlying65 hc4 h3
  obtain ⟨m2, -, hb⟩ := trod_arr Tryz.underlying66 h2
  obtain ⟨ts, e2, ht, htl⟩ := floats_of ((cs.drop 2).take 16) fun k hk => by
    have hk16 : k < 16 := by simp [hl] at hk; omega
    obtain ⟨y, hy⟩ := hb (k / 4) (by omega)
    rw [hc4] at hy
    obtain ⟨xs, hxs, hxl, hxb⟩ := trod_floats Tryz.underlying65 hc4 hy
    have eL : ∀ L : List Value, L[k]? = ((L.drop (k / 4 * 4)).take 4)[k % 4]? := fun L => by
      have e1 : ((L.drop (k / 4 * 4)).take 4)[k % 4]? = L[k / 4 * 4 + k % 4]? := by rw [List.getElem?_take, if_pos (Nat.mod_lt _ (by omega)), List.getElem?_drop]
      rw [e1, show k / 4 * 4 + k % 4 = k from by omega]
    have e := eL ((cs.drop 2).take 16)
    rw [e, hxs, List.getElem?_map, List.getElem?_eq_getElem (by omega)]
    exact ⟨_, rfl, hxb _ (List.getElem_mem _)⟩
  refine ⟨i, o, ts, ps, ?_, hi, ho, by rw [ht]; simp [hl], hp, htl, hpl⟩
  rw [jn_list, List.map_append, ← e2, ← e3, ← e0, ← e1]
  apply List.ext_getElem
  · simp [hl]
  · intro k h1 h2
    match k, h1, h2 with
    | 0, _, _ => rfl
    | 1, _, _ => rfl
    | k + 2, h1, h2 =>
      simp only [List.getElem_cons_succ]
      by_cases c : k < 16
      · rw [List.getElem_append_left (by simp; omega)]; simp [Nat.add_comm]
      · rw [List.getElem_append_right (by simp; omega)]
        simp [hl]
        congr 1
        omega

theorem trod_is_slice {H : Type} {enc : TypeId × Value → H} {W : World} {n : Nat} {v : Value} {x : DataW H × List MemPlace} {t e : TypeId} (ht : Tryz.prog.underlying t = some (.slice e)) (h : DataW.trod enc Tryz.prog W 0 (fun _ => true) true n t [v] = some x) : ∃ a len cap, v = .slice a len cap := by
  rcases DataW.trod_slice ht h with ⟨e, -⟩ | ⟨a, len, cap, elems, rest, n, -, e, -⟩
  · exact ⟨none, 0, 0, by simpa using e⟩
  · exact ⟨some a, len, cap, by simpa using e⟩

theorem trod_ints0 {H : Type} {enc : TypeId × Value → H} {W : World} {n : Nat} {v : Value} {x : DataW H × List MemPlace} (h : DataW.trod enc Tryz.prog W 0 (fun _ => true) true n 71 [v] = some x) : ∃ a cap xs, v = .slice a xs.length cap ∧ ISl W (.slice a xs.length cap) xs := by
  obtain ⟨xs, hx⟩ := shape_i64s Tryz.underlying71 Tryz.underlying2 (by kernel_rfl) (trod_is_slice Tryz.underlying71 h) ⟨n, (by
    obtain ⟨a, l, c, rfl⟩ := trod_is_slice Tryz.underlying71 h
    exact h : DataW.trod enc Tryz.prog W 0 (fun _ => true) true n 71 v.cells.toList = some (x.1, x.2))⟩
  obtain ⟨a, cap, e⟩ := hx.any
  exact ⟨a, cap, xs, e, e ▸ hx⟩

theorem trod_joint {H : Type} {enc : TypeId × Value → H} {W : World} {n : Nat} {cs : List Value} {x : DataW H × List MemPlace} (h : DataW.trod enc Tryz.prog W 0 (fun _ => true) true n 118 cs = some x) : ∃ (j : Jt) (a a' : Option Addr) (c c' : Nat), cs = (jrC (jrOf j a c a' c')).toList ∧ ISl W (.slice a j.ns.length c) j.ns ∧ ISl W (.slice a' j.us.length c') j.us := by
  obtain ⟨y0, y1, y2, y3, m, -, hl, h0, h1, h2, h3⟩ := Go.Joins.trod_struct4 Tryz.underlying118 h
  have hc : Tryz.prog.cellsOf 118 = 25 := by kernel_rfl
  have hcn : Tryz.prog.cellsOf 116 = 22 := by kernel_rfl
  have hci : Tryz.prog.cellsOf 2 = 1 := by kernel_rfl
  have hcs : Tryz.prog.cellsOf 71 = 1 := by kernel_rfl
  rw [hc] at hl
  simp only [hcn, hci, hcs, List.drop_zero] at h0 h1 h2 h3
  rw [take_one (by omega)] at h1 h2 h3
  obtain ⟨i, o, ts, ps, e0, hi, ho, ht, hp, htl, hpl⟩ := trod_jn h0
  obtain ⟨a, c, ns, e1, hns⟩ := trod_ints0 h1
  obtain ⟨a', c', us, e2, hus⟩ := trod_ints0 h2
  obtain ⟨p, e3, hpp⟩ := trod_int1j Tryz.underlying2 h3
  refine ⟨⟨i, o, ts, ps, ns, us, p, hi, ho, ht, hp, htl, hpl, hns.wf, hus.wf, hpp⟩, a, a', c, c', ?_, hns, hus⟩
  show cs = (jn i o ts ps ++ (#[.slice a ns.length c, .slice a' us.length c', .int .i64 p] : Array Value)).toList
  rw [Array.toList_append, ← e0, ← e1, ← e2, ← e3]
  apply List.ext_getElem
  · simp [hl]
  · intro k h1 h2
    by_cases c : k < 22
    · rw [List.getElem_append_left (by simp; omega)]; simp
    · rw [List.getElem_append_right (by simp; omega)]
      have hk : k = 22 ∨ k = 23 ∨ k = 24 := by omega
      rcases hk with rfl | rfl | rfl <;> simp [hl]

theorem addr_flat {W : World} {g off : Nat} {spot : Option Nat} {u : Value} (h : W.cell? ⟨g, off, spot⟩ = some u) : spot = none := by
  unfold World.cell? at h
  cases spot with
  | none => rfl
  | some s => split at h <;> simp at h

theorem add_flat (g off i j : Nat) : ((Addr.mk g off none).add i).add j = ⟨g, off + i + j, none⟩ := by
  rw [Go.Deep.add_add]
  unfold Addr.add
  by_cases h : i + j = 0
  · rw [if_pos h]; congr 1; show off = _; omega
  · rw [if_neg h]; congr 1; show off + (i + j) = _; omega

theorem trod_roads {H : Type} {enc : TypeId × Value → H} {W : World} {n : Nat} {v : Value} {x : DataW H × List MemPlace} (h0 : DataW.trod enc Tryz.prog W 0 (fun _ => true) true n 22 [v] = some x) : ∃ rs, GSl rdr 19 zR W v rs := by
  have hc9 : Tryz.prog.cellsOf 129 = 19 := by kernel_rfl
  rcases Go.Deep.open_slice Tryz.underlying22 h0 with ⟨h0, -⟩ | ⟨a, len, cap, mm, n, D, Pl, h0, -, hl, hm, hmm, -, hx⟩
  · obtain rfl : v = .slice none 0 0 := by simpa using h0
    exact ⟨[], ⟨.inl ⟨rfl, none, 0, rfl⟩, by simp⟩⟩
  · obtain rfl : v = .slice (some a) len cap := by simpa using h0
    have hm2 : len ≤ mm := by rw [hmm]; split <;> omega
    rw [hc9] at hx
    by_cases hz : len = 0
    · subst hz
      exact ⟨[], ⟨.inl ⟨rfl, some a, cap, rfl⟩, by simp⟩⟩
    have hel : ∀ i, i < len → ∃ s : Rd4, ∀ j, j < 19 → W.cell? ((a.add (i * 19)).add j) = (rdr s)[j]? := by
      intro i hi
      obtain ⟨cs', hcs, ht⟩ := hx i (by omega)
      obtain ⟨r, rfl⟩ := trod_road ht
      obtain ⟨-, -, hat⟩ := World.cells?_some hcs
      exact ⟨r, fun j hj => by rw [hat j hj, Array.getElem?_toList]⟩
    obtain ⟨f, hf⟩ := Go.Deep.choose_lt hel
    obtain ⟨g, off, spot⟩ := a
    have h00 : W.cell? ⟨g, off, spot⟩ = some (.float .f32 (nth ((f 0).cs ++ [(f 0).p, (f 0).b, (f 0).l]) 0)) := by
      have := hf 0 (by omega) 0 (by omega)
      have e : ((Addr.mk g off spot).add (0 * 19)).add 0 = ⟨g, off, spot⟩ := rfl
      rw [e] at this
      rw [this]
      exact fl_get (by rw [List.length_append, (f 0).hl]; simp)
    obtain rfl := addr_flat h00
    let xs : List Rd4 := (List.range len).map f
    have hxs : xs.length = len := by simp [xs]
    have hat : ∀ i, i < len → fe zR xs i = f i := fun i hi => by
      simp [xs, fe, List.getD_eq_getElem?_getD, List.getElem?_map, List.getElem?_range hi]
    refine ⟨xs, ⟨.inr ⟨g, off, cap, by rw [hxs], cell_block h00, fun i hi j hj => ?_⟩, by omega⟩⟩
    rw [hxs] at hi
    rw [hat i hi, ← hf i hi j hj, add_flat]

theorem trod_joints {H : Type} {enc : TypeId × Value → H} {W : World} {n : Nat} {v : Value} {x : DataW H × List MemPlace} (h0 : DataW.trod enc Tryz.prog W 0 (fun _ => true) true n 24 [v] = some x) : ∃ js, JSl W v js := by
  have hc9 : Tryz.prog.cellsOf 118 = 25 := by kernel_rfl
  rcases Go.Deep.open_slice Tryz.underlying24 h0 with ⟨h0, -⟩ | ⟨a, len, cap, mm, n, D, Pl, h0, -, hl, hm, hmm, -, hx⟩
  · obtain rfl : v = .slice none 0 0 := by simpa using h0
    exact ⟨[], ⟨.inl ⟨rfl, none, 0, rfl⟩, by simp⟩⟩
  · obtain rfl : v = .slice (some a) len cap := by simpa using h0
    have hm2 : len ≤ mm := by rw [hmm]; split <;> omega
    rw [hc9] at hx
    by_cases hz : len = 0
    · subst hz
      exact ⟨[], ⟨.inl ⟨rfl, some a, cap, rfl⟩, by simp⟩⟩
    have hel : ∀ i, i < len → ∃ j : Jt, ∃ (b b' : Option Addr) (c c' : Nat), ISl W (.slice b j.ns.length c) j.ns ∧ ISl W (.slice b' j.us.length c') j.us ∧ ∀ t, t < 25 → W.cell? ((a.add (i * 25)).add t) = (jrC (jrOf j b c b' c'))[t]? := by
      intro i hi
      obtain ⟨cs', hcs, ht⟩ := hx i (by omega)
      obtain ⟨j, b, b', c, c', rfl, h1, h2⟩ := trod_joint ht
      obtain ⟨-, -, hat⟩ := World.cells?_some hcs
      exact ⟨j, b, b', c, c', h1, h2, fun t ht => by rw [hat t ht, Array.getElem?_toList]⟩
    obtain ⟨f, hf⟩ := Go.Deep.choose_lt hel
    obtain ⟨g, off, spot⟩ := a
    have h00 : W.cell? ⟨g, off, spot⟩ = some (.int .i64 (f 0).i) := by
      obtain ⟨b, b', c, c', -, -, hj⟩ := hf 0 (by omega)
      have := hj 0 (by omega)
      have e : ((Addr.mk g off spot).add (0 * 25)).add 0 = ⟨g, off, spot⟩ := rfl
      rw [e] at this
      rw [this]
      show (jr (f 0).i (f 0).o (f 0).ts (f 0).ps _ _ _)[0]? = _
      rw [jr_lo (f 0).hlt (f 0).hlp _ _ _ _ _ (by omega), jn_ins]
    obtain rfl := addr_flat h00
    let xs : List Jt := (List.range len).map f
    have hxs : xs.length = len := by simp [xs]
    have hat : ∀ i, i < len → fe zJ xs i = f i := fun i hi => by
      simp [xs, fe, List.getD_eq_getElem?_getD, List.getElem?_map, List.getElem?_range hi]
    refine ⟨xs, ⟨.inr ⟨g, off, cap, by rw [hxs], cell_block h00, fun i hi => ?_⟩, by omega⟩⟩
    rw [hxs] at hi
    rw [hat i hi]
    obtain ⟨b, b', c, c', h1, h2, hj⟩ := hf i hi
    exact ⟨b, c, b', c', h1, h2, fun t ht => by rw [← hj t ht, add_flat]⟩

theorem PSl.wfsT {w : World} {v : Value} {ps : Ps} (h : PSl w v ps) : ∀ i, i < ps.length → SlW (pS ps i) := by
  intro i hi
  rcases h.val with ⟨rfl, -⟩ | ⟨g, off, cap, -, -, hc⟩
  · simp at hi
  · obtain ⟨a, c, hs, -⟩ := hc i hi
    exact hs.wf

theorem trod_struct7 {H : Type} {enc : TypeId × Value → H} {W : World} {base : Nat} {sp : Nat → Bool} {hd : Bool} {n : Nat} {cs : List Value} {x : DataW H × List MemPlace} {t : TypeId} {f0 f1 f2 f3 f4 f5 f6 : Field} (ht : Tryz.prog.underlying t = some (.struct #[f0, f1, f2, f3, f4, f5, f6])) (h : DataW.trod enc Tryz.prog W base sp hd n t cs = some x) :
    ∃ y0 y1 y2 y3 y4 y5 y6 m, cs.length = Tryz.prog.cellsOf t ∧ DataW.trod enc Tryz.prog W base sp hd m f0.type ((cs.drop f0.offset).take (Tryz.prog.cellsOf f0.type)) = some y0 ∧ DataW.trod enc Tryz.prog W base sp hd m f1.type ((cs.drop f1.offset).take (Tryz.prog.cellsOf f1.type)) = some y1 ∧
      DataW.trod enc Tryz.prog W base sp hd m f2.type ((cs.drop f2.offset).take (Tryz.prog.cellsOf f2.type)) = some y2 ∧ DataW.trod enc Tryz.prog W base sp hd m f3.type ((cs.drop f3.offset).take (Tryz.prog.cellsOf f3.type)) = some y3 ∧ DataW.trod enc Tryz.prog W base sp hd m f4.type ((cs.drop f4.offset).take (Tryz.prog.cellsOf f4.type)) = some y4 ∧
      DataW.trod enc Tryz.prog W base sp hd m f5.type ((cs.drop f5.offset).take (Tryz.prog.cellsOf f5.type)) = some y5 ∧ DataW.trod enc Tryz.prog W base sp hd m f6.type ((cs.drop f6.offset).take (Tryz.prog.cellsOf f6.type)) = some y6 := by
  obtain ⟨xs, m, -, -, hl, hlen, hf⟩ := DataW.trod_struct ht h
  match xs, hlen with
  | [y0, y1, y2, y3, y4, y5, y6], _ => exact ⟨y0, y1, y2, y3, y4, y5, y6, m, hl, by simpa using hf 0 f0 rfl, by simpa using hf 1 f1 rfl, by simpa using hf 2 f2 rfl, by simpa using hf 3 f3 rfl, by simpa using hf 4 f4 rfl, by simpa using hf 5 f5 rfl, by simpa using hf 6 f6 rfl⟩

theorem shape_town {H : Type} {enc : TypeId × Value → H} {W : World} {v : Value} {d : DataW H} {ps : List MemPlace} {base : Nat} (hv : Value.okWide Tryz.prog W .any base 28 v) (h : DataW.Trod enc Tryz.prog W 0 (fun _ => true) true 28 v d ps) :
    ∃ (vr vf vj vp : Value) (T : Tn), v = .agg (tnR T vr vf vj vp) ∧ TIn W vr vf vj vp T ∧ TnB T := by
  obtain ⟨cs, rfl, hsz⟩ := okWide_struct Tryz.underlying28 hv
  clear hv
  have hc7 : Tryz.prog.cellsOf 28 = 7 := by kernel_rfl
  rw [hc7] at hsz
  obtain ⟨c0, c1, c2, c3, c4, c5, c6, rfl⟩ : ∃ c0 c1 c2 c3 c4 c5 c6, cs = #[c0, c1, c2, c3, c4, c5, c6] := by
    obtain ⟨l⟩ := cs
    match l, hsz with
    | [c0, c1, c2, c3, c4, c5, c6], _ => exact ⟨c0, c1, c2, c3, c4, c5, c6, rfl⟩
  obtain ⟨fuel, h⟩ := h
  obtain ⟨y0, y1, y2, y3, y4, y5, y6, m, -, h0, h1, h2, h3, h4, h5, h6⟩ := trod_struct7 Tryz.underlying28 h
  have k0 : Tryz.prog.cellsOf 22 = 1 := by kernel_rfl
  have k1 : Tryz.prog.cellsOf 23 = 1 := by kernel_rfl
  have k2 : Tryz.prog.cellsOf 24 = 1 := by kernel_rfl
  have k3 : Tryz.prog.cellsOf 25 = 1 := by kernel_rfl
  have k4 : Tryz.prog.cellsOf 2 = 1 := by kernel_rfl
  have k5 : Tryz.prog.cellsOf 26 = 1 := by kernel_rfl
  simp only [k0, k1, k2, k3, k4, k5, Value.cells] at h0 h1 h2 h3 h4 h5 h6
  change DataW.trod enc Tryz.prog W 0 (fun _ => true) true m _ [c0] = _ at h0
  change DataW.trod enc Tryz.prog W 0 (fun _ => true) true m _ [c1] = _ at h1
  change DataW.trod enc Tryz.prog W 0 (fun _ => true) true m _ [c2] = _ at h2
  change DataW.trod enc Tryz.prog W 0 (fun _ => true) true m _ [c3] = _ at h3
  change DataW.trod enc Tryz.prog W 0 (fun _ => true) true m _ [c4] = _ at h4
  change DataW.trod enc Tryz.prog W 0 (fun _ => true) true m _ [c5] = _ at h5
  change DataW.trod enc Tryz.prog W 0 (fun _ => true) true m _ [c6] = _ at h6
  obtain ⟨rs, hr⟩ := trod_roads h0
  obtain ⟨js, hj⟩ := trod_joints h2
  obtain ⟨pl, hp⟩ := trod_plans h3
  obtain ⟨tk, rfl, htk⟩ := trod_int1j Tryz.underlying2 h4
  obtain ⟨ca, rfl, hca⟩ := trod_float1 Tryz.underlying26 h5
  obtain ⟨we, rfl, hwe⟩ := trod_float1 Tryz.underlying26 h6
  obtain ⟨fs, hf⟩ := shape_f32s Tryz.underlying23 Tryz.underlying26 (by kernel_rfl) (trod_is_slice Tryz.underlying23 h1) ⟨m, (by
    obtain ⟨a, l, c, rfl⟩ := trod_is_slice Tryz.underlying23 h1
    exact h1 : DataW.trod enc Tryz.prog W 0 (fun _ => true) true m 23 c1.cells.toList = some (y1.1, y1.2))⟩
  exact ⟨c0, c1, c2, c3, ⟨rs, fs, js, pl, tk, ca, we⟩, rfl, ⟨hr, hf, hj, hp⟩, ⟨hf.lt, fun i hi => hp.wfsT i hi, htk, hca, hwe⟩⟩

end Go.Proofs.YtboahhipobcabaaGreat
