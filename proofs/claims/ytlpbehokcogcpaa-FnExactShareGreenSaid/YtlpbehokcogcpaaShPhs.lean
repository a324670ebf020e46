/-
  CONTRACTS: the shape of a slice of phases that came in; eight numbers made the program's.
-/
import Derived.Test.YtlpbehokcogcpaaPhs
import Derived.Test.YtlpbehokcogcpaaG8
import Derived.Test.YtlpbehokcogcpaaLawS
import Derived.Test.YtlpbehokcogcpaaMix
import Derived.Test.YtlpbehokcogcpaaG2
namespace Go.Proofs.Ytlpbehokcogcpaa
open Go Go.ChangeShapes Go.WideShapes Go.ChangeAt Go.RowKit Go.Deep
set_option maxRecDepth 100000

/-- what a copy of n places has after k places -/
def cpM (n : Nat) (ys : List Nat) (k : Nat) : List Nat := ys.take k ++ List.replicate (n - k) 0

theorem cpM_len {n : Nat} {ys : List Nat} (h : ys.length = n) (k : Nat) (hk : k ≤ n) : (cpM n ys k).length = n := by simp [cpM, h]; omega

theorem cpM_set {n : Nat} {ys : List Nat} (h : ys.length = n) {k : Nat} (hk : k < n) : (cpM n ys k).set k (nth ys k) = cpM n ys (k + 1) := by
  unfold cpM nth
  rw [List.set_append_right _ _ (by simp; omega), List.take_succ_eq_append_getElem (by omega), List.getD_eq_getElem?_getD, List.getElem?_eq_getElem (by omega)]
  rw [show k - (List.take k ys).length = 0 from by simp; omega, show n - k = (n - (k + 1)) + 1 from by omega, List.replicate_succ, List.append_assoc]
  rfl

theorem cpM_all {n : Nat} {ys : List Nat} (h : ys.length = n) : cpM n ys n = ys := by simp [cpM, ← h]


theorem toFloat32A8_any (ys : List Nat) (hl : ys.length = 8) (w : World) :
    Calls Try.prog 8 #[.agg (fl ys)] w fun e w' => e = .returned (.agg (fl ys)) ∧ Below w.heap.size w w' := by
  go_enter Try.func8, Try.ntmps8
  go_wp2
  go_loopw [4] (fun i wr => ∃ k : Nat, k ≤ 8 ∧ i = .int .i64 k ∧ wr = (((w.alloc (.cells (fl ys) 24)).alloc (.cells (fl (zeros 8)) 24)).alloc (.cells (fl (cpM 8 ys k)) 24))) (fun i _ => 8 - (intOf i).toNat)
  case atStart => exact ⟨0, by omega, rfl, rfl⟩
  case round =>
    obtain ⟨k, hk, rfl, rfl⟩ := hrel
    by_cases hlt : k < 8
    · have g1 := fl_get (xs := ys) (k := k) (by omega)
      have g2 := run_store_last (P := Try.prog) ((w.alloc (.cells (fl ys) 24)).alloc (.cells (fl (zeros 8)) 24)) (fl (cpM 8 ys k)) 24 k (.float .f32 (nth ys k)) rfl (by rw [fl_size, cpM_len hl k hk]; exact hlt) (w.heap.size + 1 + 1) (by simp)
      rw [fl_set, cpM_set hl hlt] at g2
      go_wp2
      exact ⟨⟨k + 1, by omega, by go_num, rfl⟩, by simp [intOf]; omega⟩
    · obtain rfl : k = 8 := by omega
      rw [cpM_all hl]
      have R0 : At (((w.alloc (.cells (fl ys) 24)).alloc (.cells (fl (zeros 8)) 24)).alloc (.cells (fl ys) 24)) (w.heap.size + 1) (fl (zeros 8)) 24 := (At.last1 w _ _ _).alloc _
      have L0 : At (((w.alloc (.cells (fl ys) 24)).alloc (.cells (fl (zeros 8)) 24)).alloc (.cells (fl ys) 24)) (w.heap.size + 1 + 1) (fl ys) 24 := by
        have := At.new ((w.alloc (.cells (fl ys) 24)).alloc (.cells (fl (zeros 8)) 24)) (fl ys) 24
        rwa [World.size_alloc, World.size_alloc] at this
      have B0 := Lib.hid (bnew (bnew (b0 w (.cells (fl ys) 24)) (.cells (fl (zeros 8)) 24)) (.cells (fl ys) 24))
      generalize (((w.alloc (.cells (fl ys) 24)).alloc (.cells (fl (zeros 8)) 24)).alloc (.cells (fl ys) 24)) = w1 at R0 L0 B0 ⊢
      have R9 := R0.setRow (fl ys)
      have B9 := Lib.hid (bset B0.out (g := w.heap.size + 1) (by omega) (fl ys))
      go_wp2_with (first | ((with_reducible refine is_load 24 _ rfl ?_); refine wpList_load_at rfl 24 _ rfl _ rfl (fl ys) _ (by with_reducible assumption) 8 (by rw [fl_size, hl]) _ Try.underlying24 rfl (by kernel_rfl) ?_) | ((with_reducible refine is_store 24 (.tmp 2) (.tmp 14) rfl ?_); refine wpList_store_at rfl 24 (.tmp 2) (.tmp 14) rfl _ rfl (fl ys) rfl (fl (zeros 8)) _ (by with_reducible assumption) 8 (by rw [fl_size, hl]) (by rw [fl_size, zeros_len]) (by kernel_rfl) (fl_one _) ?_))
      exact bodyPost_ret (v := .agg (fl ys)) (results_at (p := 2) (ty := 24) rfl _ _ _ (fl ys) _ rfl R9 _ Try.underlying24 rfl 8 (by rw [fl_size, hl]) (by kernel_rfl)) rfl ⟨rfl, B9.out⟩


/-- a row's cells, from what its reading says -/
theorem trod_row8 {H : Type} {enc : TypeId × Value → H} {w : World} {base : Nat} {sp : Nat → Bool} {hd : Bool} {n : Nat} {cs : List Value} {x : DataW H × List MemPlace} (h : DataW.trod enc Try.prog w base sp hd n 42 cs = some x) :
    ∃ p : P8, cs = (f8 p).toList := by
  have hc8 : Try.prog.cellsOf 42 = 8 := by kernel_rfl
  have hcb : Try.prog.cellsOf 4 = 1 := by kernel_rfl
  obtain ⟨m2, hl, hb⟩ := trod_arr Try.underlying42 h
  rw [hc8] at hl
  have hbit : ∀ i, i < 8 → ∃ b, cs[i]? = some (.bool b) := by
    intro i hi
    obtain ⟨y, hy⟩ := hb i hi
    rw [hcb, Nat.mul_one] at hy
    have e : (cs.drop i).take 1 = [cs[i]'(by omega)] := by
      rw [List.drop_eq_getElem_cons (by omega)]; rfl
    rw [e] at hy
    obtain ⟨b, hb⟩ := trod_bool1 Try.underlying4 hy
    exact ⟨b, by rw [List.getElem?_eq_getElem (by omega), hb]⟩
  let b : List Bool := (List.range 8).map fun i => match cs[i]? with | some (Value.bool x) => x | _ => false
  have hbl : b.length = 8 := by simp [b]
  refine ⟨⟨b, hbl⟩, ?_⟩
  show cs = (bl b).toList
  apply List.ext_getElem?
  intro i
  by_cases hi : i < 8
  · obtain ⟨v, hv⟩ := hbit i hi
    rw [hv, Array.getElem?_toList, bl_get (by omega)]
    congr 2
    simp [bn, b, List.getD_eq_getElem?_getD, List.getElem?_map, List.getElem?_range hi, hv]
  · rw [List.getElem?_eq_none (by omega), List.getElem?_eq_none (by rw [Array.length_toList, bl_size]; omega)]

theorem shape_phases {H : Type} {enc : TypeId × Value → H} {W : World} {v : Value} {d : DataW H} {ps : List MemPlace} (hv : ∃ a len cap, v = .slice a len cap) (h : DataW.Trod enc Try.prog W 0 (fun _ => true) true 22 v d ps) : ∃ xs, GSl f8 8 z8 W v xs := by
  obtain ⟨fuel, h⟩ := h
  obtain ⟨a0, l0, c0, rfl⟩ := hv
  have e1 : (Value.slice a0 l0 c0).cells.toList = [.slice a0 l0 c0] := rfl
  rw [e1] at h
  have hc8 : Try.prog.cellsOf 42 = 8 := by kernel_rfl
  rcases Go.Deep.open_slice Try.underlying22 h with ⟨h0, -⟩ | ⟨a, len, cap, mm, n, D, Pl, h0, -, hl, hm, hmm, -, hx⟩
  · obtain ⟨rfl, rfl, rfl⟩ : a0 = none ∧ l0 = 0 ∧ c0 = 0 := by simpa using h0
    exact ⟨[], .inl ⟨rfl, none, 0, rfl⟩, by simp⟩
  · obtain ⟨rfl, rfl, rfl⟩ : a0 = some a ∧ l0 = len ∧ c0 = cap := by simpa using h0
    have hm2 : l0 ≤ mm := by rw [hmm]; split <;> omega
    rw [hc8] at hx
    by_cases hz : l0 = 0
    · subst hz
      exact ⟨[], .inl ⟨rfl, some a, c0, rfl⟩, by simp⟩
    have hel : ∀ i, i < l0 → ∃ p : P8, ∀ j, j < 8 → W.cell? ((a.add (i * 8)).add j) = (f8 p)[j]? := by
      intro i hi
      obtain ⟨cs', hcs, ht⟩ := hx i (by omega)
      obtain ⟨p, rfl⟩ := trod_row8 ht
      obtain ⟨-, -, hat⟩ := World.cells?_some hcs
      exact ⟨p, fun j hj => by rw [hat j hj, Array.getElem?_toList]⟩
    obtain ⟨f, hf⟩ := Go.Deep.choose_lt hel
    obtain ⟨g, off, spot⟩ := a
    have h00 := hf 0 (by omega) 0 (by omega)
    rw [f8_get _ (by omega)] at h00
    have hs : spot = none := by
      have e : ((Addr.mk g off spot).add (0 * 8)).add 0 = ⟨g, off, spot⟩ := rfl
      rw [e] at h00
      unfold World.cell? at h00
      cases spot with
      | none => rfl
      | some s => split at h00 <;> simp at h00
    subst hs
    have hadd : ∀ i j, ((Addr.mk g off none).add i).add j = ⟨g, off + i + j, none⟩ := fun i j => by
      rw [Go.Deep.add_add]
      unfold Addr.add
      by_cases h : i + j = 0
      · rw [if_pos h]; congr 1; show off = _; omega
      · rw [if_neg h]; congr 1; show off + (i + j) = _; omega
    have hxs : ((List.range l0).map f).length = l0 := by simp
    have hat : ∀ i, i < l0 → fe z8 ((List.range l0).map f) i = f i := fun i hi => by
      simp [fe, List.getD_eq_getElem?_getD, List.getElem?_map, List.getElem?_range hi]
    refine ⟨(List.range l0).map f, .inr ⟨g, off, c0, by rw [hxs], ?_, fun i hi j hj => ?_⟩, by omega⟩
    · rw [hadd] at h00
      exact cell_block h00
    · rw [hxs] at hi
      have := hf i hi j hj
      rw [hadd] at this
      rw [this, hat i hi]

end Go.Proofs.Ytlpbehokcogcpaa
