/-
  CONTRACTS: the next tick with green, as the program has it.
-/
import Derived.Test.YtkaghfoaicbngabG11
namespace Go.Proofs.Ytkaghfoaicbngab
open Go Go.ChangeShapes Go.WideShapes Go.ChangeAt Go.RowKit
set_option maxRecDepth 100000

/-- the first of n that is such (n if there is none) -/
def fnd (f : Nat → Bool) : Nat → Nat
  | 0 => 0
  | n + 1 => if f 0 then 0 else fnd (fun i => f (i + 1)) n + 1
theorem fnd_le (f : Nat → Bool) : ∀ n, fnd f n ≤ n
  | 0 => Nat.le_refl _
  | n + 1 => by
    unfold fnd
    have := fnd_le (fun i => f (i + 1)) n
    split <;> omega
theorem fnd_no {f : Nat → Bool} : ∀ {n j : Nat}, j < fnd f n → f j = false
  | 0, j, h => by simp [fnd] at h
  | n + 1, j, h => by
    unfold fnd at h
    cases h0 : f 0
    · rw [h0] at h
      cases j with
      | zero => exact h0
      | succ j => exact fnd_no (f := fun i => f (i + 1)) (n := n) (by simpa using h)
    · rw [h0] at h; simp at h
theorem fnd_yes {f : Nat → Bool} : ∀ {n i : Nat}, i < n → f i = true → f (fnd f n) = true ∧ fnd f n < n
  | 0, i, h, _ => by omega
  | n + 1, i, h, hi => by
    unfold fnd
    cases h0 : f 0
    · have : i ≠ 0 := fun e => by rw [e, h0] at hi; cases hi
      obtain ⟨i', rfl⟩ : ∃ i', i = i' + 1 := ⟨i - 1, by omega⟩
      have := fnd_yes (f := fun i => f (i + 1)) (n := n) (i := i') (by omega) hi
      simp only [Bool.false_eq_true, if_false]
      exact ⟨this.1, by omega⟩
    · simp only [if_true]
      exact ⟨h0, by omega⟩
theorem cnt_pos {f : Nat → Bool} : ∀ {n : Nat}, 0 < cnt f n → ∃ i, i < n ∧ f i = true
  | 0, h => by simp [cnt] at h
  | n + 1, h => by
    cases hn : f n
    · unfold cnt at h
      rw [hn] at h
      obtain ⟨i, hi, hf⟩ := cnt_pos (n := n) (by simpa using h)
      exact ⟨i, by omega, hf⟩
    · exact ⟨n, by omega, hn⟩
/-- has a movement green j ticks behind a place? -/
def grp (b : Int) (xs : Slots) (m : Nat) (N c : Int) (j : Nat) : Bool := gre b xs m ((c + j) % N).toNat
theorem grp_some {b : Int} {xs : Slots} {m : Nat} {N c : Int} (hN : 0 < N) (h : 0 < cnt (gre b xs m) N.toNat) : ∃ j, j < N.toNat ∧ grp b xs m N c j = true := by
  obtain ⟨i, hi, hf⟩ := cnt_pos h
  have h1 := Int.emod_nonneg ((i : Int) - c) (show N ≠ 0 by omega)
  have h2 := Int.emod_lt_of_pos ((i : Int) - c) hN
  refine ⟨(((i : Int) - c) % N).toNat, by omega, ?_⟩
  unfold grp
  have e : (c + (((((i : Int) - c) % N).toNat : Nat) : Int)) % N = i := by
    rw [Int.toNat_of_nonneg h1, Int.add_emod_emod, show c + ((i : Int) - c) = (i : Int) from by omega]
    exact Int.emod_eq_of_lt (by omega) (by omega)
  rw [e, Int.toNat_natCast]
  exact hf
theorem place_next {N c : Int} (hN : 0 < N) (j : Nat) : ((c + j) % N + 1).tmod N = (c + (j + 1 : Nat)) % N := by
  have h1 := Int.emod_nonneg (c + j) (show N ≠ 0 by omega)
  rw [Int.tmod_eq_emod_of_nonneg (by omega), Int.emod_add_emod]
  congr 1
  omega
def dNG (xs : Slots) (b o : Int) (m : Nat) (t : Int) : Nat := fnd (grp b xs m (cyc xs b) (t - o)) (cyc xs b).toNat
def vNG (xs : Slots) (b o k t : Int) : Int × Int := if grC xs b o k t = 0 then (t + dNG xs b o k.toNat t, 0) else (0, grC xs b o k t)
theorem vNG_no {xs : Slots} {b o k t : Int} (h : grC xs b o k t ≠ 0) : vNG xs b o k t = (0, grC xs b o k t) := by unfold vNG; rw [if_neg h]
theorem vNG_yes {xs : Slots} {b o t : Int} {m : Nat} (h : grC xs b o m t = 0) : vNG xs b o m t = (t + dNG xs b o m t, 0) := by unfold vNG; rw [if_pos h, Int.toNat_natCast]

theorem hasGreen_any (G : Nat) (xs : Slots) (b o : Int) (hW : SlW xs) (T : TypeId) (hok : okP xs b o = true) (m : Nat) (hm : m < 8) (t : Int) (ht : 0 ≤ t ∧ t ≤ 2000000000) (w : World) (A0 : At w G (slC xs) T) :
    Calls Try.prog 86 #[.agg (plC (.slice (some ⟨G, 0, none⟩) xs.length xs.length) b o), .int .i64 (m : Int), .int .i64 t] w fun e w' => e = .returned (.bool (gre b xs m ((t - o) % cyc xs b).toNat)) ∧ Below w.heap.size w w' := by
  have P0 := At.new w (plC (.slice (some ⟨G, 0, none⟩) xs.length xs.length) b o) 49
  have A1 := A0.alloc (.cells (plC (.slice (some ⟨G, 0, none⟩) xs.length xs.length) b o) 49)
  have B0 := Lib.hid (b0 w (.cells (plC (.slice (some ⟨G, 0, none⟩) xs.length xs.length) b o) 49))
  have KG := greenAt_any G xs b o hW T hok t ht _ A1
  have h8 : (atS b xs ((t - o) % cyc xs b)).1.length = 8 := atS_len hW
  have hcy : 0 < cyc xs b := by obtain ⟨-, -, -, -, ho⟩ := okP_parts hok; omega
  have hnn := Int.emod_nonneg (t - o) (show cyc xs b ≠ 0 by omega)
  have e : gre b xs m ((t - o) % cyc xs b).toNat = bn (atS b xs ((t - o) % cyc xs b)).1 m := by
    unfold gre; rw [Int.toNat_of_nonneg hnn]
  rw [e]
  clear e hnn hcy hok ht
  generalize (atS b xs ((t - o) % cyc xs b)).1 = rw8 at KG h8 ⊢
  generalize (atS b xs ((t - o) % cyc xs b)).2 = lf at KG
  have SZV : (bl rw8).size = 8 := by rw [bl_size, h8]
  go_enter Try.func86, Try.ntmps86
  go_wp2_with (((with_reducible refine is_load 49 _ rfl ?_); refine wpList_load_at rfl 49 _ rfl _ rfl ((plC (.slice (some ⟨G, 0, none⟩) xs.length xs.length) b o)) _ (by with_reducible assumption) 3 (plC_size _ _ _) _ Try.underlying49 rfl (by kernel_rfl) ?_))
  refine KG.mono ?_
  rintro e w1 ⟨rfl, hb1⟩
  have B1 := Lib.hid (bthen B0.out hb1)
  have N0 := At.new w1 #[.bool false, .bool false, .bool false, .bool false, .bool false, .bool false, .bool false, .bool false] 84
  have N1 := N0.setRow (bl rw8)
  have ct := N1.cell (bl_get (bs := rw8) (k := m) (by omega))
  have B2 := Lib.hid (bset (bnew B1.out (.cells #[.bool false, .bool false, .bool false, .bool false, .bool false, .bool false, .bool false, .bool false] 84)) (g := w1.heap.size) B1.out.size (bl rw8))
  clear P0 A0 A1 B0 B1 KG hb1
  go_wp2_with (((with_reducible refine is_store 84 _ _ rfl ?_); refine wpList_store_at rfl 84 _ _ rfl _ rfl (bl rw8) rfl (#[.bool false, .bool false, .bool false, .bool false, .bool false, .bool false, .bool false, .bool false]) _ (by with_reducible assumption) 8 (SZV) (rfl) (by kernel_rfl) (bl_one _) ?_))
  go_ret
  exact ⟨rfl, B2.out⟩

end Go.Proofs.Ytkaghfoaicbngab
