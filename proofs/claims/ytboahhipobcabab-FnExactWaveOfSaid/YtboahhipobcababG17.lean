/-
  SEVERAL TEXTS IN ONE.
-/
import Derived.Test.YtboahhipobcababGrTicks

/-
  CONTRACTS: in how many ticks of a cycle a movement has green.
-/
namespace Go.Proofs.Ytboahhipobcabab
open Go Go.ChangeShapes Go.WideShapes Go.ChangeAt Go.RowKit
set_option maxRecDepth 100000

end Go.Proofs.Ytboahhipobcabab

/-
  CONTRACTS: the next tick with green, as the program has it.
-/
namespace Go.Proofs.Ytboahhipobcabab
open Go Go.ChangeShapes Go.WideShapes Go.ChangeAt Go.RowKit
set_option maxRecDepth 100000

/-- the first of n that is such (n if there is none) -/
def fnd (f : Nat → Bool) : Nat → Nat
  | 0 => 0
  | n + 1 => if f 0 then 0 else fnd (fun i => f (i + 1)) n + 1

theorem fnd_le (f : Nat → Bool) : ∀ n, fnd f n ≤ n
  | 0 => Nat.le_refl _
  | n + 1 => by
    unfold fnd
    have := fnd_le (fun i => f (i + 1)) n
    split <;> omega

theorem fnd_no {f : Nat → Bool} : ∀ {n j : Nat}, j < fnd f n → f j = false
  | 0, j, h => by simp [fnd] at h
  | n + 1, j, h => by
    unfold fnd at h
    cases h0 : f 0
    · rw [h0] at h
      cases j with
      | zero => exact h0
      | succ j => exact fnd_no (f := fun i => f (i + 1)) (n := n) (by simpa using h)
    · rw [h0] at h; simp at h

theorem fnd_yes {f : Nat → Bool} : ∀ {n i : Nat}, i < n → f i = true → f (fnd f n) = true ∧ fnd f n < n
  | 0, i, h, _ => by omega
  | n + 1, i, h, hi => by
    unfold fnd
    cases h0 : f 0
    · have : i ≠ 0 := fun e => by rw [e, h0] at hi; cases hi
      obtain ⟨i', rfl⟩ : ∃ i', i = i' + 1 := ⟨i - 1, by omega⟩
      have := fnd_yes (f := fun i => f (i + 1)) (n := n) (i := i') (by omega) hi
      simp only [Bool.false_eq_true, if_false]
      exact ⟨this.1, by omega⟩
    · simp only [if_true]
      exact ⟨h0, by omega⟩

theorem cnt_pos {f : Nat → Bool} : ∀ {n : Nat}, 0 < cnt f n → ∃ i, i < n ∧ f i = true
  | 0, h => by simp [cnt] at h
  | n + 1, h => by
    cases hn : f n
    · unfold cnt at h
      rw [hn] at h
      obtain ⟨i, hi, hf⟩ := cnt_pos (n := n) (by simpa using h)
      exact ⟨i, by omega, hf⟩
    · exact ⟨n, by omega, hn⟩

/-- has a movement green j ticks behind a place? -/
def grp (b : Int) (xs : Slots) (m : Nat) (N c : Int) (j : Nat) : Bool := gre b xs m ((c + j) % N).toNat

theorem grp_some {b : Int} {xs : Slots} {m : Nat} {N c : Int} (hN : 0 < N) (h : 0 < cnt (gre b xs m) N.toNat) : ∃ j, j < N.toNat ∧ grp b xs m N c j = true := by
  obtain ⟨i, hi, hf⟩ := cnt_pos h
  have h1 := Int.emod_nonneg ((i : Int) - c) (show N ≠ 0 by omega)
  have h2 := Int.emod_lt_of_pos ((i : Int) - c) hN
  refine ⟨(((i : Int) - c) % N).toNat, by omega, ?_⟩
  unfold grp
  have e : (c + (((((i : Int) - c) % N).toNat : Nat) : Int)) % N = i := by
    rw [Int.toNat_of_nonneg h1, Int.add_emod_emod, show c + ((i : Int) - c) = (i : Int) from by omega]
    exact Int.emod_eq_of_lt (by omega) (by omega)
  rw [e, Int.toNat_natCast]
  exact hf

theorem place_next {N c : Int} (hN : 0 < N) (j : Nat) : ((c + j) % N + 1).tmod N = (c + (j + 1 : Nat)) % N := by
  have h1 := Int.emod_nonneg (c + j) (show N ≠ 0 by omega)
  rw [Int.tmod_eq_emod_of_nonneg (by omega), Int.emod_add_emod]
  congr 1
  omega

def dNG (xs : Slots) (b o : Int) (m : Nat) (t : Int) : Nat := fnd (grp b xs m (cyc xs b) (t - o)) (cyc xs b).toNat

def vNG (xs : Slots) (b o k t : Int) : Int × Int := if grC xs b o k t = 0 then (t + dNG xs b o k.toNat t, 0) else (0, grC xs b o k t)

theorem vNG_no {xs : Slots} {b o k t : Int} (h : grC xs b o k t ≠ 0) : vNG xs b o k t = (0, grC xs b o k t) := by unfold vNG; rw [if_neg h]

theorem vNG_yes {xs : Slots} {b o t : Int} {m : Nat} (h : grC xs b o m t = 0) : vNG xs b o m t = (t + dNG xs b o m t, 0) := by unfold vNG; rw [if_pos h, Int.toNat_natCast]

theorem hasGreen_any (G : Nat) (xs : Slots) (b o : Int) (hW : SlW xs) (T : TypeId) (hok : okP xs b o = true) (m : Nat) (hm : m < 8) (t : Int) (ht : 0 ≤ t ∧ t ≤ 2000000000) (w : World) (A0 : At w G (slC xs) T) :
    Calls Try.prog 132 #[.agg (plC (.slice (some ⟨G, 0, none⟩) xs.length xs.length) b o), .int .i64 (m : Int), .int .i64 t] w fun e w' => e = .returned (.bool (gre b xs m ((t - o) % cyc xs b).toNat)) ∧ Below w.heap.size w w' := by
  have P0 := At.new w (plC (.slice (some ⟨G, 0, none⟩) xs.length xs.length) b o) 41
  have A1 := A0.alloc (.cells (plC (.slice (some ⟨G, 0, none⟩) xs.length xs.length) b o) 41)
  have B0 := Lib.hid (b0 w (.cells (plC (.slice (some ⟨G, 0, none⟩) xs.length xs.length) b o) 41))
  have KG := greenAt_any G xs b o hW T hok t ht _ A1
  have h8 : (atS b xs ((t - o) % cyc xs b)).1.length = 8 := atS_len hW
  have hcy : 0 < cyc xs b := by obtain ⟨-, -, -, -, ho⟩ := okP_parts hok; omega
  have hnn := Int.emod_nonneg (t - o) (show cyc xs b ≠ 0 by omega)
  have e : gre b xs m ((t - o) % cyc xs b).toNat = bn (atS b xs ((t - o) % cyc xs b)).1 m := by
    unfold gre; rw [Int.toNat_of_nonneg hnn]
  rw [e]
  clear e hnn hcy hok ht
  generalize (atS b xs ((t - o) % cyc xs b)).1 = rw8 at KG h8 ⊢
  generalize (atS b xs ((t - o) % cyc xs b)).2 = lf at KG
  have SZV : (bl rw8).size = 8 := by rw [bl_size, h8]
  go_enter Try.func132, Try.ntmps132
  go_wp2_with (((with_reducible refine is_load 41 _ rfl ?_); refine wpList_load_at rfl 41 _ rfl _ rfl ((plC (.slice (some ⟨G, 0, none⟩) xs.length xs.length) b o)) _ (by with_reducible assumption) 3 (plC_size _ _ _) _ Try.underlying41 rfl (by kernel_rfl) ?_))
  refine KG.mono ?_
  rintro e w1 ⟨rfl, hb1⟩
  have B1 := Lib.hid (bthen B0.out hb1)
  have N0 := At.new w1 #[.bool false, .bool false, .bool false, .bool false, .bool false, .bool false, .bool false, .bool false] 69
  have N1 := N0.setRow (bl rw8)
  have ct := N1.cell (bl_get (bs := rw8) (k := m) (by omega))
  have B2 := Lib.hid (bset (bnew B1.out (.cells #[.bool false, .bool false, .bool false, .bool false, .bool false, .bool false, .bool false, .bool false] 69)) (g := w1.heap.size) B1.out.size (bl rw8))
  clear P0 A0 A1 B0 B1 KG hb1
  go_wp2_with (((with_reducible refine is_store 69 _ _ rfl ?_); refine wpList_store_at rfl 69 _ _ rfl _ rfl (bl rw8) rfl (#[.bool false, .bool false, .bool false, .bool false, .bool false, .bool false, .bool false, .bool false]) _ (by with_reducible assumption) 8 (SZV) (rfl) (by kernel_rfl) (bl_one _) ?_))
  go_ret
  exact ⟨rfl, B2.out⟩

theorem nextGreen_any (G : Nat) (xs : Slots) (b o : Int) (hW : SlW xs) (T : TypeId) (hok : okP xs b o = true) (m : Nat) (hm : m < 8) (t : Int) (ht : 0 ≤ t ∧ t ≤ 1000000000) (d : Nat) (hd : d ≤ 240) (hf : ∀ j, j < d → grp b xs m (cyc xs b) (t - o) j = false) (hy : grp b xs m (cyc xs b) (t - o) d = true) (w : World) (A0 : At w G (slC xs) T) :
    Calls Try.prog 108 #[.agg (plC (.slice (some ⟨G, 0, none⟩) xs.length xs.length) b o), .int .i64 (m : Int), .int .i64 t] w fun e w' => e = .returned (.int .i64 (t + (d : Int))) ∧ Below w.heap.size w w' := by
  have P0 := At.new w (plC (.slice (some ⟨G, 0, none⟩) xs.length xs.length) b o) 41
  have A1 := A0.alloc (.cells (plC (.slice (some ⟨G, 0, none⟩) xs.length xs.length) b o) 41)
  have B0 := Lib.hid (b0 w (.cells (plC (.slice (some ⟨G, 0, none⟩) xs.length xs.length) b o) 41))
  have KH := fun (j : Nat) (hj : j ≤ d) wr hA => hasGreen_any G xs b o hW T hok m hm (t + (j : Int)) ⟨by omega, by omega⟩ wr hA
  have hq := fun j : Nat => show gre b xs m ((t + (j : Int) - o) % cyc xs b).toNat = grp b xs m (cyc xs b) (t - o) j from by unfold grp; rw [show t + (j : Int) - o = t - o + j from by omega]
  have HF := Lib.hid (And.intro hf hy)
  clear hf hy A0 hok
  generalize xs.length = n at P0 A1 B0 KH ⊢
  go_enter Try.func108, Try.ntmps108
  go_wp2
  go_loopw [2] (fun c wr => ∃ j : Nat, j ≤ d ∧ c = .int .i64 (t + (j : Int)) ∧ At wr w.heap.size (plC (.slice (some ⟨G, 0, none⟩) n n) b o) 41 ∧ At wr G (slC xs) T ∧ Hid (Below w.heap.size w wr)) (fun c _ => (t + d + 1 - intOf c).toNat)
  case atStart => exact ⟨0, by omega, by simp, P0, A1, B0⟩
  case round =>
    clear P0 A1 B0
    obtain ⟨j, hj, rfl, P1, A1, B1⟩ := hrel
    have KH1 := KH j hj wr A1
    rw [hq j] at KH1
    by_cases hlt : j < d
    · rw [HF.out.1 j hlt] at KH1
      have s2 : IntKind.i64.wrap (t + (j : Int) + 1) = t + (j : Int) + 1 := IntWalk.i64_in _ (by omega)
      go_wp2_with (((with_reducible refine is_load 41 _ rfl ?_); refine wpList_load_at rfl 41 _ rfl _ rfl ((plC (.slice (some ⟨G, 0, none⟩) n n) b o)) _ (by with_reducible assumption) 3 (plC_size _ _ _) _ Try.underlying41 rfl (by kernel_rfl) ?_))
      refine KH1.mono ?_
      rintro e w1 ⟨rfl, hb1⟩
      have P2 := P1.step hb1
      have A2 := A1.step hb1
      have B2 := Lib.hid (bthen B1.out hb1)
      clear P1 A1 B1 hb1 KH1
      go_wp2_with fail
      exact ⟨⟨j + 1, by omega, by rw [show t + ((j + 1 : Nat) : Int) = t + (j : Int) + 1 from by omega], P2, A2, B2⟩, by simp [intOf]; omega⟩
    · obtain rfl : j = d := by omega
      rw [HF.out.2] at KH1
      go_wp2_with (((with_reducible refine is_load 41 _ rfl ?_); refine wpList_load_at rfl 41 _ rfl _ rfl ((plC (.slice (some ⟨G, 0, none⟩) n n) b o)) _ (by with_reducible assumption) 3 (plC_size _ _ _) _ Try.underlying41 rfl (by kernel_rfl) ?_))
      refine KH1.mono ?_
      rintro e w1 ⟨rfl, hb1⟩
      go_wp2_with fail
      go_ret
      exact ⟨rfl, bthen B1.out hb1⟩

theorem d_ok {xs : Slots} {b o k t : Int} {m : Nat} (hok : okP xs b o = true) (hp : 0 < GT xs m) : dNG xs b o m t ≤ 240 ∧ (∀ j, j < dNG xs b o m t → grp b xs m (cyc xs b) (t - o) j = false) ∧ grp b xs m (cyc xs b) (t - o) (dNG xs b o m t) = true := by
  obtain ⟨-, -, -, hc, ho⟩ := okP_parts hok
  have h1 := GT_cnt hok m
  obtain ⟨i, hi, hf⟩ := grp_some (N := cyc xs b) (c := t - o) (by omega) (show 0 < cnt (gre b xs m) (cyc xs b).toNat from by omega)
  have h2 := fnd_yes hi hf
  have h3 := fnd_le (grp b xs m (cyc xs b) (t - o)) (cyc xs b).toNat
  exact ⟨by unfold dNG; omega, fun j hj => fnd_no hj, h2.1⟩

end Go.Proofs.Ytboahhipobcabab
