/-
  CONTRACTS: the longest row of those that are not such.
-/
import Derived.Test.YtkhnhbmnmciiaabNextG
namespace Go.Proofs.Ytkhnhbmnmciiaab
open Go Go.ChangeShapes Go.WideShapes Go.ChangeAt Go.RowKit
set_option maxRecDepth 100000

/-- how many of the last ones of the first n are not such -/
def rr (f : Nat → Bool) : Nat → Nat
  | 0 => 0
  | n + 1 => if f n then 0 else rr f n + 1
/-- the longest such row -/
def mx (f : Nat → Bool) : Nat → Nat
  | 0 => 0
  | n + 1 => max (mx f n) (rr f (n + 1))
theorem rr_le (f : Nat → Bool) : ∀ n, rr f n ≤ n
  | 0 => Nat.le_refl _
  | n + 1 => by
    have := rr_le f n
    unfold rr
    split <;> omega
theorem rr_no {f : Nat → Bool} : ∀ {n i : Nat}, n - rr f n ≤ i → i < n → f i = false
  | 0, i, _, h => by omega
  | n + 1, i, h, hi => by
    cases hn : f n
    · have e : rr f (n + 1) = rr f n + 1 := by show (if f n then 0 else rr f n + 1) = _; rw [hn]; rfl
      rw [e] at h
      by_cases c : i = n
      · subst c; exact hn
      · exact rr_no (n := n) (by have := rr_le f n; omega) (by omega)
    · have e : rr f (n + 1) = 0 := by show (if f n then 0 else rr f n + 1) = _; rw [hn]; rfl
      omega
theorem rr_ge {f : Nat → Bool} : ∀ {n L : Nat}, L ≤ n → (∀ i, n - L ≤ i → i < n → f i = false) → L ≤ rr f n
  | 0, L, h, _ => by omega
  | n + 1, L, h, hf => by
    by_cases c : L = 0
    · omega
    · have hn := hf n (by omega) (by omega)
      have e : rr f (n + 1) = rr f n + 1 := by show (if f n then 0 else rr f n + 1) = _; rw [hn]; rfl
      have := rr_ge (n := n) (L := L - 1) (by omega) (fun i h1 h2 => hf i (by omega) (by omega))
      omega
theorem mx_rr {f : Nat → Bool} : ∀ {n k : Nat}, k ≤ n → rr f k ≤ mx f n
  | 0, k, h => by obtain rfl : k = 0 := by omega
                  exact Nat.zero_le _
  | n + 1, k, h => by
    unfold mx
    by_cases c : k = n + 1
    · subst c; exact Nat.le_max_right _ _
    · exact Nat.le_trans (mx_rr (by omega)) (Nat.le_max_left _ _)
theorem mx_win {f : Nat → Bool} : ∀ n, ∃ s, s + mx f n ≤ n ∧ ∀ i, i < mx f n → f (s + i) = false
  | 0 => ⟨0, by unfold mx; omega, fun i h => by simp [mx] at h⟩
  | n + 1 => by
    obtain ⟨s, h1, h2⟩ := mx_win (f := f) n
    have hr := rr_le f (n + 1)
    by_cases c : rr f (n + 1) ≤ mx f n
    · have e : mx f (n + 1) = mx f n := Nat.max_eq_left c
      rw [e]
      exact ⟨s, by omega, h2⟩
    · have e : mx f (n + 1) = rr f (n + 1) := Nat.max_eq_right (by omega)
      rw [e]
      exact ⟨n + 1 - rr f (n + 1), by omega, fun i hi => rr_no (n := n + 1) (by omega) (by omega)⟩
theorem mx_ge {f : Nat → Bool} {n s L : Nat} (h : s + L ≤ n) (hf : ∀ i, i < L → f (s + i) = false) : L ≤ mx f n :=
  Nat.le_trans (rr_ge (n := s + L) (by omega) (fun i h1 h2 => by
    have := hf (i - s) (by omega)
    rwa [show s + (i - s) = i from by omega] at this)) (mx_rr h)
theorem mx_le (f : Nat → Bool) (n : Nat) : mx f n ≤ n := by
  obtain ⟨s, h, -⟩ := mx_win (f := f) n
  omega
theorem mx_succ (f : Nat → Bool) (n : Nat) : mx f (n + 1) = max (mx f n) (rr f (n + 1)) := rfl
theorem rr_y {f : Nat → Bool} {n : Nat} (h : f n = true) : rr f (n + 1) = 0 := by show (if f n then 0 else rr f n + 1) = _; rw [h]; rfl
theorem rr_n {f : Nat → Bool} {n : Nat} (h : f n = false) : rr f (n + 1) = rr f n + 1 := by show (if f n then 0 else rr f n + 1) = _; rw [h]; rfl
/-- a row that comes again after N, seen from one place and from another: the longest stretches within twice N are the same -/
theorem mx_shift {g : Nat → Bool} {N : Nat} (hN : 0 < N) {i0 : Nat} (hi : i0 < N) (hg : g i0 = true) (c d : Int) : mx (fun j => g ((c + j) % (N : Int)).toNat) (2 * N) ≤ mx (fun j => g ((d + j) % (N : Int)).toNat) (2 * N) := by
  obtain ⟨s, h1, h2⟩ := mx_win (f := fun j => g ((c + j) % (N : Int)).toNat) (2 * N)
  generalize mx (fun j => g ((c + j) % (N : Int)).toNat) (2 * N) = L at h1 h2 ⊢
  have hn0 : (0 : Int) < (N : Int) := by omega
  have hL : L < N := by
    rcases Nat.lt_or_ge L N with h | h
    · exact h
    · exfalso
      have a1 := Int.emod_nonneg ((i0 : Int) - (c + s)) (show (N : Int) ≠ 0 by omega)
      have a2 := Int.emod_lt_of_pos ((i0 : Int) - (c + s)) hn0
      have h3 := h2 (((i0 : Int) - (c + s)) % (N : Int)).toNat (by omega)
      have e : (c + ((s + (((i0 : Int) - (c + s)) % (N : Int)).toNat : Nat) : Int)) % (N : Int) = i0 := by
        rw [Int.natCast_add, Int.toNat_of_nonneg a1, ← Int.add_assoc, Int.add_emod_emod, show c + (s : Int) + ((i0 : Int) - (c + s)) = (i0 : Int) from by omega]
        exact Int.emod_eq_of_lt (by omega) (by omega)
      simp only [e, Int.toNat_natCast, hg] at h3
      cases h3
  have a1 := Int.emod_nonneg (c + s - d) (show (N : Int) ≠ 0 by omega)
  have a2 := Int.emod_lt_of_pos (c + s - d) hn0
  refine mx_ge (s := ((c + s - d) % (N : Int)).toNat) (by omega) (fun i hi' => ?_)
  have h3 := h2 i hi'
  have e : (d + (((((c + s - d) % (N : Int)).toNat + i : Nat)) : Int)) % (N : Int) = (c + ((s + i : Nat) : Int)) % (N : Int) := by
    rw [Int.natCast_add, Int.toNat_of_nonneg a1, show d + ((c + s - d) % (N : Int) + (i : Int)) = (d + i) + (c + s - d) % (N : Int) from by omega, Int.add_emod_emod]
    congr 1
    omega
  simp only [e]
  exact h3
theorem mx_same {g : Nat → Bool} {N : Nat} (hN : 0 < N) {i0 : Nat} (hi : i0 < N) (hg : g i0 = true) (c d : Int) : mx (fun j => g ((c + j) % (N : Int)).toNat) (2 * N) = mx (fun j => g ((d + j) % (N : Int)).toNat) (2 * N) :=
  Nat.le_antisymm (mx_shift hN hi hg c d) (mx_shift hN hi hg d c)
/-- the longest red -/
def LR (xs : Slots) (b : Int) (m : Nat) : Nat := mx (fun j => gre b xs m ((0 + (j : Int)) % ((cyc xs b).toNat : Int)).toNat) (2 * (cyc xs b).toNat)
def vLR (xs : Slots) (b o k : Int) : Int × Int := if grC xs b o k 0 = 0 then (((LR xs b k.toNat : Nat) : Int), 0) else (0, grC xs b o k 0)
theorem vLR_no {xs : Slots} {b o k : Int} (h : grC xs b o k 0 ≠ 0) : vLR xs b o k = (0, grC xs b o k 0) := by unfold vLR; rw [if_neg h]
theorem vLR_yes {xs : Slots} {b o : Int} {m : Nat} (h : grC xs b o m 0 = 0) : vLR xs b o m = (((LR xs b m : Nat) : Int), 0) := by unfold vLR; rw [if_pos h, Int.toNat_natCast]
theorem run_maxI {P : Program} (w : World) (ts : Array TypeId) (t : TypeId) (x y : Int) : (Builtin.max_ ts t #[.int .i64 x, .int .i64 y]).run P w = .ok (.int .i64 (if x < y then y else x)) w := by
  by_cases h : x < y
  · rw [if_pos h]; simp [Builtin.max_, Builtin.max2, h]
  · rw [if_neg h]; simp [Builtin.max_, Builtin.max2, h]
theorem max_int (a r : Nat) : max a r = if a < r then r else a := by rw [Nat.max_def]; split <;> split <;> omega

end Go.Proofs.Ytkhnhbmnmciiaab
