/-
  CONTRACTS: SpeedAt.
-/
import Derived.Test.YtkaghfoaicbngaaTakes
namespace Go.Proofs.Ytkaghfoaicbngaa
open Go Go.RowKit

theorem l01Less_b (x y : Nat) (hx : x ≤ 2139095040) (hy : y ≤ 2139095040) (w : World) :
    Calls Try.prog 50 #[.float .f32 x, .float .f32 y] w fun e w' => e = .returned (.float .f32 (min x y)) ∧ Below w.heap.size w w' :=
  (l01Less_any x y hx hy w).mono fun _ _ h => ⟨h.1, by obtain ⟨n, rfl⟩ := h.2; exact Below.drewN0 _ _⟩

def leavesW (p b : Nat) (cs : List Nat) (k : Nat) : Nat := if k = 15 then sendsW p b (nth cs k) else flowW p b cs k
def speedW (p b : Nat) (cs : List Nat) (k : Nat) : Nat := if nth cs k = 0 then p else min (divB (leavesW p b cs k) (nth cs k)) p

theorem leavesW_le {cs : List Nat} {p b l k : Nat} (ok : OkR cs p b l) : leavesW p b cs k ≤ 1065353216 := by
  have := sendsW_le (b := b) ok.pace (ok.car k)
  have := flowW_le (k := k) ok
  unfold leavesW
  split <;> assumption

theorem speedW_le {cs : List Nat} {p b l k : Nat} (ok : OkR cs p b l) : speedW p b cs k ≤ 1065353216 := by
  have := ok.pace
  unfold speedW
  split <;> omega

theorem speed_facts {cs : List Nat} {p b l k : Nat} (ok : OkR cs p b l) (h : nth cs k ≠ 0) : floatBits .quo .f32 (leavesW p b cs k) (nth cs k) = some (divB (leavesW p b cs k) (nth cs k)) ∧ divB (leavesW p b cs k) (nth cs k) ≤ 2139095040 ∧ speedW p b cs k = min (divB (leavesW p b cs k) (nth cs k)) p := by
  have h1 := leavesW_le (k := k) ok
  have h2 := ok.car k
  have h3 := div_some (x := leavesW p b cs k) (y := nth cs k) (by omega) (by omega) (by omega)
  exact ⟨h3.1, h3.2, by unfold speedW; rw [if_neg h]⟩

def vSpeedAt (cs : List Nat) (p b l : Nat) (k : Int) : Nat × Int := if okB cs p b l then (if 0 ≤ k ∧ k ≤ 15 then (speedW p b cs k.toNat, 0) else (0, 2)) else (0, 1)
theorem vSpeedAt_yes {cs : List Nat} {p b l k : Nat} (h : okB cs p b l = true) (hk : k < 16) : vSpeedAt cs p b l k = (speedW p b cs k, 0) := by unfold vSpeedAt; rw [if_pos h, if_pos (by omega), Int.toNat_natCast]
theorem vSpeedAt_no {cs : List Nat} {p b l : Nat} {k : Int} (h : okB cs p b l = false) : vSpeedAt cs p b l k = (0, 1) := by unfold vSpeedAt; rw [h]; rfl
theorem vSpeedAt_bad {cs : List Nat} {p b l : Nat} {k : Int} (h : okB cs p b l = true) (hk : ¬ (0 ≤ k ∧ k ≤ 15)) : vSpeedAt cs p b l k = (0, 2) := by unfold vSpeedAt; rw [if_pos h, if_neg hk]

theorem vSpeedAt_good {cs : List Nat} (hl : cs.length = 16) (p b l : Nat) (k : Int) : (vSpeedAt cs p b l k).1 < 4294967296 ∧ nanB (vSpeedAt cs p b l k).1 = false := by
  cases h : okB cs p b l
  · rw [vSpeedAt_no h]; exact ⟨by decide, by decide⟩
  · have ok := OkR.of hl h
    by_cases c : 0 ≤ k ∧ k ≤ 15
    · obtain ⟨n, rfl⟩ := Int.eq_ofNat_of_zero_le c.1
      rw [vSpeedAt_yes h (by omega)]
      exact nan_le (speedW_le ok) (by omega)
    · rw [vSpeedAt_bad h c]; exact ⟨by decide, by decide⟩
end Go.Proofs.Ytkaghfoaicbngaa
