/-
  CONTRACTS: CarsOn.
-/
import Derived.Test.YtkaghfoaicbngaaCell2
namespace Go.Proofs.Ytkaghfoaicbngaa
open Go Go.RowKit

/-- the sum of the first shares, from the first one on -/
def sumW (cs : List Nat) : Nat → Nat
  | 0 => 0
  | 1 => nth cs 0
  | k + 2 => addB (sumW cs (k + 1)) (nth cs (k + 1))
theorem sumW_one (cs : List Nat) : sumW cs 1 = nth cs 0 := rfl
theorem sumW_succ (cs : List Nat) {k : Nat} (h : 1 ≤ k) : sumW cs (k + 1) = addB (sumW cs k) (nth cs k) := by
  obtain ⟨j, rfl⟩ : ∃ j, k = j + 1 := ⟨k - 1, by omega⟩
  rfl
theorem sumW_le {cs : List Nat} {p b l : Nat} (ok : OkR cs p b l) : ∀ k, sumW cs k ≤ 2139095040
  | 0 => by unfold sumW; omega
  | 1 => by rw [sumW_one]; exact Nat.le_trans (ok.car 0) (by omega)
  | k + 2 => by rw [sumW_succ cs (by omega)]; exact (add_any (sumW_le ok (k + 1)) (Nat.le_trans (ok.car _) (by omega))).2
def carsW (cs : List Nat) (l : Nat) : Nat := mulB (sumW cs 16) l
theorem cars_facts {cs : List Nat} {p b l : Nat} (ok : OkR cs p b l) : floatBits .mul .f32 (sumW cs 16) l = some (carsW cs l) ∧ carsW cs l ≤ 2139095040 := by
  have h1 := sumW_le ok 16
  have h2 := ok.lanes
  exact mul_any h1 (by omega) (by omega)
theorem sum_step {P : Program} {cs : List Nat} {p b l k : Nat} (ok : OkR cs p b l) (h : 1 ≤ k) (t : TypeId) (w : World) : (binOp .add t (.float .f32 (sumW cs k)) (.float .f32 (nth cs k))).run P w = .ok (.float .f32 (sumW cs (k + 1))) w :=
  run_float_arith w .add t .f32 _ _ _ (by rw [sumW_succ cs h]; exact (add_any (sumW_le ok k) (Nat.le_trans (ok.car _) (by omega))).1)

theorem l01Sum_any (g : Nat) (cs : List Nat) (p b l : Nat) (ok : OkR cs p b l) (w : World) (hr : RoadAt w g cs p b l) :
    Calls Try.prog 43 #[.pointer (some ⟨g, 0, none⟩)] w fun e w' => e = .returned (.float .f32 (sumW cs 16)) ∧ w = w' := by
  have c0 := hr.car ok.len (k := 0) (by omega)
  go_enter Try.func43, Try.ntmps43
  go_wp2
  go_loop [4, 3] (fun i s => ∃ k : Nat, 1 ≤ k ∧ k ≤ 16 ∧ i = .int .i64 k ∧ s = .float .f32 (sumW cs k)) (fun i _ => 16 - (intOf i).toNat)
  case atStart => exact ⟨1, by omega, by omega, rfl, rfl⟩
  case round =>
    obtain ⟨k, hk1, hk, rfl, rfl⟩ := hrel
    clear c0
    by_cases hlt : k < 16
    · have hi := hr.car ok.len hlt
      have hs := sum_step (P := Try.prog) ok hk1
      go_wp2_with (simp only [hs])
      exact ⟨⟨k + 1, by omega, by omega, by go_num, rfl⟩, by simp [intOf]; omega⟩
    · obtain rfl : k = 16 := by omega
      go_wp2
      go_ret
      exact ⟨rfl, rfl⟩

def vCarsOn (cs : List Nat) (p b l : Nat) : Nat × Int := if okB cs p b l then (carsW cs l, 0) else (0, 1)
theorem vCarsOn_yes {cs : List Nat} {p b l : Nat} (h : okB cs p b l = true) : vCarsOn cs p b l = (carsW cs l, 0) := by unfold vCarsOn; rw [if_pos h]
theorem vCarsOn_no {cs : List Nat} {p b l : Nat} (h : okB cs p b l = false) : vCarsOn cs p b l = (0, 1) := by unfold vCarsOn; rw [h]; rfl

theorem l01Sum_b (g : Nat) (cs : List Nat) (p b l : Nat) (ok : OkR cs p b l) (w : World) (hr : RoadAt w g cs p b l) :
    Calls Try.prog 43 #[.pointer (some ⟨g, 0, none⟩)] w fun e w' => e = .returned (.float .f32 (sumW cs 16)) ∧ Below w.heap.size w w' :=
  (l01Sum_any g cs p b l ok w hr).mono fun _ _ h => ⟨h.1, by rw [← h.2]; exact Below.refl _ _⟩

theorem carsOn_any (cs : List Nat) (p b l : Nat) (ok : OkR cs p b l) (w : World) :
    Calls Try.prog 67 #[.agg (rd cs p b l)] w fun e w' => e = .returned (.float .f32 (carsW cs l)) ∧ Below w.heap.size w w' := by
  have A1 := At.new w (rd cs p b l) 28
  have hl := ok.len
  have c0 := A1.cell (rd_cell hl p b l (k := 0) (by omega))
  go_enter Try.func67, Try.ntmps67
  go_wp2
  go_loop [4, 3] (fun i s => ∃ k : Nat, 1 ≤ k ∧ k ≤ 16 ∧ i = .int .i64 k ∧ s = .float .f32 (sumW cs k)) (fun i _ => 16 - (intOf i).toNat)
  case atStart => exact ⟨1, by omega, by omega, rfl, rfl⟩
  case round =>
    obtain ⟨k, hk1, hk, rfl, rfl⟩ := hrel
    clear c0
    by_cases hlt : k < 16
    · have hi := A1.cell (rd_cell hl p b l hlt)
      have hs := sum_step (P := Try.prog) ok hk1
      go_wp2_with (simp only [hs])
      exact ⟨⟨k + 1, by omega, by omega, by go_num, rfl⟩, by simp [intOf]; omega⟩
    · obtain rfl : k = 16 := by omega
      have hi := A1.cell (rd_lanes hl p b l)
      have hs : ∀ t w, (binOp .mul t (.float .f32 (sumW cs 16)) (.float .f32 l)).run Try.prog w = .ok (.float .f32 (carsW cs l)) w := fun t w => run_float_arith w .mul t .f32 _ _ _ (cars_facts ok).1
      go_wp2_with (simp only [hs])
      go_ret
      exact ⟨rfl, b0 _ _⟩

theorem RoadAt.ofAt {W : World} {g : Nat} {cs : List Nat} {p b l : Nat} {T : TypeId} (h : At W g (rd cs p b l) T) : RoadAt W g cs p b l := ⟨T, _, h⟩

theorem vCarsOn_good {cs : List Nat} (hl : cs.length = 16) (p b l : Nat) : (vCarsOn cs p b l).1 < 4294967296 ∧ nanB (vCarsOn cs p b l).1 = false := by
  cases h : okB cs p b l
  · rw [vCarsOn_no h]; exact ⟨by decide, by decide⟩
  · rw [vCarsOn_yes h]
    have h2 := (cars_facts (OkR.of hl h)).2
    generalize carsW cs l = x at h2 ⊢
    have h3 := nan_le h2 (Nat.le_refl _)
    exact h3
end Go.Proofs.Ytkaghfoaicbngaa
