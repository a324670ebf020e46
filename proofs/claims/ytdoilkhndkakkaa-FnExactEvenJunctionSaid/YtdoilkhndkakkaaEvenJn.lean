/-
  CONTRACTS: EvenJunction.
-/
import Derived.Test.YtdoilkhndkakkaaEven
namespace Go.Proofs.Ytdoilkhndkakkaa
open Go Go.RowKit
set_option maxRecDepth 100000

/-- 1 over a number of outs -/
def evQ (o : Int) : Nat := if o = 1 then 1065353216 else if o = 2 then 1056964608 else if o = 3 then 1051372203 else 1048576000
def vEven (i o : Int) : Int × Int × List Nat × List Nat × Int :=
  if inB 1 4 i && inB 1 4 o then (i, o, evT (evQ o) o.toNat i.toNat 0, evP i.toNat, 0) else (0, 0, zeros 16, zeros 4, 2)
theorem even_facts (o : Int) (h : 1 ≤ o ∧ o ≤ 4) : ∃ f q, (∀ W, (convert 2 22 (.int .i64 o)).run Try.prog W = .ok (.float .f32 f) W) ∧ (∀ t W, (binOp .quo t (.float .f32 1065353216) (.float .f32 f)).run Try.prog W = .ok (.float .f32 q) W) ∧ evQ o = q ∧ q ≤ 1065353216 := by
  rcases (by omega : o = 1 ∨ o = 2 ∨ o = 3 ∨ o = 4) with rfl | rfl | rfl | rfl
  · exact ⟨1065353216, 1065353216, fun W => by kernel_rfl, fun t W => run_float_arith W .quo t .f32 _ _ _ (by decide), rfl, by omega⟩
  · exact ⟨1073741824, 1056964608, fun W => by kernel_rfl, fun t W => run_float_arith W .quo t .f32 _ _ _ (by decide), rfl, by omega⟩
  · exact ⟨1077936128, 1051372203, fun W => by kernel_rfl, fun t W => run_float_arith W .quo t .f32 _ _ _ (by decide), rfl, by omega⟩
  · exact ⟨1082130432, 1048576000, fun W => by kernel_rfl, fun t W => run_float_arith W .quo t .f32 _ _ _ (by decide), rfl, by omega⟩
theorem vEven_good (i o : Int) : (vEven i o).2.2.1.length = 16 ∧ (vEven i o).2.2.2.1.length = 4 ∧ (∀ y ∈ (vEven i o).2.2.1, y < 4294967296 ∧ nanB y = false) ∧ ∀ y ∈ (vEven i o).2.2.2.1, y < 4294967296 ∧ nanB y = false := by
  unfold vEven
  split
  · rename_i h
    have b2 : 1 ≤ o ∧ o ≤ 4 := by unfold inB at h; simp at h; exact h.2
    obtain ⟨f, q, -, -, hq, hle⟩ := even_facts o b2
    refine ⟨evT_len _ _ _ _, evP_len _, fun y hy => ?_, fun y hy => ?_⟩
    · obtain ⟨k, hk, rfl⟩ := rowOf_mem hy
      split
      · rw [hq]; exact nan_le hle (by omega)
      · decide
    · obtain ⟨k, hk, rfl⟩ := rowOf_mem hy
      split <;> decide
  · exact ⟨zeros_len _, zeros_len _, zeros_good _, zeros_good _⟩

set_option maxHeartbeats 400000 in
theorem EvenJunction_b (i o : Int) (w : World) :
    Calls Try.prog 21 #[.int .i64 i, .int .i64 o] w fun e w' => e = .returned (.tuple #[.agg (jn (vEven i o).1 (vEven i o).2.1 (vEven i o).2.2.1 (vEven i o).2.2.2.1), .int .i64 (vEven i o).2.2.2.2]) ∧ Below w.heap.size w w' := by
  have R0 := At.new w (#[.int .i64 0, .int .i64 0, .float .f32 0, .float .f32 0, .float .f32 0, .float .f32 0, .float .f32 0, .float .f32 0, .float .f32 0, .float .f32 0, .float .f32 0, .float .f32 0, .float .f32 0, .float .f32 0, .float .f32 0, .float .f32 0, .float .f32 0, .float .f32 0, .float .f32 0, .float .f32 0, .float .f32 0, .float .f32 0]) 31
  have B0 := Lib.hid (b0 w (.cells (#[.int .i64 0, .int .i64 0, .float .f32 0, .float .f32 0, .float .f32 0, .float .f32 0, .float .f32 0, .float .f32 0, .float .f32 0, .float .f32 0, .float .f32 0, .float .f32 0, .float .f32 0, .float .f32 0, .float .f32 0, .float .f32 0, .float .f32 0, .float .f32 0, .float .f32 0, .float .f32 0, .float .f32 0, .float .f32 0]) 31))
  cases h1 : inB 1 4 i
  · skip
    have ev : (vEven i o) = (0, 0, zeros 16, zeros 4, 2) := by unfold vEven; rw [h1]; rfl
    rw [ev]
    clear ev
    go_enter Try.func21, Try.ntmps21
    go_wp2_with fail
    refine (isArmCount_b i _).mono ?_
    rw [h1]
    rintro e w1 ⟨rfl, n1, rfl⟩
    have R1 := R0.drewN n1
    have B1 := Lib.hid (bdrew B0.out n1)
    generalize hw1 : World.drewN _ _ = w1 at R1 B1 ⊢
    clear R0 B0 hw1
    have R9 := R1.setRow (#[.int .i64 0, .int .i64 0, .float .f32 0, .float .f32 0, .float .f32 0, .float .f32 0, .float .f32 0, .float .f32 0, .float .f32 0, .float .f32 0, .float .f32 0, .float .f32 0, .float .f32 0, .float .f32 0, .float .f32 0, .float .f32 0, .float .f32 0, .float .f32 0, .float .f32 0, .float .f32 0, .float .f32 0, .float .f32 0])
    have B9 := Lib.hid (bset B1.out (g := w.heap.size) (Nat.le_refl _) (#[.int .i64 0, .int .i64 0, .float .f32 0, .float .f32 0, .float .f32 0, .float .f32 0, .float .f32 0, .float .f32 0, .float .f32 0, .float .f32 0, .float .f32 0, .float .f32 0, .float .f32 0, .float .f32 0, .float .f32 0, .float .f32 0, .float .f32 0, .float .f32 0, .float .f32 0, .float .f32 0, .float .f32 0, .float .f32 0]))
    go_wp2_with (((with_reducible refine is_store 31 (.tmp 4) (.tmp 17) rfl ?_); refine wpList_store_at rfl 31 (.tmp 4) (.tmp 17) rfl _ rfl (#[.int .i64 0, .int .i64 0, .float .f32 0, .float .f32 0, .float .f32 0, .float .f32 0, .float .f32 0, .float .f32 0, .float .f32 0, .float .f32 0, .float .f32 0, .float .f32 0, .float .f32 0, .float .f32 0, .float .f32 0, .float .f32 0, .float .f32 0, .float .f32 0, .float .f32 0, .float .f32 0, .float .f32 0, .float .f32 0]) rfl (#[.int .i64 0, .int .i64 0, .float .f32 0, .float .f32 0, .float .f32 0, .float .f32 0, .float .f32 0, .float .f32 0, .float .f32 0, .float .f32 0, .float .f32 0, .float .f32 0, .float .f32 0, .float .f32 0, .float .f32 0, .float .f32 0, .float .f32 0, .float .f32 0, .float .f32 0, .float .f32 0, .float .f32 0, .float .f32 0]) _ R1 22 ((by rw [zlit]; exact jn_size (zeros_len 16) (zeros_len 4) _ _)) ((by rw [zlit]; exact jn_size (zeros_len 16) (zeros_len 4) _ _)) (by kernel_rfl) ((by rw [zlit]; exact jn_one _ _ _ _)) ?_))
    rw [← zlit]
    exact bodyPost_ret (v := .tuple #[.agg (#[.int .i64 0, .int .i64 0, .float .f32 0, .float .f32 0, .float .f32 0, .float .f32 0, .float .f32 0, .float .f32 0, .float .f32 0, .float .f32 0, .float .f32 0, .float .f32 0, .float .f32 0, .float .f32 0, .float .f32 0, .float .f32 0, .float .f32 0, .float .f32 0, .float .f32 0, .float .f32 0, .float .f32 0, .float .f32 0]), .int .i64 2]) (results_at_tmp (p := 4) (ty := 31) rfl _ _ _ (#[.int .i64 0, .int .i64 0, .float .f32 0, .float .f32 0, .float .f32 0, .float .f32 0, .float .f32 0, .float .f32 0, .float .f32 0, .float .f32 0, .float .f32 0, .float .f32 0, .float .f32 0, .float .f32 0, .float .f32 0, .float .f32 0, .float .f32 0, .float .f32 0, .float .f32 0, .float .f32 0, .float .f32 0, .float .f32 0]) _ (.int .i64 2) rfl rfl R9 _ Try.underlying31 rfl 22 ((by rw [zlit]; exact jn_size (zeros_len 16) (zeros_len 4) _ _)) (by kernel_rfl)) rfl ⟨rfl, B9.out⟩
  cases h2 : inB 1 4 o
  · skip
    have ev : (vEven i o) = (0, 0, zeros 16, zeros 4, 2) := by unfold vEven; rw [h1, h2]; rfl
    rw [ev]
    clear ev
    go_enter Try.func21, Try.ntmps21
    go_wp2_with fail
    refine (isArmCount_b i _).mono ?_
    rw [h1]
    rintro e w1 ⟨rfl, n1, rfl⟩
    go_wp2_with fail
    refine (isArmCount_b o _).mono ?_
    rw [h2]
    rintro e w2 ⟨rfl, n2, rfl⟩
    have R1 := (R0.drewN n1).drewN n2
    have B1 := Lib.hid (bdrew (bdrew B0.out n1) n2)
    generalize hw1 : World.drewN _ _ = w1 at R1 B1 ⊢
    clear R0 B0 hw1
    have R9 := R1.setRow (#[.int .i64 0, .int .i64 0, .float .f32 0, .float .f32 0, .float .f32 0, .float .f32 0, .float .f32 0, .float .f32 0, .float .f32 0, .float .f32 0, .float .f32 0, .float .f32 0, .float .f32 0, .float .f32 0, .float .f32 0, .float .f32 0, .float .f32 0, .float .f32 0, .float .f32 0, .float .f32 0, .float .f32 0, .float .f32 0])
    have B9 := Lib.hid (bset B1.out (g := w.heap.size) (Nat.le_refl _) (#[.int .i64 0, .int .i64 0, .float .f32 0, .float .f32 0, .float .f32 0, .float .f32 0, .float .f32 0, .float .f32 0, .float .f32 0, .float .f32 0, .float .f32 0, .float .f32 0, .float .f32 0, .float .f32 0, .float .f32 0, .float .f32 0, .float .f32 0, .float .f32 0, .float .f32 0, .float .f32 0, .float .f32 0, .float .f32 0]))
    go_wp2_with (((with_reducible refine is_store 31 (.tmp 4) (.tmp 17) rfl ?_); refine wpList_store_at rfl 31 (.tmp 4) (.tmp 17) rfl _ rfl (#[.int .i64 0, .int .i64 0, .float .f32 0, .float .f32 0, .float .f32 0, .float .f32 0, .float .f32 0, .float .f32 0, .float .f32 0, .float .f32 0, .float .f32 0, .float .f32 0, .float .f32 0, .float .f32 0, .float .f32 0, .float .f32 0, .float .f32 0, .float .f32 0, .float .f32 0, .float .f32 0, .float .f32 0, .float .f32 0]) rfl (#[.int .i64 0, .int .i64 0, .float .f32 0, .float .f32 0, .float .f32 0, .float .f32 0, .float .f32 0, .float .f32 0, .float .f32 0, .float .f32 0, .float .f32 0, .float .f32 0, .float .f32 0, .float .f32 0, .float .f32 0, .float .f32 0, .float .f32 0, .float .f32 0, .float .f32 0, .float .f32 0, .float .f32 0, .float .f32 0]) _ R1 22 ((by rw [zlit]; exact jn_size (zeros_len 16) (zeros_len 4) _ _)) ((by rw [zlit]; exact jn_size (zeros_len 16) (zeros_len 4) _ _)) (by kernel_rfl) ((by rw [zlit]; exact jn_one _ _ _ _)) ?_))
    rw [← zlit]
    exact bodyPost_ret (v := .tuple #[.agg (#[.int .i64 0, .int .i64 0, .float .f32 0, .float .f32 0, .float .f32 0, .float .f32 0, .float .f32 0, .float .f32 0, .float .f32 0, .float .f32 0, .float .f32 0, .float .f32 0, .float .f32 0, .float .f32 0, .float .f32 0, .float .f32 0, .float .f32 0, .float .f32 0, .float .f32 0, .float .f32 0, .float .f32 0, .float .f32 0]), .int .i64 2]) (results_at_tmp (p := 4) (ty := 31) rfl _ _ _ (#[.int .i64 0, .int .i64 0, .float .f32 0, .float .f32 0, .float .f32 0, .float .f32 0, .float .f32 0, .float .f32 0, .float .f32 0, .float .f32 0, .float .f32 0, .float .f32 0, .float .f32 0, .float .f32 0, .float .f32 0, .float .f32 0, .float .f32 0, .float .f32 0, .float .f32 0, .float .f32 0, .float .f32 0, .float .f32 0]) _ (.int .i64 2) rfl rfl R9 _ Try.underlying31 rfl 22 ((by rw [zlit]; exact jn_size (zeros_len 16) (zeros_len 4) _ _)) (by kernel_rfl)) rfl ⟨rfl, B9.out⟩
  have b1 : 1 ≤ i ∧ i ≤ 4 := by unfold inB at h1; simpa using h1
  have b2 : 1 ≤ o ∧ o ≤ 4 := by unfold inB at h2; simpa using h2
  have ei : (i.toNat : Int) = i := Int.toNat_of_nonneg (by omega)
  have eo : (o.toNat : Int) = o := Int.toNat_of_nonneg (by omega)
  obtain ⟨f, q, hcv, hq, hqo, -⟩ := even_facts o b2
  have ev : (vEven i o) = (i, o, evT q o.toNat i.toNat 0, evP i.toNat, 0) := by unfold vEven; rw [h1, h2, hqo]; rfl
  have K := Even_core i.toNat o.toNat f q (by omega) (by omega) (by rw [eo]; exact hcv) hq w
  rw [ei, eo] at K
  refine K.mono fun e w' h => ?_
  rw [ev]
  exact h

set_option maxHeartbeats 400000 in
theorem sEvenJunction_b (i o : Int) (w : World) :
    Calls Try.prog 20 #[.int .i64 i, .int .i64 o] w fun e w' => e = .returned (.tuple #[.agg (jn (vEven i o).1 (vEven i o).2.1 (vEven i o).2.2.1 (vEven i o).2.2.2.1), .int .i64 (vEven i o).2.2.2.2]) ∧ Below w.heap.size w w' := by
  have R0 := At.new w (#[.int .i64 0, .int .i64 0, .float .f32 0, .float .f32 0, .float .f32 0, .float .f32 0, .float .f32 0, .float .f32 0, .float .f32 0, .float .f32 0, .float .f32 0, .float .f32 0, .float .f32 0, .float .f32 0, .float .f32 0, .float .f32 0, .float .f32 0, .float .f32 0, .float .f32 0, .float .f32 0, .float .f32 0, .float .f32 0]) 31
  have B0 := Lib.hid (b0 w (.cells (#[.int .i64 0, .int .i64 0, .float .f32 0, .float .f32 0, .float .f32 0, .float .f32 0, .float .f32 0, .float .f32 0, .float .f32 0, .float .f32 0, .float .f32 0, .float .f32 0, .float .f32 0, .float .f32 0, .float .f32 0, .float .f32 0, .float .f32 0, .float .f32 0, .float .f32 0, .float .f32 0, .float .f32 0, .float .f32 0]) 31))
  cases h1 : inB 1 4 i
  · skip
    have ev : (vEven i o) = (0, 0, zeros 16, zeros 4, 2) := by unfold vEven; rw [h1]; rfl
    rw [ev]
    clear ev
    go_enter Try.func20, Try.ntmps20
    go_wp2_with fail
    refine (l03Arms_b i _).mono ?_
    rw [h1]
    rintro e w1 ⟨rfl, n1, rfl⟩
    have R1 := R0.drewN n1
    have B1 := Lib.hid (bdrew B0.out n1)
    generalize hw1 : World.drewN _ _ = w1 at R1 B1 ⊢
    clear R0 B0 hw1
    have R9 := R1.setRow (#[.int .i64 0, .int .i64 0, .float .f32 0, .float .f32 0, .float .f32 0, .float .f32 0, .float .f32 0, .float .f32 0, .float .f32 0, .float .f32 0, .float .f32 0, .float .f32 0, .float .f32 0, .float .f32 0, .float .f32 0, .float .f32 0, .float .f32 0, .float .f32 0, .float .f32 0, .float .f32 0, .float .f32 0, .float .f32 0])
    have B9 := Lib.hid (bset B1.out (g := w.heap.size) (Nat.le_refl _) (#[.int .i64 0, .int .i64 0, .float .f32 0, .float .f32 0, .float .f32 0, .float .f32 0, .float .f32 0, .float .f32 0, .float .f32 0, .float .f32 0, .float .f32 0, .float .f32 0, .float .f32 0, .float .f32 0, .float .f32 0, .float .f32 0, .float .f32 0, .float .f32 0, .float .f32 0, .float .f32 0, .float .f32 0, .float .f32 0]))
    go_wp2_with (((with_reducible refine is_store 31 (.tmp 4) (.tmp 14) rfl ?_); refine wpList_store_at rfl 31 (.tmp 4) (.tmp 14) rfl _ rfl (#[.int .i64 0, .int .i64 0, .float .f32 0, .float .f32 0, .float .f32 0, .float .f32 0, .float .f32 0, .float .f32 0, .float .f32 0, .float .f32 0, .float .f32 0, .float .f32 0, .float .f32 0, .float .f32 0, .float .f32 0, .float .f32 0, .float .f32 0, .float .f32 0, .float .f32 0, .float .f32 0, .float .f32 0, .float .f32 0]) rfl (#[.int .i64 0, .int .i64 0, .float .f32 0, .float .f32 0, .float .f32 0, .float .f32 0, .float .f32 0, .float .f32 0, .float .f32 0, .float .f32 0, .float .f32 0, .float .f32 0, .float .f32 0, .float .f32 0, .float .f32 0, .float .f32 0, .float .f32 0, .float .f32 0, .float .f32 0, .float .f32 0, .float .f32 0, .float .f32 0]) _ R1 22 ((by rw [zlit]; exact jn_size (zeros_len 16) (zeros_len 4) _ _)) ((by rw [zlit]; exact jn_size (zeros_len 16) (zeros_len 4) _ _)) (by kernel_rfl) ((by rw [zlit]; exact jn_one _ _ _ _)) ?_))
    rw [← zlit]
    exact bodyPost_ret (v := .tuple #[.agg (#[.int .i64 0, .int .i64 0, .float .f32 0, .float .f32 0, .float .f32 0, .float .f32 0, .float .f32 0, .float .f32 0, .float .f32 0, .float .f32 0, .float .f32 0, .float .f32 0, .float .f32 0, .float .f32 0, .float .f32 0, .float .f32 0, .float .f32 0, .float .f32 0, .float .f32 0, .float .f32 0, .float .f32 0, .float .f32 0]), .int .i64 2]) (results_at_tmp (p := 4) (ty := 31) rfl _ _ _ (#[.int .i64 0, .int .i64 0, .float .f32 0, .float .f32 0, .float .f32 0, .float .f32 0, .float .f32 0, .float .f32 0, .float .f32 0, .float .f32 0, .float .f32 0, .float .f32 0, .float .f32 0, .float .f32 0, .float .f32 0, .float .f32 0, .float .f32 0, .float .f32 0, .float .f32 0, .float .f32 0, .float .f32 0, .float .f32 0]) _ (.int .i64 2) rfl rfl R9 _ Try.underlying31 rfl 22 ((by rw [zlit]; exact jn_size (zeros_len 16) (zeros_len 4) _ _)) (by kernel_rfl)) rfl ⟨rfl, B9.out⟩
  cases h2 : inB 1 4 o
  · skip
    have ev : (vEven i o) = (0, 0, zeros 16, zeros 4, 2) := by unfold vEven; rw [h1, h2]; rfl
    rw [ev]
    clear ev
    go_enter Try.func20, Try.ntmps20
    go_wp2_with fail
    refine (l03Arms_b i _).mono ?_
    rw [h1]
    rintro e w1 ⟨rfl, n1, rfl⟩
    go_wp2_with fail
    refine (l03Arms_b o _).mono ?_
    rw [h2]
    rintro e w2 ⟨rfl, n2, rfl⟩
    have R1 := (R0.drewN n1).drewN n2
    have B1 := Lib.hid (bdrew (bdrew B0.out n1) n2)
    generalize hw1 : World.drewN _ _ = w1 at R1 B1 ⊢
    clear R0 B0 hw1
    have R9 := R1.setRow (#[.int .i64 0, .int .i64 0, .float .f32 0, .float .f32 0, .float .f32 0, .float .f32 0, .float .f32 0, .float .f32 0, .float .f32 0, .float .f32 0, .float .f32 0, .float .f32 0, .float .f32 0, .float .f32 0, .float .f32 0, .float .f32 0, .float .f32 0, .float .f32 0, .float .f32 0, .float .f32 0, .float .f32 0, .float .f32 0])
    have B9 := Lib.hid (bset B1.out (g := w.heap.size) (Nat.le_refl _) (#[.int .i64 0, .int .i64 0, .float .f32 0, .float .f32 0, .float .f32 0, .float .f32 0, .float .f32 0, .float .f32 0, .float .f32 0, .float .f32 0, .float .f32 0, .float .f32 0, .float .f32 0, .float .f32 0, .float .f32 0, .float .f32 0, .float .f32 0, .float .f32 0, .float .f32 0, .float .f32 0, .float .f32 0, .float .f32 0]))
    go_wp2_with (((with_reducible refine is_store 31 (.tmp 4) (.tmp 14) rfl ?_); refine wpList_store_at rfl 31 (.tmp 4) (.tmp 14) rfl _ rfl (#[.int .i64 0, .int .i64 0, .float .f32 0, .float .f32 0, .float .f32 0, .float .f32 0, .float .f32 0, .float .f32 0, .float .f32 0, .float .f32 0, .float .f32 0, .float .f32 0, .float .f32 0, .float .f32 0, .float .f32 0, .float .f32 0, .float .f32 0, .float .f32 0, .float .f32 0, .float .f32 0, .float .f32 0, .float .f32 0]) rfl (#[.int .i64 0, .int .i64 0, .float .f32 0, .float .f32 0, .float .f32 0, .float .f32 0, .float .f32 0, .float .f32 0, .float .f32 0, .float .f32 0, .float .f32 0, .float .f32 0, .float .f32 0, .float .f32 0, .float .f32 0, .float .f32 0, .float .f32 0, .float .f32 0, .float .f32 0, .float .f32 0, .float .f32 0, .float .f32 0]) _ R1 22 ((by rw [zlit]; exact jn_size (zeros_len 16) (zeros_len 4) _ _)) ((by rw [zlit]; exact jn_size (zeros_len 16) (zeros_len 4) _ _)) (by kernel_rfl) ((by rw [zlit]; exact jn_one _ _ _ _)) ?_))
    rw [← zlit]
    exact bodyPost_ret (v := .tuple #[.agg (#[.int .i64 0, .int .i64 0, .float .f32 0, .float .f32 0, .float .f32 0, .float .f32 0, .float .f32 0, .float .f32 0, .float .f32 0, .float .f32 0, .float .f32 0, .float .f32 0, .float .f32 0, .float .f32 0, .float .f32 0, .float .f32 0, .float .f32 0, .float .f32 0, .float .f32 0, .float .f32 0, .float .f32 0, .float .f32 0]), .int .i64 2]) (results_at_tmp (p := 4) (ty := 31) rfl _ _ _ (#[.int .i64 0, .int .i64 0, .float .f32 0, .float .f32 0, .float .f32 0, .float .f32 0, .float .f32 0, .float .f32 0, .float .f32 0, .float .f32 0, .float .f32 0, .float .f32 0, .float .f32 0, .float .f32 0, .float .f32 0, .float .f32 0, .float .f32 0, .float .f32 0, .float .f32 0, .float .f32 0, .float .f32 0, .float .f32 0]) _ (.int .i64 2) rfl rfl R9 _ Try.underlying31 rfl 22 ((by rw [zlit]; exact jn_size (zeros_len 16) (zeros_len 4) _ _)) (by kernel_rfl)) rfl ⟨rfl, B9.out⟩
  have b1 : 1 ≤ i ∧ i ≤ 4 := by unfold inB at h1; simpa using h1
  have b2 : 1 ≤ o ∧ o ≤ 4 := by unfold inB at h2; simpa using h2
  have ei : (i.toNat : Int) = i := Int.toNat_of_nonneg (by omega)
  have eo : (o.toNat : Int) = o := Int.toNat_of_nonneg (by omega)
  obtain ⟨f, q, hcv, hq, hqo, -⟩ := even_facts o b2
  have ev : (vEven i o) = (i, o, evT q o.toNat i.toNat 0, evP i.toNat, 0) := by unfold vEven; rw [h1, h2, hqo]; rfl
  have SR : (jn i o (evT q o.toNat i.toNat 0) (evP i.toNat)).size = 22 := jn_size (evT_len _ _ _ _) (evP_len _) _ _
  have KK := fun w => sEven_core i.toNat o.toNat f q (by omega) (by omega) (by rw [eo]; exact hcv) hq w
  rw [ei, eo] at KK
  rw [ev]
  clear ev hcv hq ei eo b1 b2
  go_enter Try.func20, Try.ntmps20
  go_wp2_with fail
  refine (l03Arms_b i _).mono ?_
  rw [h1]
  rintro e w1 ⟨rfl, n1, rfl⟩
  go_wp2_with fail
  refine (l03Arms_b o _).mono ?_
  rw [h2]
  rintro e w2 ⟨rfl, n2, rfl⟩
  have R1 := (R0.drewN n1).drewN n2
  have B1 := Lib.hid (bdrew (bdrew B0.out n1) n2)
  generalize hw1 : World.drewN _ _ = w1 at R1 B1 ⊢
  clear R0 B0 hw1
  go_wp2_with fail
  refine (KK _).mono ?_
  rintro e w3 ⟨rfl, hb3⟩
  have R2 := R1.step hb3
  have B2 := Lib.hid (bthen B1.out hb3)
  clear R1 B1 hb3 KK
  have R9 := R2.setRow (jn i o (evT q o.toNat i.toNat 0) (evP i.toNat))
  have B9 := Lib.hid (bset B2.out (g := w.heap.size) (Nat.le_refl _) (jn i o (evT q o.toNat i.toNat 0) (evP i.toNat)))
  go_wp2_with (((with_reducible refine is_store 31 (.tmp 4) (.tmp 17) rfl ?_); refine wpList_store_at rfl 31 (.tmp 4) (.tmp 17) rfl _ rfl (jn i o (evT q o.toNat i.toNat 0) (evP i.toNat)) rfl (#[.int .i64 0, .int .i64 0, .float .f32 0, .float .f32 0, .float .f32 0, .float .f32 0, .float .f32 0, .float .f32 0, .float .f32 0, .float .f32 0, .float .f32 0, .float .f32 0, .float .f32 0, .float .f32 0, .float .f32 0, .float .f32 0, .float .f32 0, .float .f32 0, .float .f32 0, .float .f32 0, .float .f32 0, .float .f32 0]) _ R2 22 (SR) ((by rw [zlit]; exact jn_size (zeros_len 16) (zeros_len 4) _ _)) (by kernel_rfl) (jn_one _ _ _ _) ?_))
  exact bodyPost_ret (v := .tuple #[.agg (jn i o (evT q o.toNat i.toNat 0) (evP i.toNat)), .int .i64 0]) (results_at_tmp (p := 4) (ty := 31) rfl _ _ _ (jn i o (evT q o.toNat i.toNat 0) (evP i.toNat)) _ (.int .i64 0) rfl rfl R9 _ Try.underlying31 rfl 22 (SR) (by kernel_rfl)) rfl ⟨rfl, B9.out⟩

end Go.Proofs.Ytdoilkhndkakkaa
