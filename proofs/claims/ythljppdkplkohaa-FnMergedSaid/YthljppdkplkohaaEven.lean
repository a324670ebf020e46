/-
  CONTRACTS: a junction with equal turns.
-/
import Derived.Test.YthljppdkplkohaaG5
namespace Go.Proofs.Ythljppdkplkohaa
open Go Go.RowKit
set_option maxRecDepth 100000

theorem built_jn (a b : Int) : Try.prog.built 34 [(0, .int .i64 a), (1, .int .i64 b)] = some (#[.int .i64 a, .int .i64 b, .float .f32 0, .float .f32 0, .float .f32 0, .float .f32 0, .float .f32 0, .float .f32 0, .float .f32 0, .float .f32 0, .float .f32 0, .float .f32 0, .float .f32 0, .float .f32 0, .float .f32 0, .float .f32 0, .float .f32 0, .float .f32 0, .float .f32 0, .float .f32 0, .float .f32 0, .float .f32 0]) := by kernel_rfl

theorem zlitG (a b : Int) : (#[.int .i64 a, .int .i64 b, .float .f32 0, .float .f32 0, .float .f32 0, .float .f32 0, .float .f32 0, .float .f32 0, .float .f32 0, .float .f32 0, .float .f32 0, .float .f32 0, .float .f32 0, .float .f32 0, .float .f32 0, .float .f32 0, .float .f32 0, .float .f32 0, .float .f32 0, .float .f32 0, .float .f32 0, .float .f32 0] : Array Value) = jn a b (zeros 16) (zeros 4) := by
  apply Array.ext'
  rw [jn_list]
  rfl

/-- equal turns: k rows, and n numbers of the next one -/
def evT (q c k n : Nat) : List Nat := rowOf 16 fun p => if (p / 4 < k ∧ p % 4 < c) ∨ (p / 4 = k ∧ p % 4 < n) then q else 0

def evP (k : Nat) : List Nat := rowOf 4 fun p => if p < k then 1065353216 else 0

theorem evT_len (q c k n : Nat) : (evT q c k n).length = 16 := rowOf_len _ _

theorem evP_len (k : Nat) : (evP k).length = 4 := rowOf_len _ _

theorem rowOf_congr {n : Nat} {f g : Nat → Nat} (h : ∀ k, k < n → f k = g k) : rowOf n f = rowOf n g := by
  unfold rowOf
  exact List.map_congr_left fun k hk => h k (by simpa using hk)

theorem rowOf_set {n : Nat} {f g : Nat → Nat} {j x : Nat} (_hj : j < n) (h1 : g j = x) (h2 : ∀ k, k < n → k ≠ j → f k = g k) : (rowOf n f).set j x = rowOf n g := by
  unfold rowOf
  apply List.ext_getElem
  · simp
  · intro k hk1 hk2
    simp only [List.length_set, List.length_map, List.length_range] at hk1
    rw [List.getElem_set]
    split
    · rename_i e; subst e; simp [h1]
    · rename_i e; simp; exact h2 k hk1 (fun h => e h.symm)

theorem evT_zero (q c : Nat) : evT q c 0 0 = zeros 16 := by
  have : evT q c 0 0 = rowOf 16 fun _ => 0 := rowOf_congr fun p _ => if_neg (by omega)
  rw [this]; rfl

theorem evP_zero : evP 0 = zeros 4 := rfl

theorem evT_set {c k n : Nat} (q : Nat) (hk : k < 4) (hn : n < 4) : (evT q c k n).set (4 * k + n) q = evT q c k (n + 1) := by
  unfold evT
  refine rowOf_set (by omega) (if_pos (.inr (by omega))) fun p hp hne => ?_
  by_cases h : (p / 4 < k ∧ p % 4 < c) ∨ (p / 4 = k ∧ p % 4 < n)
  · rw [if_pos h, if_pos (by omega)]
  · rw [if_neg h, if_neg (by omega)]

theorem evT_row {q c k : Nat} : evT q c k c = evT q c (k + 1) 0 := by
  unfold evT
  refine rowOf_congr fun p hp => ?_
  by_cases h : (p / 4 < k ∧ p % 4 < c) ∨ (p / 4 = k ∧ p % 4 < c)
  · rw [if_pos h, if_pos (by omega)]
  · rw [if_neg h, if_neg (by omega)]

theorem evP_set {k : Nat} (hk : k < 4) : (evP k).set k 1065353216 = evP (k + 1) := by
  unfold evP
  refine rowOf_set hk (if_pos (by omega)) fun p hp hne => ?_
  by_cases h : p < k
  · rw [if_pos h, if_pos (by omega)]
  · rw [if_neg h, if_neg (by omega)]

set_option maxHeartbeats 400000 in
theorem sEven_core (m c fo q : Nat) (hm : 1 ≤ m ∧ m ≤ 4) (hc : 1 ≤ c ∧ c ≤ 4) (hcv : ∀ W, (convert 2 24 (.int .i64 (c : Int))).run Try.prog W = .ok (.float .f32 fo) W) (hq : ∀ t W, (binOp .quo t (.float .f32 1065353216) (.float .f32 fo)).run Try.prog W = .ok (.float .f32 q) W) (w : World) :
    Calls Try.prog 35 #[.int .i64 (m : Int), .int .i64 (c : Int)] w fun e w' => e = .returned (.agg (jn (m : Int) (c : Int) (evT q c m 0) (evP m))) ∧ Below w.heap.size w w' := by
  have SR : (jn (m : Int) (c : Int) (evT q c m 0) (evP m)).size = 22 := jn_size (evT_len _ _ _ _) (evP_len _) _ _
  have hbld := built_jn (m : Int) (c : Int)
  have SB : (jn (m : Int) (c : Int) (zeros 16) (zeros 4)).size = 22 := jn_size (zeros_len 16) (zeros_len 4) _ _
  go_enter Try.func35, Try.ntmps35

  have R0 := At.new w (#[.int .i64 0, .int .i64 0, .float .f32 0, .float .f32 0, .float .f32 0, .float .f32 0, .float .f32 0, .float .f32 0, .float .f32 0, .float .f32 0, .float .f32 0, .float .f32 0, .float .f32 0, .float .f32 0, .float .f32 0, .float .f32 0, .float .f32 0, .float .f32 0, .float .f32 0, .float .f32 0, .float .f32 0, .float .f32 0]) 34
  have B0 := Lib.hid (b0 w (.cells (#[.int .i64 0, .int .i64 0, .float .f32 0, .float .f32 0, .float .f32 0, .float .f32 0, .float .f32 0, .float .f32 0, .float .f32 0, .float .f32 0, .float .f32 0, .float .f32 0, .float .f32 0, .float .f32 0, .float .f32 0, .float .f32 0, .float .f32 0, .float .f32 0, .float .f32 0, .float .f32 0, .float .f32 0, .float .f32 0]) 34))
  have Z0 : (w.alloc (.cells (#[.int .i64 0, .int .i64 0, .float .f32 0, .float .f32 0, .float .f32 0, .float .f32 0, .float .f32 0, .float .f32 0, .float .f32 0, .float .f32 0, .float .f32 0, .float .f32 0, .float .f32 0, .float .f32 0, .float .f32 0, .float .f32 0, .float .f32 0, .float .f32 0, .float .f32 0, .float .f32 0, .float .f32 0, .float .f32 0]) 34)).heap.size = w.heap.size + 1 := by simp
  have L0 := At.new (w.alloc (.cells (#[.int .i64 0, .int .i64 0, .float .f32 0, .float .f32 0, .float .f32 0, .float .f32 0, .float .f32 0, .float .f32 0, .float .f32 0, .float .f32 0, .float .f32 0, .float .f32 0, .float .f32 0, .float .f32 0, .float .f32 0, .float .f32 0, .float .f32 0, .float .f32 0, .float .f32 0, .float .f32 0, .float .f32 0, .float .f32 0]) 34)) (#[.int .i64 0, .int .i64 0, .float .f32 0, .float .f32 0, .float .f32 0, .float .f32 0, .float .f32 0, .float .f32 0, .float .f32 0, .float .f32 0, .float .f32 0, .float .f32 0, .float .f32 0, .float .f32 0, .float .f32 0, .float .f32 0, .float .f32 0, .float .f32 0, .float .f32 0, .float .f32 0, .float .f32 0, .float .f32 0]) 34
  have L00 := L0.setRow (#[.int .i64 (m : Int), .int .i64 (c : Int), .float .f32 0, .float .f32 0, .float .f32 0, .float .f32 0, .float .f32 0, .float .f32 0, .float .f32 0, .float .f32 0, .float .f32 0, .float .f32 0, .float .f32 0, .float .f32 0, .float .f32 0, .float .f32 0, .float .f32 0, .float .f32 0, .float .f32 0, .float .f32 0, .float .f32 0, .float .f32 0])
  have R00 := (R0.alloc (.cells (#[.int .i64 0, .int .i64 0, .float .f32 0, .float .f32 0, .float .f32 0, .float .f32 0, .float .f32 0, .float .f32 0, .float .f32 0, .float .f32 0, .float .f32 0, .float .f32 0, .float .f32 0, .float .f32 0, .float .f32 0, .float .f32 0, .float .f32 0, .float .f32 0, .float .f32 0, .float .f32 0, .float .f32 0, .float .f32 0]) 34)).setRow_other (k := (w.alloc (.cells (#[.int .i64 0, .int .i64 0, .float .f32 0, .float .f32 0, .float .f32 0, .float .f32 0, .float .f32 0, .float .f32 0, .float .f32 0, .float .f32 0, .float .f32 0, .float .f32 0, .float .f32 0, .float .f32 0, .float .f32 0, .float .f32 0, .float .f32 0, .float .f32 0, .float .f32 0, .float .f32 0, .float .f32 0, .float .f32 0]) 34)).heap.size) (Nat.ne_of_lt R0.lt) (#[.int .i64 (m : Int), .int .i64 (c : Int), .float .f32 0, .float .f32 0, .float .f32 0, .float .f32 0, .float .f32 0, .float .f32 0, .float .f32 0, .float .f32 0, .float .f32 0, .float .f32 0, .float .f32 0, .float .f32 0, .float .f32 0, .float .f32 0, .float .f32 0, .float .f32 0, .float .f32 0, .float .f32 0, .float .f32 0, .float .f32 0])
  have B00 := Lib.hid (bset (bnew B0.out (.cells (#[.int .i64 0, .int .i64 0, .float .f32 0, .float .f32 0, .float .f32 0, .float .f32 0, .float .f32 0, .float .f32 0, .float .f32 0, .float .f32 0, .float .f32 0, .float .f32 0, .float .f32 0, .float .f32 0, .float .f32 0, .float .f32 0, .float .f32 0, .float .f32 0, .float .f32 0, .float .f32 0, .float .f32 0, .float .f32 0]) 34)) (g := (w.alloc (.cells (#[.int .i64 0, .int .i64 0, .float .f32 0, .float .f32 0, .float .f32 0, .float .f32 0, .float .f32 0, .float .f32 0, .float .f32 0, .float .f32 0, .float .f32 0, .float .f32 0, .float .f32 0, .float .f32 0, .float .f32 0, .float .f32 0, .float .f32 0, .float .f32 0, .float .f32 0, .float .f32 0, .float .f32 0, .float .f32 0]) 34)).heap.size) B0.out.size (#[.int .i64 (m : Int), .int .i64 (c : Int), .float .f32 0, .float .f32 0, .float .f32 0, .float .f32 0, .float .f32 0, .float .f32 0, .float .f32 0, .float .f32 0, .float .f32 0, .float .f32 0, .float .f32 0, .float .f32 0, .float .f32 0, .float .f32 0, .float .f32 0, .float .f32 0, .float .f32 0, .float .f32 0, .float .f32 0, .float .f32 0]))
  have ZE : Hid ((#[.int .i64 (m : Int), .int .i64 (c : Int), .float .f32 0, .float .f32 0, .float .f32 0, .float .f32 0, .float .f32 0, .float .f32 0, .float .f32 0, .float .f32 0, .float .f32 0, .float .f32 0, .float .f32 0, .float .f32 0, .float .f32 0, .float .f32 0, .float .f32 0, .float .f32 0, .float .f32 0, .float .f32 0, .float .f32 0, .float .f32 0] : Array Value) = jn (m : Int) (c : Int) (evT q c 0 0) (evP 0)) := Lib.hid (by rw [evT_zero, evP_zero]; exact zlitG _ _)
  rw [Z0] at L00 R00 B00
  rw [Z0] at L0
  have HB := Lib.hid hbld
  clear hbld
  go_wp2_with (first | ((with_reducible refine is_build 34 _ rfl ?_); refine wpList_build2 rfl 34 0 1 _ _ rfl _ _ rfl rfl _ HB.out ?_) | ((with_reducible refine is_store 34 (.tmp 5) (.tmp 10) rfl ?_); refine wpList_store_at rfl 34 (.tmp 5) (.tmp 10) rfl _ rfl (#[.int .i64 (m : Int), .int .i64 (c : Int), .float .f32 0, .float .f32 0, .float .f32 0, .float .f32 0, .float .f32 0, .float .f32 0, .float .f32 0, .float .f32 0, .float .f32 0, .float .f32 0, .float .f32 0, .float .f32 0, .float .f32 0, .float .f32 0, .float .f32 0, .float .f32 0, .float .f32 0, .float .f32 0, .float .f32 0, .float .f32 0]) rfl (#[.int .i64 0, .int .i64 0, .float .f32 0, .float .f32 0, .float .f32 0, .float .f32 0, .float .f32 0, .float .f32 0, .float .f32 0, .float .f32 0, .float .f32 0, .float .f32 0, .float .f32 0, .float .f32 0, .float .f32 0, .float .f32 0, .float .f32 0, .float .f32 0, .float .f32 0, .float .f32 0, .float .f32 0, .float .f32 0]) _ (by assumption) 22 (by rw [ZE.out]; exact jn_size (evT_len _ _ _ _) (evP_len _) _ _) ((by rw [zlit]; exact jn_size (zeros_len 16) (zeros_len 4) _ _)) (by kernel_rfl) (by rw [ZE.out]; exact jn_one _ _ _ _) ?_))
  go_loopw [6] (fun k' wr => ∃ k : Nat, k ≤ m ∧ k' = .int .i64 k ∧ At wr w.heap.size (#[.int .i64 0, .int .i64 0, .float .f32 0, .float .f32 0, .float .f32 0, .float .f32 0, .float .f32 0, .float .f32 0, .float .f32 0, .float .f32 0, .float .f32 0, .float .f32 0, .float .f32 0, .float .f32 0, .float .f32 0, .float .f32 0, .float .f32 0, .float .f32 0, .float .f32 0, .float .f32 0, .float .f32 0, .float .f32 0]) 34 ∧ At wr (w.heap.size + 1) (jn (m : Int) (c : Int) (evT q c k 0) (evP k)) 34 ∧ Hid (Below w.heap.size w wr)) (fun k' _ => 4 - (intOf k').toNat)
  case atStart => exact ⟨0, by omega, rfl, R00, by rw [← ZE.out]; exact L00, B00⟩
  case round =>
    clear R00 L00 B00 R0 L0 B0
    obtain ⟨k, hk, rfl, R1, L1, B1⟩ := hrel
    by_cases hkm : k < m
    · have s2 : IntKind.i64.wrap ((k : Int) + 1) = (k : Int) + 1 := IntWalk.i64_in _ (by omega)
      have hkd : decide ((k : Int) < (m : Int)) = true := decide_eq_true (by omega)
      have R2 := R1
      have L2 := L1
      have B2 := B1
      clear R1 L1 B1
      go_wp2
      go_loopw [7] (fun n' wr => ∃ n : Nat, n ≤ c ∧ n' = .int .i64 n ∧ At wr w.heap.size (#[.int .i64 0, .int .i64 0, .float .f32 0, .float .f32 0, .float .f32 0, .float .f32 0, .float .f32 0, .float .f32 0, .float .f32 0, .float .f32 0, .float .f32 0, .float .f32 0, .float .f32 0, .float .f32 0, .float .f32 0, .float .f32 0, .float .f32 0, .float .f32 0, .float .f32 0, .float .f32 0, .float .f32 0, .float .f32 0]) 34 ∧ At wr (w.heap.size + 1) (jn (m : Int) (c : Int) (evT q c k n) (evP k)) 34 ∧ Hid (Below w.heap.size w wr)) (fun n' _ => 4 - (intOf n').toNat)
      case atStart => exact ⟨0, by omega, rfl, R2, L2, B2⟩
      case round =>
        clear R2 L2 B2
        obtain ⟨n, hn, rfl, R3, L3, B3⟩ := hrel
        by_cases hnc : n < c
        · have s3 : IntKind.i64.wrap ((n : Int) + 1) = (n : Int) + 1 := IntWalk.i64_in _ (by omega)
          have R4 := R3.setRow_other (k := w.heap.size + 1) (by omega) (jn (m : Int) (c : Int) (evT q c k (n + 1)) (evP k))
          have L4 := L3.setRow (jn (m : Int) (c : Int) (evT q c k (n + 1)) (evP k))
          have B4 := Lib.hid (bset B3.out (g := w.heap.size + 1) (by omega) (jn (m : Int) (c : Int) (evT q c k (n + 1)) (evP k)))
          go_wp2_with (((with_reducible refine is_store 24 (.tmp 28) (.tmp 25) rfl ?_); refine wpList_store_cell rfl 24 (.tmp 28) (.tmp 25) rfl _ _ rfl (.float .f32 q) rfl (jn (m : Int) (c : Int) (evT q c k n) (evP k)) _ (by assumption) (by rw [jn_size (evT_len _ _ _ _) (evP_len _)]; omega) (by kernel_rfl) rfl (jn (m : Int) (c : Int) (evT q c k (n + 1)) (evP k)) (by rw [jn_setTurn (evT_len _ _ _ _) m c (k := 4 * k + n) (by omega) (by omega), evT_set q (by omega) (by omega)]) ?_))
          exact ⟨⟨n + 1, by omega, by go_num, R4, L4, B4⟩, by simp [intOf]; omega⟩
        · obtain rfl : n = c := by omega
          rw [evT_row] at L3
          have R4 := R3.setRow_other (k := w.heap.size + 1) (by omega) (jn (m : Int) (n : Int) (evT q n (k + 1) 0) (evP (k + 1)))
          have L4 := L3.setRow (jn (m : Int) (n : Int) (evT q n (k + 1) 0) (evP (k + 1)))
          have B4 := Lib.hid (bset B3.out (g := w.heap.size + 1) (by omega) (jn (m : Int) (n : Int) (evT q n (k + 1) 0) (evP (k + 1))))
          go_wp2_with (((with_reducible refine is_store 24 (.tmp 31) _ rfl ?_); refine wpList_store_cell rfl 24 (.tmp 31) _ rfl _ _ rfl (.float .f32 1065353216) rfl (jn (m : Int) (n : Int) (evT q n (k + 1) 0) (evP k)) _ (by assumption) (by rw [jn_size (evT_len _ _ _ _) (evP_len _)]; omega) (by kernel_rfl) rfl (jn (m : Int) (n : Int) (evT q n (k + 1) 0) (evP (k + 1))) (by rw [jn_setPrior (evT_len _ _ _ _) m n (k := k) (by omega), evP_set (by omega)]) ?_))
          exact ⟨⟨k + 1, by omega, by go_num, R4, L4, B4⟩, by simp [intOf]; omega⟩
    · obtain rfl : k = m := by omega
      have R9 := R1.setRow (jn (k : Int) (c : Int) (evT q c k 0) (evP k))
      have B9 := Lib.hid (bset B1.out (g := w.heap.size) (Nat.le_refl _) (jn (k : Int) (c : Int) (evT q c k 0) (evP k)))
      go_wp2_with (first | ((with_reducible refine is_load 34 _ rfl ?_); refine wpList_load_at rfl 34 _ rfl _ rfl (jn (k : Int) (c : Int) (evT q c k 0) (evP k)) _ L1 22 (SR) _ Try.underlying34 rfl (by kernel_rfl) ?_) | ((with_reducible refine is_store 34 (.tmp 4) (.tmp 32) rfl ?_); refine wpList_store_at rfl 34 (.tmp 4) (.tmp 32) rfl _ rfl (jn (k : Int) (c : Int) (evT q c k 0) (evP k)) rfl (#[.int .i64 0, .int .i64 0, .float .f32 0, .float .f32 0, .float .f32 0, .float .f32 0, .float .f32 0, .float .f32 0, .float .f32 0, .float .f32 0, .float .f32 0, .float .f32 0, .float .f32 0, .float .f32 0, .float .f32 0, .float .f32 0, .float .f32 0, .float .f32 0, .float .f32 0, .float .f32 0, .float .f32 0, .float .f32 0]) _ R1 22 (SR) ((by rw [zlit]; exact jn_size (zeros_len 16) (zeros_len 4) _ _)) (by kernel_rfl) (jn_one _ _ _ _) ?_))
      exact bodyPost_ret (v := .agg (jn (k : Int) (c : Int) (evT q c k 0) (evP k))) (results_at (p := 4) (ty := 34) rfl _ _ _ (jn (k : Int) (c : Int) (evT q c k 0) (evP k)) _ rfl R9 _ Try.underlying34 rfl 22 SR (by kernel_rfl)) rfl ⟨rfl, B9.out⟩

end Go.Proofs.Ythljppdkplkohaa
