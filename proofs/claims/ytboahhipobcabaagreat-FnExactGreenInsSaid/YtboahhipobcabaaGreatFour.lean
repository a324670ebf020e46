/-
  CONTRACTS: rows of four numbers, a law's made the program's, and held against each other.
-/
import Derived.Test.YtboahhipobcabaaGreatG5
namespace Go.Proofs.YtboahhipobcabaaGreat
open Go Go.RowKit
set_option maxRecDepth 100000

/-- what a copy of n places has after k places -/
def cpN (n : Nat) (ys : List Nat) (k : Nat) : List Nat := ys.take k ++ List.replicate (n - k) 0
theorem cpN_len {n : Nat} {ys : List Nat} (h : ys.length = n) (k : Nat) (hk : k ≤ n) : (cpN n ys k).length = n := by simp [cpN, h]; omega
theorem cpN_set {n : Nat} {ys : List Nat} (h : ys.length = n) {k : Nat} (hk : k < n) : (cpN n ys k).set k (nth ys k) = cpN n ys (k + 1) := by
  unfold cpN nth
  rw [List.set_append_right _ _ (by simp; omega), List.take_succ_eq_append_getElem (by omega), List.getD_eq_getElem?_getD, List.getElem?_eq_getElem (by omega)]
  rw [show k - (List.take k ys).length = 0 from by simp; omega, show n - k = (n - (k + 1)) + 1 from by omega, List.replicate_succ, List.append_assoc]
  rfl
theorem cpN_all {n : Nat} {ys : List Nat} (h : ys.length = n) : cpN n ys n = ys := by simp [cpN, ← h]

/-- the same number: two NaNs, or one number -/
def Agr (x y : Nat) : Prop := x < 4294967296 ∧ y < 4294967296 ∧ (nanB x = true ∧ nanB y = true ∨ nanB x = false ∧ y = x)

theorem sameFloat_nan {x y : Nat} (h : x < 18446744073709551616) (c : 9218868437227405312 < x % 9223372036854775808) (h' : y < 18446744073709551616) (c' : 9218868437227405312 < y % 9223372036854775808) (w : World) :
    Calls Tryz.prog 38 #[.float .f64 x, .float .f64 y] w fun e w' => e = .returned (.bool true) ∧ w = w' := by
  have o1 := order64_nan h c x
  have o2 := order64_nan h' c' y
  go_enter Tryz.func38, Tryz.ntmps38
  go_wp2
  go_ret
  exact ⟨rfl, rfl⟩

theorem toFloat32A4_any (ys : List Nat) (hl : ys.length = 4) (w : World) :
    Calls Tryz.prog 162 #[.agg (fl ys)] w fun e w' => e = .returned (.agg (fl ys)) ∧ Below w.heap.size w w' := by
  go_enter Tryz.func162, Tryz.ntmps162
  go_wp2
  go_loopw [4] (fun i wr => ∃ k : Nat, k ≤ 4 ∧ i = .int .i64 k ∧ wr = (((w.alloc (.cells (fl ys) 65)).alloc (.cells (fl (zeros 4)) 65)).alloc (.cells (fl (cpN 4 ys k)) 65))) (fun i _ => 4 - (intOf i).toNat)
  case atStart => exact ⟨0, by omega, rfl, rfl⟩
  case round =>
    obtain ⟨k, hk, rfl, rfl⟩ := hrel
    by_cases hlt : k < 4
    · have g1 := fl_get (xs := ys) (k := k) (by omega)
      have g2 := run_store_last (P := Tryz.prog) ((w.alloc (.cells (fl ys) 65)).alloc (.cells (fl (zeros 4)) 65)) (fl (cpN 4 ys k)) 65 k (.float .f32 (nth ys k)) rfl (by rw [fl_size, cpN_len hl k hk]; exact hlt) (w.heap.size + 1 + 1) (by simp)
      rw [fl_set, cpN_set hl hlt] at g2
      go_wp2
      exact ⟨⟨k + 1, by omega, by go_num, rfl⟩, by simp [intOf]; omega⟩
    · obtain rfl : k = 4 := by omega
      rw [cpN_all hl]
      have R0 : At (((w.alloc (.cells (fl ys) 65)).alloc (.cells (fl (zeros 4)) 65)).alloc (.cells (fl ys) 65)) (w.heap.size + 1) (fl (zeros 4)) 65 := (At.last1 w _ _ _).alloc _
      have L0 : At (((w.alloc (.cells (fl ys) 65)).alloc (.cells (fl (zeros 4)) 65)).alloc (.cells (fl ys) 65)) (w.heap.size + 1 + 1) (fl ys) 65 := by
        have := At.new ((w.alloc (.cells (fl ys) 65)).alloc (.cells (fl (zeros 4)) 65)) (fl ys) 65
        rwa [World.size_alloc, World.size_alloc] at this
      have B0 := Lib.hid (bnew (bnew (b0 w (.cells (fl ys) 65)) (.cells (fl (zeros 4)) 65)) (.cells (fl ys) 65))
      generalize (((w.alloc (.cells (fl ys) 65)).alloc (.cells (fl (zeros 4)) 65)).alloc (.cells (fl ys) 65)) = w1 at R0 L0 B0 ⊢
      have R9 := R0.setRow (fl ys)
      have B9 := Lib.hid (bset B0.out (g := w.heap.size + 1) (by omega) (fl ys))
      go_wp2_with (first | ((with_reducible refine is_load 65 _ rfl ?_); refine wpList_load_at rfl 65 _ rfl _ rfl (fl ys) _ (by assumption) 4 (by rw [fl_size, hl]) _ Tryz.underlying65 rfl (by kernel_rfl) ?_) | ((with_reducible refine is_store 65 (.tmp 2) (.tmp 14) rfl ?_); refine wpList_store_at rfl 65 (.tmp 2) (.tmp 14) rfl _ rfl (fl ys) rfl (fl (zeros 4)) _ (by assumption) 4 (by rw [fl_size, hl]) (by rw [fl_size, zeros_len]) (by kernel_rfl) (fl_one _) ?_))
      exact bodyPost_ret (v := .agg (fl ys)) (results_at (p := 2) (ty := 65) rfl _ _ _ (fl ys) _ rfl R9 _ Tryz.underlying65 rfl 4 (by rw [fl_size, hl]) (by kernel_rfl)) rfl ⟨rfl, B9.out⟩

theorem toFour_any (ys : List Nat) (hl : ys.length = 4) (w : World) :
    Calls Tryz.prog 139 #[.agg (fl ys)] w fun e w' => e = .returned (.agg (fl ys)) ∧ Below w.heap.size w w' := by
  go_enter Tryz.func139, Tryz.ntmps139
  go_wp2
  go_loopw [4] (fun i wr => ∃ k : Nat, k ≤ 4 ∧ i = .int .i64 k ∧ wr = (((w.alloc (.cells (fl ys) 65)).alloc (.cells (fl (zeros 4)) 68)).alloc (.cells (fl (cpN 4 ys k)) 68))) (fun i _ => 4 - (intOf i).toNat)
  case atStart => exact ⟨0, by omega, rfl, rfl⟩
  case round =>
    obtain ⟨k, hk, rfl, rfl⟩ := hrel
    by_cases hlt : k < 4
    · have g1 := fl_get (xs := ys) (k := k) (by omega)
      have g2 := run_store_last (P := Tryz.prog) ((w.alloc (.cells (fl ys) 65)).alloc (.cells (fl (zeros 4)) 68)) (fl (cpN 4 ys k)) 68 k (.float .f32 (nth ys k)) rfl (by rw [fl_size, cpN_len hl k hk]; exact hlt) (w.heap.size + 1 + 1) (by simp)
      rw [fl_set, cpN_set hl hlt] at g2
      go_wp2
      exact ⟨⟨k + 1, by omega, by go_num, rfl⟩, by simp [intOf]; omega⟩
    · obtain rfl : k = 4 := by omega
      rw [cpN_all hl]
      have R0 : At (((w.alloc (.cells (fl ys) 65)).alloc (.cells (fl (zeros 4)) 68)).alloc (.cells (fl ys) 68)) (w.heap.size + 1) (fl (zeros 4)) 68 := (At.last1 w _ _ _).alloc _
      have L0 : At (((w.alloc (.cells (fl ys) 65)).alloc (.cells (fl (zeros 4)) 68)).alloc (.cells (fl ys) 68)) (w.heap.size + 1 + 1) (fl ys) 68 := by
        have := At.new ((w.alloc (.cells (fl ys) 65)).alloc (.cells (fl (zeros 4)) 68)) (fl ys) 68
        rwa [World.size_alloc, World.size_alloc] at this
      have B0 := Lib.hid (bnew (bnew (b0 w (.cells (fl ys) 65)) (.cells (fl (zeros 4)) 68)) (.cells (fl ys) 68))
      generalize (((w.alloc (.cells (fl ys) 65)).alloc (.cells (fl (zeros 4)) 68)).alloc (.cells (fl ys) 68)) = w1 at R0 L0 B0 ⊢
      have R9 := R0.setRow (fl ys)
      have B9 := Lib.hid (bset B0.out (g := w.heap.size + 1) (by omega) (fl ys))
      go_wp2_with (first | ((with_reducible refine is_load 68 _ rfl ?_); refine wpList_load_at rfl 68 _ rfl _ rfl (fl ys) _ (by assumption) 4 (by rw [fl_size, hl]) _ Tryz.underlying68 rfl (by kernel_rfl) ?_) | ((with_reducible refine is_store 68 (.tmp 2) (.tmp 14) rfl ?_); refine wpList_store_at rfl 68 (.tmp 2) (.tmp 14) rfl _ rfl (fl ys) rfl (fl (zeros 4)) _ (by assumption) 4 (by rw [fl_size, hl]) (by rw [fl_size, zeros_len]) (by kernel_rfl) (fl_one _) ?_))
      exact bodyPost_ret (v := .agg (fl ys)) (results_at (p := 2) (ty := 68) rfl _ _ _ (fl ys) _ rfl R9 _ Tryz.underlying68 rfl 4 (by rw [fl_size, hl]) (by kernel_rfl)) rfl ⟨rfl, B9.out⟩

theorem eqFloat32A4_same (ys : List Nat) (hl : ys.length = 4) (hc : ∀ x ∈ ys, x < 4294967296 ∧ nanB x = false) (w : World) :
    Calls Tryz.prog 164 #[.agg (fl ys), .agg (fl ys)] w fun e w' => e = .returned (.bool true) ∧ Below w.heap.size w w' := by
  go_enter Tryz.func164, Tryz.ntmps164
  go_wp2
  go_loopw [5] (fun i wr => ∃ k : Nat, k ≤ 4 ∧ i = .int .i64 k ∧ Two w (fl ys) 65 (fl ys) 65 wr) (fun i _ => 4 - (intOf i).toNat)
  case atStart => exact ⟨0, by omega, rfl, Two.mk _ _ _ _ _⟩
  case round =>
    obtain ⟨k, hk, rfl, hT⟩ := hrel
    by_cases hlt : k < 4
    · have g1 := hT.cell1 (fl_get (xs := ys) (k := k) (by omega))
      have g2 := hT.cell2 (fl_get (xs := ys) (k := k) (by omega))
      have hx := (hc _ (nth_mem (cs := ys) (k := k) (by omega))).1
      have hnx := (hc _ (nth_mem (cs := ys) (k := k) (by omega))).2
      have hw := wide_at hx hnx
      go_wp2
      go_quiet ((go_at_call 38; exact Calls.quiet_of (sameFloat_rd _ hx hnx _)))
      go_wp2
      exact ⟨⟨k + 1, by omega, by go_num, hT.drewN _⟩, by simp [intOf]; omega⟩
    · go_wp2
      go_ret
      exact ⟨rfl, hT.2.2⟩

theorem eqFour_same (ys : List Nat) (hl : ys.length = 4) (hc : ∀ x ∈ ys, x < 4294967296 ∧ nanB x = false) (w : World) :
    Calls Tryz.prog 142 #[.agg (fl ys), .agg (fl ys)] w fun e w' => e = .returned (.bool true) ∧ Below w.heap.size w w' := by
  go_enter Tryz.func142, Tryz.ntmps142
  go_wp2
  go_loopw [5] (fun i wr => ∃ k : Nat, k ≤ 4 ∧ i = .int .i64 k ∧ Two w (fl ys) 68 (fl ys) 68 wr) (fun i _ => 4 - (intOf i).toNat)
  case atStart => exact ⟨0, by omega, rfl, Two.mk _ _ _ _ _⟩
  case round =>
    obtain ⟨k, hk, rfl, hT⟩ := hrel
    by_cases hlt : k < 4
    · have g1 := hT.cell1 (fl_get (xs := ys) (k := k) (by omega))
      have g2 := hT.cell2 (fl_get (xs := ys) (k := k) (by omega))
      have hx := (hc _ (nth_mem (cs := ys) (k := k) (by omega))).1
      have hnx := (hc _ (nth_mem (cs := ys) (k := k) (by omega))).2
      have hw := wide_at hx hnx
      go_wp2
      go_quiet ((go_at_call 38; exact Calls.quiet_of (sameFloat_rd _ hx hnx _)))
      go_wp2
      exact ⟨⟨k + 1, by omega, by go_num, hT.drewN _⟩, by simp [intOf]; omega⟩
    · go_wp2
      go_ret
      exact ⟨rfl, hT.2.2⟩

end Go.Proofs.YtboahhipobcabaaGreat
