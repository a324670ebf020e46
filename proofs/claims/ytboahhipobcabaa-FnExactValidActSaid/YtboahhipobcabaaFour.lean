/-
  CONTRACTS: rows of four numbers, a law's made the program's, and held against each other.
-/
import Derived.Test.YtboahhipobcabaaEq
import Derived.Test.YtboahhipobcabaaMix
import Derived.Test.YtboahhipobcabaaQuiet
namespace Go.Proofs.Ytboahhipobcabaa
open Go Go.RowKit
set_option maxRecDepth 100000

/-- what a copy of n places has after k places -/
def cpN (n : Nat) (ys : List Nat) (k : Nat) : List Nat := ys.take k ++ List.replicate (n - k) 0
theorem cpN_len {n : Nat} {ys : List Nat} (h : ys.length = n) (k : Nat) (hk : k ≤ n) : (cpN n ys k).length = n := by simp [cpN, h]; omega
theorem cpN_set {n : Nat} {ys : List Nat} (h : ys.length = n) {k : Nat} (hk : k < n) : (cpN n ys k).set k (nth ys k) = cpN n ys (k + 1) := by
  unfold cpN nth
  rw [List.set_append_right _ _ (by simp; omega), List.take_succ_eq_append_getElem (by omega), List.getD_eq_getElem?_getD, List.getElem?_eq_getElem (by omega)]
  rw [show k - (List.take k ys).length = 0 from by simp; omega, show n - k = (n - (k + 1)) + 1 from by omega, List.replicate_succ, List.append_assoc]
  rfl
theorem cpN_all {n : Nat} {ys : List Nat} (h : ys.length = n) : cpN n ys n = ys := by simp [cpN, ← h]

/-- the same number: two NaNs, or one number -/
def Agr (x y : Nat) : Prop := x < 4294967296 ∧ y < 4294967296 ∧ (nanB x = true ∧ nanB y = true ∨ nanB x = false ∧ y = x)

theorem sameFloat_nan {x y : Nat} (h : x < 18446744073709551616) (c : 9218868437227405312 < x % 9223372036854775808) (h' : y < 18446744073709551616) (c' : 9218868437227405312 < y % 9223372036854775808) (w : World) :
    Calls Try.prog 39 #[.float .f64 x, .float .f64 y] w fun e w' => e = .returned (.bool true) ∧ w = w' := by
  have o1 := order64_nan h c x
  have o2 := order64_nan h' c' y
  go_enter Try.func39, Try.ntmps39
  go_wp2
  go_ret
  exact ⟨rfl, rfl⟩

theorem toFloat32A4_any (ys : List Nat) (hl : ys.length = 4) (w : World) :
    Calls Try.prog 149 #[.agg (fl ys)] w fun e w' => e = .returned (.agg (fl ys)) ∧ Below w.heap.size w w' := by
  go_enter Try.func149, Try.ntmps149
  go_wp2
  go_loopw [4] (fun i wr => ∃ k : Nat, k ≤ 4 ∧ i = .int .i64 k ∧ wr = (((w.alloc (.cells (fl ys) 67)).alloc (.cells (fl (zeros 4)) 67)).alloc (.cells (fl (cpN 4 ys k)) 67))) (fun i _ => 4 - (intOf i).toNat)
  case atStart => exact ⟨0, by omega, rfl, rfl⟩
  case round =>
    obtain ⟨k, hk, rfl, rfl⟩ := hrel
    by_cases hlt : k < 4
    · have g1 := fl_get (xs := ys) (k := k) (by omega)
      have g2 := run_store_last (P := Try.prog) ((w.alloc (.cells (fl ys) 67)).alloc (.cells (fl (zeros 4)) 67)) (fl (cpN 4 ys k)) 67 k (.float .f32 (nth ys k)) rfl (by rw [fl_size, cpN_len hl k hk]; exact hlt) (w.heap.size + 1 + 1) (by simp)
      rw [fl_set, cpN_set hl hlt] at g2
      go_wp2
      exact ⟨⟨k + 1, by omega, by go_num, rfl⟩, by simp [intOf]; omega⟩
    · obtain rfl : k = 4 := by omega
      rw [cpN_all hl]
      have R0 : At (((w.alloc (.cells (fl ys) 67)).alloc (.cells (fl (zeros 4)) 67)).alloc (.cells (fl ys) 67)) (w.heap.size + 1) (fl (zeros 4)) 67 := (At.last1 w _ _ _).alloc _
      have L0 : At (((w.alloc (.cells (fl ys) 67)).alloc (.cells (fl (zeros 4)) 67)).alloc (.cells (fl ys) 67)) (w.heap.size + 1 + 1) (fl ys) 67 := by
        have := At.new ((w.alloc (.cells (fl ys) 67)).alloc (.cells (fl (zeros 4)) 67)) (fl ys) 67
        rwa [World.size_alloc, World.size_alloc] at this
      have B0 := Lib.hid (bnew (bnew (b0 w (.cells (fl ys) 67)) (.cells (fl (zeros 4)) 67)) (.cells (fl ys) 67))
      generalize (((w.alloc (.cells (fl ys) 67)).alloc (.cells (fl (zeros 4)) 67)).alloc (.cells (fl ys) 67)) = w1 at R0 L0 B0 ⊢
      have R9 := R0.setRow (fl ys)
      have B9 := Lib.hid (bset B0.out (g := w.heap.size + 1) (by omega) (fl ys))
      go_wp2_with (first | ((with_reducible refine is_load 67 _ rfl ?_); refine wpList_load_at rfl 67 _ rfl _ rfl (fl ys) _ (by assumption) 4 (by rw [fl_size, hl]) _ Try.underlying67 rfl (by kernel_rfl) ?_) | ((with_reducible refine is_store 67 (.tmp 2) (.tmp 14) rfl ?_); refine wpList_store_at rfl 67 (.tmp 2) (.tmp 14) rfl _ rfl (fl ys) rfl (fl (zeros 4)) _ (by assumption) 4 (by rw [fl_size, hl]) (by rw [fl_size, zeros_len]) (by kernel_rfl) (fl_one _) ?_))
      exact bodyPost_ret (v := .agg (fl ys)) (results_at (p := 2) (ty := 67) rfl _ _ _ (fl ys) _ rfl R9 _ Try.underlying67 rfl 4 (by rw [fl_size, hl]) (by kernel_rfl)) rfl ⟨rfl, B9.out⟩

theorem toFour_any (ys : List Nat) (hl : ys.length = 4) (w : World) :
    Calls Try.prog 131 #[.agg (fl ys)] w fun e w' => e = .returned (.agg (fl ys)) ∧ Below w.heap.size w w' := by
  go_enter Try.func131, Try.ntmps131
  go_wp2
  go_loopw [4] (fun i wr => ∃ k : Nat, k ≤ 4 ∧ i = .int .i64 k ∧ wr = (((w.alloc (.cells (fl ys) 67)).alloc (.cells (fl (zeros 4)) 70)).alloc (.cells (fl (cpN 4 ys k)) 70))) (fun i _ => 4 - (intOf i).toNat)
  case atStart => exact ⟨0, by omega, rfl, rfl⟩
  case round =>
    obtain ⟨k, hk, rfl, rfl⟩ := hrel
    by_cases hlt : k < 4
    · have g1 := fl_get (xs := ys) (k := k) (by omega)
      have g2 := run_store_last (P := Try.prog) ((w.alloc (.cells (fl ys) 67)).alloc (.cells (fl (zeros 4)) 70)) (fl (cpN 4 ys k)) 70 k (.float .f32 (nth ys k)) rfl (by rw [fl_size, cpN_len hl k hk]; exact hlt) (w.heap.size + 1 + 1) (by simp)
      rw [fl_set, cpN_set hl hlt] at g2
      go_wp2
      exact ⟨⟨k + 1, by omega, by go_num, rfl⟩, by simp [intOf]; omega⟩
    · obtain rfl : k = 4 := by omega
      rw [cpN_all hl]
      have R0 : At (((w.alloc (.cells (fl ys) 67)).alloc (.cells (fl (zeros 4)) 70)).alloc (.cells (fl ys) 70)) (w.heap.size + 1) (fl (zeros 4)) 70 := (At.last1 w _ _ _).alloc _
      have L0 : At (((w.alloc (.cells (fl ys) 67)).alloc (.cells (fl (zeros 4)) 70)).alloc (.cells (fl ys) 70)) (w.heap.size + 1 + 1) (fl ys) 70 := by
        have := At.new ((w.alloc (.cells (fl ys) 67)).alloc (.cells (fl (zeros 4)) 70)) (fl ys) 70
        rwa [World.size_alloc, World.size_alloc] at this
      have B0 := Lib.hid (bnew (bnew (b0 w (.cells (fl ys) 67)) (.cells (fl (zeros 4)) 70)) (.cells (fl ys) 70))
      generalize (((w.alloc (.cells (fl ys) 67)).alloc (.cells (fl (zeros 4)) 70)).alloc (.cells (fl ys) 70)) = w1 at R0 L0 B0 ⊢
      have R9 := R0.setRow (fl ys)
      have B9 := Lib.hid (bset B0.out (g := w.heap.size + 1) (by omega) (fl ys))
      go_wp2_with (first | ((with_reducible refine is_load 70 _ rfl ?_); refine wpList_load_at rfl 70 _ rfl _ rfl (fl ys) _ (by assumption) 4 (by rw [fl_size, hl]) _ Try.underlying70 rfl (by kernel_rfl) ?_) | ((with_reducible refine is_store 70 (.tmp 2) (.tmp 14) rfl ?_); refine wpList_store_at rfl 70 (.tmp 2) (.tmp 14) rfl _ rfl (fl ys) rfl (fl (zeros 4)) _ (by assumption) 4 (by rw [fl_size, hl]) (by rw [fl_size, zeros_len]) (by kernel_rfl) (fl_one _) ?_))
      exact bodyPost_ret (v := .agg (fl ys)) (results_at (p := 2) (ty := 70) rfl _ _ _ (fl ys) _ rfl R9 _ Try.underlying70 rfl 4 (by rw [fl_size, hl]) (by kernel_rfl)) rfl ⟨rfl, B9.out⟩

theorem eqFloat32A4_same (ys : List Nat) (hl : ys.length = 4) (hc : ∀ x ∈ ys, x < 4294967296 ∧ nanB x = false) (w : World) :
    Calls Try.prog 151 #[.agg (fl ys), .agg (fl ys)] w fun e w' => e = .returned (.bool true) ∧ Below w.heap.size w w' := by
  go_enter Try.func151, Try.ntmps151
  go_wp2
  go_loopw [5] (fun i wr => ∃ k : Nat, k ≤ 4 ∧ i = .int .i64 k ∧ Two w (fl ys) 67 (fl ys) 67 wr) (fun i _ => 4 - (intOf i).toNat)
  case atStart => exact ⟨0, by omega, rfl, Two.mk _ _ _ _ _⟩
  case round =>
    obtain ⟨k, hk, rfl, hT⟩ := hrel
    by_cases hlt : k < 4
    · have g1 := hT.cell1 (fl_get (xs := ys) (k := k) (by omega))
      have g2 := hT.cell2 (fl_get (xs := ys) (k := k) (by omega))
      have hx := (hc _ (nth_mem (cs := ys) (k := k) (by omega))).1
      have hnx := (hc _ (nth_mem (cs := ys) (k := k) (by omega))).2
      have hw := wide_at hx hnx
      go_wp2
      go_quiet ((go_at_call 39; exact Calls.quiet_of (sameFloat_rd _ hx hnx _)))
      go_wp2
      exact ⟨⟨k + 1, by omega, by go_num, hT.drewN _⟩, by simp [intOf]; omega⟩
    · go_wp2
      go_ret
      exact ⟨rfl, hT.2.2⟩

theorem eqFour_same (ys : List Nat) (hl : ys.length = 4) (hc : ∀ x ∈ ys, x < 4294967296 ∧ nanB x = false) (w : World) :
    Calls Try.prog 134 #[.agg (fl ys), .agg (fl ys)] w fun e w' => e = .returned (.bool true) ∧ Below w.heap.size w w' := by
  go_enter Try.func134, Try.ntmps134
  go_wp2
  go_loopw [5] (fun i wr => ∃ k : Nat, k ≤ 4 ∧ i = .int .i64 k ∧ Two w (fl ys) 70 (fl ys) 70 wr) (fun i _ => 4 - (intOf i).toNat)
  case atStart => exact ⟨0, by omega, rfl, Two.mk _ _ _ _ _⟩
  case round =>
    obtain ⟨k, hk, rfl, hT⟩ := hrel
    by_cases hlt : k < 4
    · have g1 := hT.cell1 (fl_get (xs := ys) (k := k) (by omega))
      have g2 := hT.cell2 (fl_get (xs := ys) (k := k) (by omega))
      have hx := (hc _ (nth_mem (cs := ys) (k := k) (by omega))).1
      have hnx := (hc _ (nth_mem (cs := ys) (k := k) (by omega))).2
      have hw := wide_at hx hnx
      go_wp2
      go_quiet ((go_at_call 39; exact Calls.quiet_of (sameFloat_rd _ hx hnx _)))
      go_wp2
      exact ⟨⟨k + 1, by omega, by go_num, hT.drewN _⟩, by simp [intOf]; omega⟩
    · go_wp2
      go_ret
      exact ⟨rfl, hT.2.2⟩

end Go.Proofs.Ytboahhipobcabaa
