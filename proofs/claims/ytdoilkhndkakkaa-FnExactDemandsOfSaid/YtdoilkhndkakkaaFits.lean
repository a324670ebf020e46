/-
  CONTRACTS: the model's checks of four numbers, and of flows.
-/
import Derived.Test.YtdoilkhndkakkaaTurns
namespace Go.Proofs.Ytdoilkhndkakkaa
open Go Go.RowKit
set_option maxRecDepth 100000

set_option maxHeartbeats 400000 in
theorem l03Fits_b (xs : List Nat) (hl : xs.length = 4) (hc : ∀ x ∈ xs, x < 4294967296) (n : Int) (w : World) :
    Calls Try.prog 60 #[.agg (fl xs), .int .i64 n] w fun e w' => e = .returned (.bool (amtTo n xs 4)) ∧ Below w.heap.size w w' := by
  have X0 := At.new w (fl xs) 29
  have X4 : ∀ m, At ((w.alloc (.cells (fl xs) 29)).drewN m) w.heap.size (fl xs) 29 := fun m => X0.drewN m
  have B4 : Hid (∀ m, Below w.heap.size w ((w.alloc (.cells (fl xs) 29)).drewN m)) := Lib.hid fun m => bdrew (b0 _ _) m
  go_enter Try.func60, Try.ntmps60
  go_wp2
  generalize hWW : w.alloc (.cells (fl xs) 29) = WW at X0 X4 B4 ⊢
  clear hWW X0
  go_loopw [5] (fun i' wr => ∃ k m : Nat, k ≤ 4 ∧ i' = .int .i64 k ∧ Hid (amtTo n xs k = true) ∧ wr = WW.drewN m) (fun i' _ => 4 - (intOf i').toNat)
  case atStart => exact ⟨0, 0, by omega, rfl, Lib.hid rfl, rfl⟩
  case round =>
    obtain ⟨k, m, hk, rfl, hall, rfl⟩ := hrel
    by_cases hlt : k < 4
    · have hx := u32_lt hc k
      have s2 : IntKind.i64.wrap ((k : Int) + 1) = (k : Int) + 1 := IntWalk.i64_in _ (by omega)
      cases ha : amtB (nth xs k)
      · have hno : amtTo n xs 4 = false := amtTo_no hlt (amtA_bad ha)
        go_wp2_with (first | ((with_reducible refine is_load 22 _ rfl ?_); refine wpList_load_cell rfl 22 _ rfl _ _ rfl (fl xs) _ (X4 _) _ Try.underlying22 rfl (.float .f32 (nth xs k)) (fl_get (by omega)) ?_) | (go_at_call 76; refine (l01Amount_any _ hx _).mono ?_; rw [ha]; rintro e w' ⟨rfl, n', rfl⟩) | ((with_reducible refine is_load 22 _ rfl ?_); refine wpList_load_cell_g rfl 22 _ rfl _ _ rfl (fl xs) _ (X4 _) _ Try.underlying22 rfl (.float .f32 (nth xs k)) (fl_get (by omega)) ?_))
        go_ret
        exact ⟨by rw [hno]; rfl, B4.out _⟩
      · have ha' : nth xs k < 2139095040 := by unfold amtB at ha; simpa using ha
        have he := ne_amt (x := nth xs k) (y := 0) (by omega) (by omega)
        clear ha'
        by_cases hn : (k : Int) < n
        · have hn' : decide (n ≤ (k : Int)) = false := decide_eq_false (by omega)
          have ok : amtA n k (nth xs k) = true := amtA_in ha ⟨by omega, hn⟩
          clear hn he
          go_wp2_with (first | ((with_reducible refine is_load 22 _ rfl ?_); refine wpList_load_cell rfl 22 _ rfl _ _ rfl (fl xs) _ (X4 _) _ Try.underlying22 rfl (.float .f32 (nth xs k)) (fl_get (by omega)) ?_) | (go_at_call 76; refine (l01Amount_any _ hx _).mono ?_; rw [ha]; rintro e w' ⟨rfl, n', rfl⟩) | ((with_reducible refine is_load 22 _ rfl ?_); refine wpList_load_cell_g rfl 22 _ rfl _ _ rfl (fl xs) _ (X4 _) _ Try.underlying22 rfl (.float .f32 (nth xs k)) (fl_get (by omega)) ?_))
          exact ⟨⟨k + 1, _, by omega, by go_num, Lib.hid (by rw [amtTo_succ, hall.out, ok]; rfl), rfl⟩, by simp [intOf]; omega⟩
        · have hn' : decide (n ≤ (k : Int)) = true := decide_eq_true (by omega)
          by_cases hz : nth xs k = 0
          · rw [decide_eq_true hz] at he
            have ok : amtA n k (nth xs k) = true := amtA_zero ha hz
            clear hz hn
            go_wp2_with (first | ((with_reducible refine is_load 22 _ rfl ?_); refine wpList_load_cell rfl 22 _ rfl _ _ rfl (fl xs) _ (X4 _) _ Try.underlying22 rfl (.float .f32 (nth xs k)) (fl_get (by omega)) ?_) | (go_at_call 76; refine (l01Amount_any _ hx _).mono ?_; rw [ha]; rintro e w' ⟨rfl, n', rfl⟩) | ((with_reducible refine is_load 22 _ rfl ?_); refine wpList_load_cell_g rfl 22 _ rfl _ _ rfl (fl xs) _ (X4 _) _ Try.underlying22 rfl (.float .f32 (nth xs k)) (fl_get (by omega)) ?_))
            exact ⟨⟨k + 1, _, by omega, by go_num, Lib.hid (by rw [amtTo_succ, hall.out, ok]; rfl), rfl⟩, by simp [intOf]; omega⟩
          · rw [decide_eq_false hz] at he
            have hno : amtTo n xs 4 = false := amtTo_no hlt (amtA_out hz (by omega))
            clear hz hn
            go_wp2_with (first | ((with_reducible refine is_load 22 _ rfl ?_); refine wpList_load_cell rfl 22 _ rfl _ _ rfl (fl xs) _ (X4 _) _ Try.underlying22 rfl (.float .f32 (nth xs k)) (fl_get (by omega)) ?_) | (go_at_call 76; refine (l01Amount_any _ hx _).mono ?_; rw [ha]; rintro e w' ⟨rfl, n', rfl⟩) | ((with_reducible refine is_load 22 _ rfl ?_); refine wpList_load_cell_g rfl 22 _ rfl _ _ rfl (fl xs) _ (X4 _) _ Try.underlying22 rfl (.float .f32 (nth xs k)) (fl_get (by omega)) ?_))
            go_ret
            exact ⟨by rw [hno]; rfl, B4.out _⟩
    · obtain rfl : k = 4 := by omega
      go_wp2
      go_ret
      exact ⟨by rw [hall.out]; rfl, B4.out _⟩

set_option maxHeartbeats 400000 in
theorem l03Told_b (ts : List Nat) (hl : ts.length = 16) (hc : ∀ x ∈ ts, x < 2139095040) (w : World) :
    Calls Try.prog 61 #[.agg (fl ts)] w fun e w' => e = .returned (.tuple #[.agg (fl ts), .int .i64 0]) ∧ Below w.heap.size w w' := by
  have A0 : At ((w.alloc (.cells (fl ts) 28)).alloc (.cells (#[.float .f32 0, .float .f32 0, .float .f32 0, .float .f32 0, .float .f32 0, .float .f32 0, .float .f32 0, .float .f32 0, .float .f32 0, .float .f32 0, .float .f32 0, .float .f32 0, .float .f32 0, .float .f32 0, .float .f32 0, .float .f32 0]) 28)) w.heap.size (fl ts) 28 := (At.new w _ _).alloc _
  have R0 : At ((w.alloc (.cells (fl ts) 28)).alloc (.cells (#[.float .f32 0, .float .f32 0, .float .f32 0, .float .f32 0, .float .f32 0, .float .f32 0, .float .f32 0, .float .f32 0, .float .f32 0, .float .f32 0, .float .f32 0, .float .f32 0, .float .f32 0, .float .f32 0, .float .f32 0, .float .f32 0]) 28)) (w.heap.size + 1) (#[.float .f32 0, .float .f32 0, .float .f32 0, .float .f32 0, .float .f32 0, .float .f32 0, .float .f32 0, .float .f32 0, .float .f32 0, .float .f32 0, .float .f32 0, .float .f32 0, .float .f32 0, .float .f32 0, .float .f32 0, .float .f32 0]) 28 := At.last1 w _ _ _
  have B0 := Lib.hid (bnew (b0 w (.cells (fl ts) 28)) (.cells (#[.float .f32 0, .float .f32 0, .float .f32 0, .float .f32 0, .float .f32 0, .float .f32 0, .float .f32 0, .float .f32 0, .float .f32 0, .float .f32 0, .float .f32 0, .float .f32 0, .float .f32 0, .float .f32 0, .float .f32 0, .float .f32 0]) 28))
  have SZ : (fl ts).size = 16 := by rw [fl_size, hl]
  go_enter Try.func61, Try.ntmps61
  go_wp2
  go_loopw [4] (fun i' wr => ∃ k : Nat, k ≤ 4 ∧ i' = .int .i64 k ∧ At wr w.heap.size (fl ts) 28 ∧ At wr (w.heap.size + 1) (#[.float .f32 0, .float .f32 0, .float .f32 0, .float .f32 0, .float .f32 0, .float .f32 0, .float .f32 0, .float .f32 0, .float .f32 0, .float .f32 0, .float .f32 0, .float .f32 0, .float .f32 0, .float .f32 0, .float .f32 0, .float .f32 0]) 28 ∧ Hid (Below w.heap.size w wr)) (fun i' _ => 4 - (intOf i').toNat)
  case atStart => exact ⟨0, by omega, rfl, A0, R0, B0⟩
  case round =>
    clear A0 R0 B0
    obtain ⟨k, hk, rfl, A4, R4, B4⟩ := hrel
    by_cases hlk : k < 4
    · have s2 : IntKind.i64.wrap ((k : Int) + 1) = (k : Int) + 1 := IntWalk.i64_in _ (by omega)
      have hkd : decide ((k : Int) < 4) = true := decide_eq_true (by omega)
      go_wp2
      go_loopw [5] (fun i' wr' => ∃ n : Nat, n ≤ 4 ∧ i' = .int .i64 n ∧ At wr' w.heap.size (fl ts) 28 ∧ At wr' (w.heap.size + 1) (#[.float .f32 0, .float .f32 0, .float .f32 0, .float .f32 0, .float .f32 0, .float .f32 0, .float .f32 0, .float .f32 0, .float .f32 0, .float .f32 0, .float .f32 0, .float .f32 0, .float .f32 0, .float .f32 0, .float .f32 0, .float .f32 0]) 28 ∧ Hid (Below w.heap.size w wr')) (fun i' _ => 4 - (intOf i').toNat)
      case atStart => exact ⟨0, by omega, rfl, A4, R4, B4⟩
      case round =>
        clear A4 R4 B4
        obtain ⟨n, hn', rfl, A4, R4, B4⟩ := hrel
        by_cases hn : n < 4
        · have s3 : IntKind.i64.wrap ((n : Int) + 1) = (n : Int) + 1 := IntWalk.i64_in _ (by omega)
          have hx := hc _ (nth_mem (cs := ts) (k := k * 4 + n) (by omega))
          have hf : finB (nth ts (k * 4 + n)) = true := by unfold finB; exact decide_eq_true (by omega)
          go_wp2_with (((with_reducible refine is_load 22 _ rfl ?_); refine wpList_load_cell rfl 22 _ rfl _ _ rfl (fl ts) _ A4 _ Try.underlying22 rfl (.float .f32 (nth ts (k * 4 + n))) (fl_get (by omega)) ?_))
          refine (l01Finite_any (nth ts (k * 4 + n)) (by omega) _).mono ?_
          rw [hf]
          rintro e w5 ⟨rfl, n5, rfl⟩
          have A5 := A4.drewN n5
          have R5 := R4.drewN n5
          have B5 := Lib.hid (bdrew B4.out n5)
          go_wp2_with fail
          exact ⟨⟨n + 1, by omega, by go_num, A5, R5, B5⟩, by simp [intOf]; omega⟩
        · obtain rfl : n = 4 := by omega
          go_wp2
          exact ⟨⟨k + 1, by omega, by go_num, A4, R4, B4⟩, by simp [intOf]; omega⟩
    · obtain rfl : k = 4 := by omega
      have R9 := R4.setRow (fl ts)
      have B9 := Lib.hid (bset B4.out (g := w.heap.size + 1) (by omega) (fl ts))
      go_wp2_with (first | ((with_reducible refine is_load 28 _ rfl ?_); refine wpList_load_at rfl 28 _ rfl _ rfl (fl ts) _ A4 16 (SZ) _ Try.underlying28 rfl (by kernel_rfl) ?_) | ((with_reducible refine is_store 28 (.tmp 2) (.tmp 22) rfl ?_); refine wpList_store_at rfl 28 (.tmp 2) (.tmp 22) rfl _ rfl (fl ts) rfl (#[.float .f32 0, .float .f32 0, .float .f32 0, .float .f32 0, .float .f32 0, .float .f32 0, .float .f32 0, .float .f32 0, .float .f32 0, .float .f32 0, .float .f32 0, .float .f32 0, .float .f32 0, .float .f32 0, .float .f32 0, .float .f32 0]) _ R4 16 (SZ) (rfl) (by kernel_rfl) (fl_one _) ?_))
      exact bodyPost_ret (v := .tuple #[.agg (fl ts), .int .i64 0]) (results_at_tmp (p := 2) (ty := 28) rfl _ _ _ (fl ts) _ (.int .i64 0) rfl rfl R9 _ Try.underlying28 rfl 16 SZ (by kernel_rfl)) rfl ⟨rfl, B9.out⟩

end Go.Proofs.Ytdoilkhndkakkaa
