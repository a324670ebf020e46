/-
  CONTRACTS: arms, priorities, rows of amounts and of shares.
-/
import Derived.Test.YthljppdkplkohaaG2
namespace Go.Proofs.Ythljppdkplkohaa
open Go Go.RowKit
set_option maxRecDepth 100000

theorem isArm_b (k n : Int) (w : World) : Calls Try.prog 36 #[.int .i64 k, .int .i64 n] w (Rd (.bool (decide (0 ≤ k ∧ k < n))) w) := by
  by_cases h : 0 ≤ k
  · by_cases h2 : k < n
    · rw [decide_eq_true ⟨h, h2⟩]
      go_enter Try.func36, Try.ntmps36
      go_wp2
      go_ret
      exact Rd.mk0
    · rw [decide_eq_false (by omega)]
      go_enter Try.func36, Try.ntmps36
      go_wp2
      go_ret
      exact Rd.mk0
  · rw [decide_eq_false (by omega)]
    go_enter Try.func36, Try.ntmps36
    go_wp2
    go_ret
    exact Rd.mk0

/-- a priority: 1/64 to 64 -/
def priB (p : Nat) : Bool := decide (1015021568 ≤ p ∧ p ≤ 1115684864)

theorem priB_amt {p : Nat} (h : priB p = true) : 1015021568 ≤ p ∧ p ≤ 1115684864 := by unfold priB at h; simpa using h

/-- an amount that is 0 from arm n on -/
def amtA (n : Int) (k a : Nat) : Bool := amtB a && (decide (a = 0) || decide ((k : Int) < n))

/-- the first m of four numbers are such -/
def amtTo (n : Int) (xs : List Nat) (m : Nat) : Bool := (List.range m).all fun k => amtA n k (nth xs k)

theorem amtTo_succ (n : Int) (xs : List Nat) (m : Nat) : amtTo n xs (m + 1) = (amtTo n xs m && amtA n m (nth xs m)) := by
  unfold amtTo; rw [List.range_succ, List.all_append]; simp

theorem amtTo_no {n : Int} {xs : List Nat} {m k : Nat} (hk : k < m) (h : amtA n k (nth xs k) = false) : amtTo n xs m = false := by
  rw [Bool.eq_false_iff]
  intro h2
  have := List.all_eq_true.1 h2 k (by simpa using hk)
  rw [h] at this; cases this

theorem amtTo_at {n : Int} {xs : List Nat} {m k : Nat} (hk : k < m) (h : amtTo n xs m = true) : amtA n k (nth xs k) = true :=
  List.all_eq_true.1 h k (by simpa using hk)

theorem amtA_zero {n : Int} {k a : Nat} (h : amtB a = true) (z : a = 0) : amtA n k a = true := by unfold amtA; rw [h, decide_eq_true z]; rfl

theorem amtA_in {n : Int} {k a : Nat} (h : amtB a = true) (z : 0 ≤ (k : Int) ∧ (k : Int) < n) : amtA n k a = true := by unfold amtA; rw [h, decide_eq_true z.2]; simp

theorem amtA_out {n : Int} {k a : Nat} (h : a ≠ 0) (z : ¬ (0 ≤ (k : Int) ∧ (k : Int) < n)) : amtA n k a = false := by unfold amtA; rw [decide_eq_false h, decide_eq_false (by omega)]; simp

theorem amtA_bad {n : Int} {k a : Nat} (h : amtB a = false) : amtA n k a = false := by unfold amtA; rw [h]; rfl

theorem ne_amt {x y : Nat} (hx : x ≤ 2139095040) (hy : y ≤ 2139095040) : (FloatKind.f32.format.order x y != some .eq) = !decide (x = y) := congrArg not (eq_amt hx hy)

set_option maxHeartbeats 400000 in
theorem areAmountsOf_b (n : Int) (xs : List Nat) (hl : xs.length = 4) (hc : ∀ x ∈ xs, x < 4294967296) (w : World) :
    Calls Try.prog 27 #[.int .i64 n, .agg (fl xs)] w fun e w' => e = .returned (.bool (amtTo n xs 4)) ∧ Below w.heap.size w w' := by
  have A0 := At.new w (fl xs) 32
  have B0 := Lib.hid (b0 w (.cells (fl xs) 32))
  have SZ : (fl xs).size = 4 := by rw [fl_size, hl]
  go_enter Try.func27, Try.ntmps27
  go_wp2_with ((with_reducible refine is_load 32 _ rfl ?_); refine wpList_load_at rfl 32 _ rfl _ rfl (fl xs) _ (by assumption) 4 SZ _ Try.underlying32 rfl (by kernel_rfl) ?_)
  go_loopw [8] (fun i wr => ∃ k : Nat, k ≤ 4 ∧ i = .int .i64 k ∧ Hid (amtTo n xs k = true) ∧ Hid (Below w.heap.size w wr)) (fun i _ => 4 - (intOf i).toNat)
  case atStart => exact ⟨0, by omega, rfl, Lib.hid rfl, B0⟩
  case round =>
    clear A0 B0
    obtain ⟨k, hk, rfl, hall, B1⟩ := hrel
    by_cases hlt : k < 4
    · have hi : ∀ W, (Instr.index 32 (.agg (fl xs)) (.int .i64 k)).run Try.prog W = .ok (.float .f32 (nth xs k)) W := fun W =>
        run_index_fl W 32 24 4 xs k Try.underlying32 Try.underlying24 (by kernel_rfl) hlt hl.symm
      have hx := u32_lt hc k
      have s2 : IntKind.i64.wrap ((k : Int) + 1) = (k : Int) + 1 := IntWalk.i64_in _ (by omega)
      cases ha : amtB (nth xs k)
      · have hno : amtTo n xs 4 = false := amtTo_no hlt (amtA_bad ha)
        go_wp2_with (go_at_call 15; refine (IsAmount_any _ hx _).mono ?_; rintro e w' ⟨rfl, n', rfl⟩)
        go_ret
        exact ⟨by rw [hno]; rfl, bdrew B1.out _⟩
      · have ha' : nth xs k < 2139095040 := by unfold amtB at ha; simpa using ha
        have he := ne_amt (x := nth xs k) (y := 0) (by omega) (by omega)
        clear ha'
        by_cases hz : nth xs k = 0
        · rw [decide_eq_true hz] at he
          have ok : amtA n k (nth xs k) = true := amtA_zero ha hz
          clear hz
          go_wp2_with (go_at_call 15; refine (IsAmount_any _ hx _).mono ?_; rintro e w' ⟨rfl, n', rfl⟩)
          exact ⟨⟨k + 1, by omega, by go_num, Lib.hid (by rw [amtTo_succ, hall.out, ok]; rfl), Lib.hid (bdrew B1.out _)⟩, by simp [intOf]; omega⟩
        · rw [decide_eq_false hz] at he
          by_cases hn : 0 ≤ (k : Int) ∧ (k : Int) < n
          · have ok : amtA n k (nth xs k) = true := amtA_in ha hn
            have hd := decide_eq_true hn
            clear hn hz
            go_wp2_with (first | (go_at_call 15; refine (IsAmount_any _ hx _).mono ?_; rintro e w' ⟨rfl, n', rfl⟩) | (go_at_call 36; refine (isArm_b k n _).mono ?_; rw [hd]; rintro e w' ⟨rfl, n2, rfl⟩))
            exact ⟨⟨k + 1, by omega, by go_num, Lib.hid (by rw [amtTo_succ, hall.out, ok]; rfl), Lib.hid (bdrew B1.out _)⟩, by simp [intOf]; omega⟩
          · have hno : amtTo n xs 4 = false := amtTo_no hlt (amtA_out hz hn)
            have hd := decide_eq_false hn
            clear hn hz
            go_wp2_with (first | (go_at_call 15; refine (IsAmount_any _ hx _).mono ?_; rintro e w' ⟨rfl, n', rfl⟩) | (go_at_call 36; refine (isArm_b k n _).mono ?_; rw [hd]; rintro e w' ⟨rfl, n2, rfl⟩))
            go_ret
            exact ⟨by rw [hno]; rfl, bdrew B1.out _⟩
    · obtain rfl : k = 4 := by omega
      go_wp2
      go_ret
      exact ⟨by rw [hall.out]; rfl, B1.out⟩

/-- the first m of four numbers are shares -/
def shrTo (xs : List Nat) (m : Nat) : Bool := (List.range m).all fun k => shrB (nth xs k)

theorem shrTo_succ (xs : List Nat) (m : Nat) : shrTo xs (m + 1) = (shrTo xs m && shrB (nth xs m)) := by
  unfold shrTo; rw [List.range_succ, List.all_append]; simp

theorem shrTo_no {xs : List Nat} {m k : Nat} (hk : k < m) (h : shrB (nth xs k) = false) : shrTo xs m = false := by
  rw [Bool.eq_false_iff]
  intro h2
  have := List.all_eq_true.1 h2 k (by simpa using hk)
  rw [h] at this; cases this

theorem shrTo_at {xs : List Nat} {m k : Nat} (hk : k < m) (h : shrTo xs m = true) : nth xs k ≤ 1065353216 := by
  have := List.all_eq_true.1 h k (by simpa using hk)
  unfold shrB at this; simpa using this

theorem areShares_b (xs : List Nat) (hl : xs.length = 4) (hc : ∀ x ∈ xs, x < 4294967296) (w : World) :
    Calls Try.prog 28 #[.agg (fl xs)] w fun e w' => e = .returned (.bool (shrTo xs 4)) ∧ Below w.heap.size w w' := by
  have A0 := At.new w (fl xs) 32
  have B0 := Lib.hid (b0 w (.cells (fl xs) 32))
  have SZ : (fl xs).size = 4 := by rw [fl_size, hl]
  go_enter Try.func28, Try.ntmps28
  go_wp2_with ((with_reducible refine is_load 32 _ rfl ?_); refine wpList_load_at rfl 32 _ rfl _ rfl (fl xs) _ (by assumption) 4 SZ _ Try.underlying32 rfl (by kernel_rfl) ?_)
  go_loopw [6] (fun i wr => ∃ k : Nat, k ≤ 4 ∧ i = .int .i64 k ∧ Hid (shrTo xs k = true) ∧ Hid (Below w.heap.size w wr)) (fun i _ => 4 - (intOf i).toNat)
  case atStart => exact ⟨0, by omega, rfl, Lib.hid rfl, B0⟩
  case round =>
    clear A0 B0
    obtain ⟨k, hk, rfl, hall, B1⟩ := hrel
    by_cases hlt : k < 4
    · have hi : ∀ W, (Instr.index 32 (.agg (fl xs)) (.int .i64 k)).run Try.prog W = .ok (.float .f32 (nth xs k)) W := fun W =>
        run_index_fl W 32 24 4 xs k Try.underlying32 Try.underlying24 (by kernel_rfl) hlt hl.symm
      have hx := u32_lt hc k
      have s2 : IntKind.i64.wrap ((k : Int) + 1) = (k : Int) + 1 := IntWalk.i64_in _ (by omega)
      cases hs : shrB (nth xs k)
      · have hno := shrTo_no (m := 4) hlt hs
        go_wp2_with (go_at_call 16; refine (IsShare_any _ hx _).mono ?_; rintro e w' ⟨rfl, n', rfl⟩)
        go_ret
        exact ⟨by rw [hno]; rfl, bdrew B1.out _⟩
      · go_wp2_with (go_at_call 16; refine (IsShare_any _ hx _).mono ?_; rintro e w' ⟨rfl, n', rfl⟩)
        exact ⟨⟨k + 1, by omega, by go_num, Lib.hid (by rw [shrTo_succ, hall.out, hs]; rfl), Lib.hid (bdrew B1.out _)⟩, by simp [intOf]; omega⟩
    · obtain rfl : k = 4 := by omega
      go_wp2
      go_ret
      exact ⟨by rw [hall.out]; rfl, B1.out⟩
end Go.Proofs.Ythljppdkplkohaa
