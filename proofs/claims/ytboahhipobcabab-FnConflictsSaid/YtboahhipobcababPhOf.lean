/-
  CONTRACTS: the phase with a number.
-/
import Derived.Test.YtboahhipobcababToTab
import Derived.Test.YtboahhipobcababConf
import Derived.Test.YtboahhipobcababG3
namespace Go.Proofs.Ytboahhipobcabab
open Go Go.ChangeShapes Go.WideShapes Go.ChangeAt Go.RowKit
set_option maxRecDepth 100000

/-- the bit k of a number -/
def bitB (n : Int) (k : Nat) : Bool := bits .and .i64 (n / 2 ^ k) 1 == 1
def phB (n : Int) : List Bool := (List.range 8).map (bitB n)
theorem phB_len (n : Int) : (phB n).length = 8 := by simp [phB]
theorem phB_at (n : Int) {k : Nat} (h : k < 8) : bn (phB n) k = bitB n k := by
  unfold bn phB
  rw [List.getD_eq_getElem?_getD, List.getElem?_map, List.getElem?_range h]; rfl
def vPh (n : Int) : List Bool × Int := if 0 ≤ n ∧ n ≤ 255 then (phB n, 0) else (noes 8, 2)
theorem vPh_len (n : Int) : (vPh n).1.length = 8 := by unfold vPh; split; exact phB_len n; exact noes_len 8

theorem phaseOf_any (n : Int) (w : World) :
    Calls Try.prog 95 #[.int .i64 n] w fun e w' => e = .returned (.agg (bl (phB n))) ∧ Below w.heap.size w w' := by
  have SZ : (bl (phB n)).size = 8 := by rw [bl_size, phB_len]
  go_enter Try.func95, Try.ntmps95
  go_wp2
  go_loopw [5] (fun i wr => ∃ k : Nat, k ≤ 8 ∧ i = .int .i64 k ∧ wr = ((w.alloc (.cells (bl (noes 8)) 69)).alloc (.cells (bl (cpB 8 (phB n) k)) 69))) (fun i _ => 8 - (intOf i).toNat)
  case atStart => exact ⟨0, by omega, rfl, rfl⟩
  case round =>
    obtain ⟨k, hk, rfl, rfl⟩ := hrel
    by_cases hlt : k < 8
    · have g3 := bl_get (bs := cpB 8 (phB n) k) (k := k) (by rw [cpB_len (phB_len n) k hk]; exact hlt)
      have s2 : IntKind.i64.wrap ((k : Int) + 1) = (k : Int) + 1 := IntWalk.i64_in _ (by omega)
      go_wp2
      exact ⟨⟨k + 1, by omega, by go_num, by rw [bl_set, ← cpB_set (phB_len n) hlt, phB_at n hlt]; rfl⟩, by simp [intOf]; omega⟩
    · obtain rfl : k = 8 := by omega
      rw [cpB_all (phB_len n)]
      have R0 : At ((w.alloc (.cells (bl (noes 8)) 69)).alloc (.cells (bl (phB n)) 69)) w.heap.size (bl (noes 8)) 69 := (At.new w _ _).alloc _
      have L0 : At ((w.alloc (.cells (bl (noes 8)) 69)).alloc (.cells (bl (phB n)) 69)) (w.heap.size + 1) (bl (phB n)) 69 := At.last1 w _ _ _
      have B0 := Lib.hid (bnew (b0 w (.cells (bl (noes 8)) 69)) (.cells (bl (phB n)) 69))
      generalize ((w.alloc (.cells (bl (noes 8)) 69)).alloc (.cells (bl (phB n)) 69)) = w1 at R0 L0 B0 ⊢
      have R9 := R0.setRow (bl (phB n))
      have B9 := Lib.hid (bset B0.out (g := w.heap.size) (by omega) (bl (phB n)))
      go_wp2_with (first | ((with_reducible refine is_load 69 _ rfl ?_); refine wpList_load_at rfl 69 _ rfl _ rfl (bl (phB n)) _ (by assumption) 8 (SZ) _ Try.underlying69 rfl (by kernel_rfl) ?_) | ((with_reducible refine is_store 69 _ _ rfl ?_); refine wpList_store_at rfl 69 _ _ rfl _ rfl (bl (phB n)) rfl (bl (noes 8)) _ (by assumption) 8 (SZ) (by rw [bl_size, noes_len]) (by kernel_rfl) (bl_one _) ?_))
      exact bodyPost_ret (v := .agg (bl (phB n))) (results_at (p := 2) (ty := 69) rfl _ _ _ (bl (phB n)) _ rfl R9 _ Try.underlying69 rfl 8 SZ (by kernel_rfl)) rfl ⟨rfl, B9.out⟩

theorem l04Phase_any (n : Int) (w : World) :
    Calls Try.prog 119 #[.int .i64 n] w fun e w' => e = .returned (.agg (bl (phB n))) ∧ Below w.heap.size w w' := by
  have SZ : (bl (phB n)).size = 8 := by rw [bl_size, phB_len]
  go_enter Try.func119, Try.ntmps119
  go_wp2
  go_loopw [4] (fun i wr => ∃ k : Nat, k ≤ 8 ∧ i = .int .i64 k ∧ wr = ((w.alloc (.cells (bl (noes 8)) 69)).alloc (.cells (bl (cpB 8 (phB n) k)) 69))) (fun i _ => 8 - (intOf i).toNat)
  case atStart => exact ⟨0, by omega, rfl, rfl⟩
  case round =>
    obtain ⟨k, hk, rfl, rfl⟩ := hrel
    by_cases hlt : k < 8
    · have g3 := bl_get (bs := cpB 8 (phB n) k) (k := k) (by rw [cpB_len (phB_len n) k hk]; exact hlt)
      have s2 : IntKind.i64.wrap ((k : Int) + 1) = (k : Int) + 1 := IntWalk.i64_in _ (by omega)
      go_wp2
      exact ⟨⟨k + 1, by omega, by go_num, by rw [bl_set, ← cpB_set (phB_len n) hlt, phB_at n hlt]; rfl⟩, by simp [intOf]; omega⟩
    · obtain rfl : k = 8 := by omega
      rw [cpB_all (phB_len n)]
      have R0 : At ((w.alloc (.cells (bl (noes 8)) 69)).alloc (.cells (bl (phB n)) 69)) w.heap.size (bl (noes 8)) 69 := (At.new w _ _).alloc _
      have L0 : At ((w.alloc (.cells (bl (noes 8)) 69)).alloc (.cells (bl (phB n)) 69)) (w.heap.size + 1) (bl (phB n)) 69 := At.last1 w _ _ _
      have B0 := Lib.hid (bnew (b0 w (.cells (bl (noes 8)) 69)) (.cells (bl (phB n)) 69))
      generalize ((w.alloc (.cells (bl (noes 8)) 69)).alloc (.cells (bl (phB n)) 69)) = w1 at R0 L0 B0 ⊢
      have R9 := R0.setRow (bl (phB n))
      have B9 := Lib.hid (bset B0.out (g := w.heap.size) (by omega) (bl (phB n)))
      go_wp2_with (first | ((with_reducible refine is_load 69 _ rfl ?_); refine wpList_load_at rfl 69 _ rfl _ rfl (bl (phB n)) _ (by assumption) 8 (SZ) _ Try.underlying69 rfl (by kernel_rfl) ?_) | ((with_reducible refine is_store 69 _ _ rfl ?_); refine wpList_store_at rfl 69 _ _ rfl _ rfl (bl (phB n)) rfl (bl (noes 8)) _ (by assumption) 8 (SZ) (by rw [bl_size, noes_len]) (by kernel_rfl) (bl_one _) ?_))
      exact bodyPost_ret (v := .agg (bl (phB n))) (results_at (p := 2) (ty := 69) rfl _ _ _ (bl (phB n)) _ rfl R9 _ Try.underlying69 rfl 8 SZ (by kernel_rfl)) rfl ⟨rfl, B9.out⟩

theorem PhaseOf_any (n : Int) (w : World) :
    Calls Try.prog 52 #[.int .i64 n] w fun e w' => e = .returned (.tuple #[.agg (bl (vPh n).1), .int .i64 (vPh n).2]) ∧ Below w.heap.size w w' := by
  have R0 := At.new w (bl (noes 8)) 69
  have B0 := Lib.hid (b0 w (.cells (bl (noes 8)) 69))
  by_cases h : 0 ≤ n ∧ n ≤ 255
  · have EQ : Ending.returned (Value.tuple #[.agg (bl (phB n)), .int .i64 0]) = .returned (.tuple #[.agg (bl (vPh n).1), .int .i64 (vPh n).2]) := by unfold vPh; rw [if_pos h]
    have SZ : (bl (phB n)).size = 8 := by rw [bl_size, phB_len]
    have KP := phaseOf_any n
    obtain ⟨h1, h2⟩ := h
    go_enter Try.func52, Try.ntmps52
    go_wp2_with fail
    refine (KP _).mono ?_
    rintro e w2 ⟨rfl, hb2⟩
    have R1 := R0.step hb2
    have B1 := Lib.hid (bthen B0.out hb2)
    clear R0 B0 hb2
    have R9 := R1.setRow (bl (phB n))
    have B9 := Lib.hid (bset B1.out (g := w.heap.size) (by omega) (bl (phB n)))
    go_wp2_with (((with_reducible refine is_store 69 _ _ rfl ?_); refine wpList_store_at rfl 69 _ _ rfl _ rfl (bl (phB n)) rfl (bl (noes 8)) _ (by assumption) 8 (SZ) (by rw [bl_size, noes_len]) (by kernel_rfl) (bl_one _) ?_))
    exact bodyPost_ret (v := .tuple #[.agg (bl (phB n)), .int .i64 0]) (results_at_tmp (p := 2) (ty := 69) rfl _ _ _ (bl (phB n)) _ (.int .i64 0) rfl rfl R9 _ Try.underlying69 rfl 8 SZ (by kernel_rfl)) rfl ⟨EQ, B9.out⟩
  · have EQ : Ending.returned (Value.tuple #[.agg (bl (noes 8)), .int .i64 2]) = .returned (.tuple #[.agg (bl (vPh n).1), .int .i64 (vPh n).2]) := by unfold vPh; rw [if_neg h]
    have SZ : (bl (noes 8)).size = 8 := by rw [bl_size, noes_len]
    by_cases h0 : 0 ≤ n
    · have h2 : ¬ n ≤ 255 := fun h3 => h ⟨h0, h3⟩
      clear h
      have R9 := R0.setRow (bl (noes 8))
      have B9 := Lib.hid (bset B0.out (g := w.heap.size) (by omega) (bl (noes 8)))
      go_enter Try.func52, Try.ntmps52
      go_wp2_with (((with_reducible refine is_store 69 _ _ rfl ?_); refine wpList_store_at rfl 69 _ _ rfl _ rfl (bl (noes 8)) rfl (bl (noes 8)) _ (by assumption) 8 (SZ) (SZ) (by kernel_rfl) (bl_one _) ?_))
      exact bodyPost_ret (v := .tuple #[.agg (bl (noes 8)), .int .i64 2]) (results_at_tmp (p := 2) (ty := 69) rfl _ _ _ (bl (noes 8)) _ (.int .i64 2) rfl rfl R9 _ Try.underlying69 rfl 8 SZ (by kernel_rfl)) rfl ⟨EQ, B9.out⟩
    · clear h
      have R9 := R0.setRow (bl (noes 8))
      have B9 := Lib.hid (bset B0.out (g := w.heap.size) (by omega) (bl (noes 8)))
      go_enter Try.func52, Try.ntmps52
      go_wp2_with (((with_reducible refine is_store 69 _ _ rfl ?_); refine wpList_store_at rfl 69 _ _ rfl _ rfl (bl (noes 8)) rfl (bl (noes 8)) _ (by assumption) 8 (SZ) (SZ) (by kernel_rfl) (bl_one _) ?_))
      exact bodyPost_ret (v := .tuple #[.agg (bl (noes 8)), .int .i64 2]) (results_at_tmp (p := 2) (ty := 69) rfl _ _ _ (bl (noes 8)) _ (.int .i64 2) rfl rfl R9 _ Try.underlying69 rfl 8 SZ (by kernel_rfl)) rfl ⟨EQ, B9.out⟩

end Go.Proofs.Ytboahhipobcabab
