/-
  CONTRACTS: Dense.
-/
import Derived.Test.YtcnbccjkcaoflaaCell2
import Derived.Deep.LoopGhost
import Derived.WalkMore
namespace Go.Proofs.Ytcnbccjkcaoflaa
open Go Go.RowKit

/-- the first of the greatest, among the first ones -/
def dn (cs : List Nat) : Nat → Nat
  | 0 => 0
  | k + 1 => if nth cs (dn cs k) < nth cs (k + 1) then k + 1 else dn cs k
def dnW (cs : List Nat) : Nat := dn cs 15
theorem dn_yes {cs : List Nat} {k : Nat} (h : nth cs (dn cs k) < nth cs (k + 1)) : dn cs (k + 1) = k + 1 := by show (if nth cs (dn cs k) < nth cs (k + 1) then k + 1 else dn cs k) = _; rw [if_pos h]
theorem dn_no {cs : List Nat} {k : Nat} (h : ¬ nth cs (dn cs k) < nth cs (k + 1)) : dn cs (k + 1) = dn cs k := by show (if nth cs (dn cs k) < nth cs (k + 1) then k + 1 else dn cs k) = _; rw [if_neg h]
theorem dn_le (cs : List Nat) : ∀ k, dn cs k ≤ k
  | 0 => Nat.le_refl _
  | k + 1 => by
    have := dn_le cs k
    by_cases h : nth cs (dn cs k) < nth cs (k + 1)
    · rw [dn_yes h]; omega
    · rw [dn_no h]; omega
theorem dn_max (cs : List Nat) : ∀ k j, j ≤ k → nth cs j ≤ nth cs (dn cs k)
  | 0, j, h => by obtain rfl : j = 0 := by omega
                  exact Nat.le_refl _
  | k + 1, j, h => by
    have ih := dn_max cs k
    by_cases c : nth cs (dn cs k) < nth cs (k + 1)
    · rw [dn_yes c]
      by_cases e : j = k + 1
      · subst e; exact Nat.le_refl _
      · have := ih j (by omega); omega
    · rw [dn_no c]
      by_cases e : j = k + 1
      · subst e; omega
      · exact ih j (by omega)
theorem dn_first (cs : List Nat) : ∀ k j, j < dn cs k → nth cs j < nth cs (dn cs k)
  | 0, j, h => by have : dn cs 0 = 0 := rfl
                  omega
  | k + 1, j, h => by
    have ih := dn_first cs k
    by_cases c : nth cs (dn cs k) < nth cs (k + 1)
    · rw [dn_yes c] at h ⊢
      have := dn_max cs k j (by omega)
      omega
    · rw [dn_no c] at h ⊢
      exact ih j h

theorem densestOf_any (cs : List Nat) (hl : cs.length = 16) (hc : ∀ k, nth cs k ≤ 1065353216) (w : World) :
    Calls Try.prog 22 #[.agg (fl cs)] w fun e w' => e = .returned (.int .i64 (dnW cs)) ∧ Below w.heap.size w w' := by
  have A0 := At.new w (fl cs) 26
  have hD := dn_le cs 15
  have hmax := dn_max cs 15
  have hfirst := dn_first cs 15
  rw [show dn cs 15 = dnW cs from rfl] at hD hmax hfirst
  have X : Hid ((∀ j, j ≤ 15 → nth cs j ≤ nth cs (dnW cs)) ∧ (∀ j, j < dnW cs → nth cs j < nth cs (dnW cs))) := ⟨hmax, hfirst⟩
  clear hmax hfirst
  have B0 := Lib.hid (b0 w (.cells (fl cs) 26))
  have hsz : (fl cs).size = 16 := by rw [fl_size, hl]
  have HS := Lib.hid hsz
  clear hsz
  go_enter Try.func22, Try.ntmps22
  go_wp2_with (((with_reducible refine is_load 26 _ rfl ?_); refine wpList_load_at rfl 26 _ rfl _ rfl (fl cs) _ (by assumption) 16 HS.out _ Try.underlying26 rfl (by kernel_rfl) ?_))
  go_step3
  go_wp2_with (((with_reducible refine is_load 26 _ rfl ?_); refine wpList_load_at rfl 26 _ rfl _ rfl (fl cs) _ (by assumption) 16 HS.out _ Try.underlying26 rfl (by kernel_rfl) ?_))
  go_step3
  go_wp2_with (((with_reducible refine is_load 26 _ rfl ?_); refine wpList_load_at rfl 26 _ rfl _ rfl (fl cs) _ (by assumption) 16 HS.out _ Try.underlying26 rfl (by kernel_rfl) ?_))
  go_loopg [8] 20 (fun g i wr => ∃ k : Nat, k ≤ dnW cs ∧ i = .int .i64 k ∧ g + k = 20 ∧ wr = w.alloc (.cells (fl cs) 26))
  case atStart => exact ⟨0, by omega, rfl, rfl, rfl⟩
  case round =>
    obtain ⟨k, hk, rfl, hg, rfl⟩ := hrel
    have G := Lib.hid hg
    clear hg
    have hk16 : (k : Int) < 16 := by omega
    have hi : ∀ W, (Instr.index 26 (.agg (fl cs)) (.int .i64 k)).run Try.prog W = .ok (.float .f32 (nth cs k)) W := fun W =>
      run_index_fl W 26 24 16 cs k Try.underlying26 Try.underlying24 (by kernel_rfl) (by omega) hl.symm
    by_cases c : k < dnW cs
    · go_wp2_with (((with_reducible refine is_load 26 _ rfl ?_); refine wpList_load_at rfl 26 _ rfl _ rfl (fl cs) _ (by assumption) 16 HS.out _ Try.underlying26 rfl (by kernel_rfl) ?_))
      go_loopg [13] 40 (fun g i wr => ∃ j : Nat, j ≤ dnW cs ∧ i = .int .i64 j ∧ g + j = 40 ∧ wr = w.alloc (.cells (fl cs) 26))
      case atStart => exact ⟨0, by omega, rfl, rfl, rfl⟩
      case round =>
        obtain ⟨j, hj, rfl, hg2, rfl⟩ := hrel
        have G2 := Lib.hid hg2
        clear hg2
        have hj16 : (j : Int) < 16 := by omega
        have hi2 : ∀ W, (Instr.index 26 (.agg (fl cs)) (.int .i64 j)).run Try.prog W = .ok (.float .f32 (nth cs j)) W := fun W =>
          run_index_fl W 26 24 16 cs j Try.underlying26 Try.underlying24 (by kernel_rfl) (by omega) hl.symm
        have hgt := gt_amt (x := nth cs j) (y := nth cs k) (Nat.le_trans (hc j) (by omega)) (Nat.le_trans (hc k) (by omega))
        by_cases d : nth cs k < nth cs j
        · rw [decide_eq_true d] at hgt
          clear d
          go_wp2
          go_roundg (20 - (k + 1))
          case measure => have := G.out; omega
          case rel => exact ⟨k + 1, by omega, by go_num, by omega, rfl⟩
        · rw [decide_eq_false d] at hgt
          have hjD : j < dnW cs := by
            rcases Nat.lt_or_ge j (dnW cs) with q | q
            · exact q
            · obtain rfl : j = dnW cs := by omega
              exact absurd (X.out.2 k c) d
          clear d
          go_wp2
          go_roundg (40 - (j + 1))
          case measure => have := G2.out; omega
          case rel => exact ⟨j + 1, by omega, by go_num, by omega, rfl⟩
    · obtain rfl : k = dnW cs := by omega
      go_wp2_with (((with_reducible refine is_load 26 _ rfl ?_); refine wpList_load_at rfl 26 _ rfl _ rfl (fl cs) _ (by assumption) 16 HS.out _ Try.underlying26 rfl (by kernel_rfl) ?_))
      go_loopg [13] 40 (fun g i wr => ∃ j : Nat, j ≤ 16 ∧ i = .int .i64 j ∧ g + j = 40 ∧ wr = w.alloc (.cells (fl cs) 26))
      case atStart => exact ⟨0, by omega, rfl, rfl, rfl⟩
      case round =>
        obtain ⟨j, hj, rfl, hg2, rfl⟩ := hrel
        have G2 := Lib.hid hg2
        clear hg2
        by_cases hj16 : (j : Int) < 16
        · have hi2 : ∀ W, (Instr.index 26 (.agg (fl cs)) (.int .i64 j)).run Try.prog W = .ok (.float .f32 (nth cs j)) W := fun W =>
            run_index_fl W 26 24 16 cs j Try.underlying26 Try.underlying24 (by kernel_rfl) (by omega) hl.symm
          have hgt := gt_amt (x := nth cs j) (y := nth cs (dnW cs)) (Nat.le_trans (hc j) (by omega)) (Nat.le_trans (hc _) (by omega))
          rw [decide_eq_false (by have := X.out.1 j (by omega); omega)] at hgt
          go_wp2
          go_roundg (40 - (j + 1))
          case measure => have := G2.out; omega
          case rel => exact ⟨j + 1, by omega, by go_num, by omega, rfl⟩
        · go_wp2
          try rw [Exit.noGoto_ret]
          go_ret
          exact ⟨rfl, B0.out⟩
end Go.Proofs.Ytcnbccjkcaoflaa
