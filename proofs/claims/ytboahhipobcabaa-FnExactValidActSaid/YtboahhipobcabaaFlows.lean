/-
  CONTRACTS: four rows of four numbers, a law's made the program's, and held against each other.
-/
import Derived.Test.YtboahhipobcabaaJn
import Derived.Test.YtboahhipobcabaaPiece
import Derived.Deep.LoopGhost
import Derived.IntWalk
namespace Go.Proofs.Ytboahhipobcabaa
open Go Go.RowKit
set_option maxRecDepth 100000

theorem toFlows_any (ts : List Nat) (hl : ts.length = 16) (w : World) :
    Calls Try.prog 130 #[.agg (fl ts)] w fun e w' => e = .returned (.agg (fl ts)) ∧ Below w.heap.size w w' := by
  have A0 : At (((w.alloc (.cells (fl ts) 68)).alloc (.cells (fl (zeros 16)) 69)).alloc (.cells (fl (zeros 16)) 69)) w.heap.size (fl ts) 68 := ((At.new w _ _).alloc _).alloc _
  have R0 : At (((w.alloc (.cells (fl ts) 68)).alloc (.cells (fl (zeros 16)) 69)).alloc (.cells (fl (zeros 16)) 69)) (w.heap.size + 1) (fl (zeros 16)) 69 := (At.last1 w _ _ _).alloc _
  have L0 : At (((w.alloc (.cells (fl ts) 68)).alloc (.cells (fl (zeros 16)) 69)).alloc (.cells (fl (zeros 16)) 69)) (w.heap.size + 1 + 1) (fl (cpR ts 0)) 69 := by
    have := At.new ((w.alloc (.cells (fl ts) 68)).alloc (.cells (fl (zeros 16)) 69)) (fl (zeros 16)) 69
    rw [cpR_zero]
    rwa [World.size_alloc, World.size_alloc] at this
  have B0 := Lib.hid (bnew (bnew (b0 w (.cells (fl ts) 68)) (.cells (fl (zeros 16)) 69)) (.cells (fl (zeros 16)) 69))
  have SZ : (fl ts).size = 16 := by rw [fl_size, hl]
  go_enter Try.func130, Try.ntmps130
  go_wp2
  go_loopw [4] (fun i wr => ∃ k : Nat, k ≤ 4 ∧ i = .int .i64 k ∧ At wr w.heap.size (fl ts) 68 ∧ At wr (w.heap.size + 1) (fl (zeros 16)) 69 ∧ At wr (w.heap.size + 1 + 1) (fl (cpR ts k)) 69 ∧ Hid (Below w.heap.size w wr)) (fun i _ => 4 - (intOf i).toNat)
  case atStart => exact ⟨0, by omega, rfl, A0, R0, L0, B0⟩
  case round =>
    clear A0 R0 L0 B0
    obtain ⟨k, hk, rfl, A1, R1, L1, B1⟩ := hrel
    by_cases hlt : k < 4
    · have rl := row4_len hl hlt
      have s2 : IntKind.i64.wrap ((k : Int) + 1) = (k : Int) + 1 := IntWalk.i64_in _ (by omega)
      go_wp2_with (((with_reducible refine is_load 67 _ rfl ?_); refine wpList_load_part rfl 67 _ rfl _ _ rfl (fl ts) _ (by assumption) 4 (by rw [SZ]; omega) _ Try.underlying67 rfl (by kernel_rfl) (fl (row4 ts k)) (fl_row hl hlt (by omega)) ?_))
      refine (toFloat32A4_any (row4 ts k) rl _).mono ?_
      rintro e w2 ⟨rfl, hb2⟩
      have A2 := A1.step hb2
      have R2 := R1.step hb2
      have L2 := L1.step hb2
      have B2 := Lib.hid (bthen B1.out hb2)
      clear A1 R1 L1 B1 hb2
      have A3 := A2.setRow_other (k := w.heap.size + 1 + 1) (by omega) (fl (cpR ts (k + 1)))
      have R3 := R2.setRow_other (k := w.heap.size + 1 + 1) (by omega) (fl (cpR ts (k + 1)))
      have L3 := L2.setRow (fl (cpR ts (k + 1)))
      have B3 := Lib.hid (bset B2.out (g := w.heap.size + 1 + 1) (by omega) (fl (cpR ts (k + 1))))
      go_wp2_with (((with_reducible refine is_store 67 (.tmp 14) (.tmp 13) rfl ?_); refine wpList_store_part rfl 67 (.tmp 14) (.tmp 13) rfl _ _ rfl (fl (row4 ts k)) rfl (fl (cpR ts k)) _ (by assumption) 4 (by rw [fl_size, rl]) (by rw [fl_size, cpR_len hl (by omega)]; omega) (by kernel_rfl) (fl_one _) (fl (cpR ts (k + 1))) (cpR_splice hl hlt (by omega)) ?_))
      exact ⟨⟨k + 1, by omega, by go_num, A3, R3, L3, B3⟩, by simp [intOf]; omega⟩
    · obtain rfl : k = 4 := by omega
      rw [cpR_all hl] at L1
      have R9 := R1.setRow (fl ts)
      have B9 := Lib.hid (bset B1.out (g := w.heap.size + 1) (by omega) (fl ts))
      go_wp2_with (first | ((with_reducible refine is_load 69 _ rfl ?_); refine wpList_load_at rfl 69 _ rfl _ rfl (fl ts) _ (by assumption) 16 (SZ) _ Try.underlying69 rfl (by kernel_rfl) ?_) | ((with_reducible refine is_store 69 (.tmp 2) (.tmp 15) rfl ?_); refine wpList_store_at rfl 69 (.tmp 2) (.tmp 15) rfl _ rfl (fl ts) rfl (fl (zeros 16)) _ (by assumption) 16 (SZ) (by rw [fl_size, zeros_len]) (by kernel_rfl) (fl_one _) ?_))
      exact bodyPost_ret (v := .agg (fl ts)) (results_at (p := 2) (ty := 69) rfl _ _ _ (fl ts) _ rfl R9 _ Try.underlying69 rfl 16 SZ (by kernel_rfl)) rfl ⟨rfl, B9.out⟩

theorem eqFlows_same (ts : List Nat) (hl : ts.length = 16) (hc : ∀ x ∈ ts, x < 4294967296 ∧ nanB x = false) (w : World) :
    Calls Try.prog 133 #[.agg (fl ts), .agg (fl ts)] w fun e w' => e = .returned (.bool true) ∧ Below w.heap.size w w' := by
  have SZ : (fl ts).size = 16 := by rw [fl_size, hl]
  go_enter Try.func133, Try.ntmps133
  go_wp2
  go_loopw [5] (fun i wr => ∃ k : Nat, k ≤ 4 ∧ i = .int .i64 k ∧ Two w (fl ts) 69 (fl ts) 69 wr) (fun i _ => 4 - (intOf i).toNat)
  case atStart => exact ⟨0, by omega, rfl, Two.mk _ _ _ _ _⟩
  case round =>
    obtain ⟨k, hk, rfl, hT⟩ := hrel
    by_cases hlt : k < 4
    · have A1 : At wr w.heap.size (fl ts) 69 := hT.1
      have A2 : At wr (w.heap.size + 1) (fl ts) 69 := hT.2.1
      have rl := row4_len hl hlt
      have s2 : IntKind.i64.wrap ((k : Int) + 1) = (k : Int) + 1 := IntWalk.i64_in _ (by omega)
      have hC := Cb.const wr
      go_wp2
      refine wp_region_cb (by kernel_rfl) (by kernel_rfl) ?_
      repeat (first
        | go_big_quiet_skip
        | (go_big_quiet_want; first
          | (refine q_part 67 _ rfl _ rfl A1 4 (by rw [SZ]; omega) _ Try.underlying67 rfl (by kernel_rfl) (fl (row4 ts k)) (fl_row hl hlt (by omega)) ?_; go_simp; go_big_quiet_on)
          | (refine q_part 67 _ rfl _ rfl A2 4 (by rw [SZ]; omega) _ Try.underlying67 rfl (by kernel_rfl) (fl (row4 ts k)) (fl_row hl hlt (by omega)) ?_; go_simp; go_big_quiet_on)
          | (go_big_quiet_op; go_big_quiet_on)
          | (go_big_quiet_op; apply Exists.intro; refine ⟨fun w' hw' => ?_, ?_⟩; (go_at_call 151; exact (eqFloat32A4_same (row4 ts k) rl (fun x hx => hc x (row4_mem k hx)) _).mono fun _ _ h => ⟨h.1, hw'.step h.2⟩); go_big_quiet_on)))
      refine wpQuiet_nil ?_
      intro w2 hw2
      have hT2 := hT.step hw2
      go_wp2
      exact ⟨⟨k + 1, by omega, by go_num, hT2⟩, by simp [intOf]; omega⟩
    · go_wp2
      go_ret
      exact ⟨rfl, hT.2.2⟩

end Go.Proofs.Ytboahhipobcabaa
