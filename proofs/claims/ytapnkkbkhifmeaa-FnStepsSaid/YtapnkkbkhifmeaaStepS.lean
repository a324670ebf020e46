/-
  CONTRACTS: a step, the model's.
-/
import Derived.Test.YtapnkkbkhifmeaaStep
namespace Go.Proofs.Ytapnkkbkhifmeaa
open Go Go.RowKit
set_option maxRecDepth 100000

theorem l02Step_any (g gf : Nat) (cs fs : List Nat) (p b l : Nat) (hl : cs.length = 16) (hf : fs.length = 17) (hc : ∀ x ∈ cs, x ≤ 1065353216) (hfb : ∀ x ∈ fs, x ≤ 1065353216) (w : World) (Tr Tf : TypeId) (Ar : At w g (rd cs p b l) Tr) (Af : At w gf (fl fs) Tf) :
    Calls Try.prog 22 #[.pointer (some ⟨g, 0, none⟩), .pointer (some ⟨gf, 0, none⟩)] w fun e w' => e = .returned (.agg (rd (stepL cs (intoL fs) (outL fs)) p b l)) ∧ Below w.heap.size w w' := by
  have hg := Ar.lt
  have hgf := Af.lt
  have A0 := ((Ar.alloc (.cells (rd (zeros 16) 0 0 0) 28)).alloc (.cells (rd (zeros 16) 0 0 0) 28)).setRow_other (k := w.heap.size + 1) (by omega) (rd cs p b l)
  have F0 := ((Af.alloc (.cells (rd (zeros 16) 0 0 0) 28)).alloc (.cells (rd (zeros 16) 0 0 0) 28)).setRow_other (k := w.heap.size + 1) (by omega) (rd cs p b l)
  have R0 := ((At.new w (rd (zeros 16) 0 0 0) 28).alloc (.cells (rd (zeros 16) 0 0 0) 28)).setRow_other (k := w.heap.size + 1) (by omega) (rd cs p b l)
  have M0 := (At.last1 w (.cells (rd (zeros 16) 0 0 0) 28) (rd (zeros 16) 0 0 0) 28)
  have M1 := M0.setRow (rd cs p b l)
  have A00 := (Ar.alloc (.cells (rd (zeros 16) 0 0 0) 28))
  have B0 := Lib.hid (bset (bnew (b0 w (.cells (rd (zeros 16) 0 0 0) 28)) (.cells (rd (zeros 16) 0 0 0) 28)) (g := w.heap.size + 1) (by omega) (rd cs p b l))
  have HB := Lib.hid (And.intro hc hfb)
  clear hc hfb
  go_enter Try.func22, Try.ntmps22
  go_wp2_with (first | ((with_reducible refine is_load 28 _ rfl ?_); refine wpList_load_at rfl 28 _ rfl _ rfl (rd cs p b l) _ (by assumption) 19 (rd_size hl p b l) _ Try.underlying28 rfl (by kernel_rfl) ?_) | ((with_reducible refine is_store 28 (.tmp 5) (.tmp 9) rfl ?_); refine wpList_store_at rfl 28 (.tmp 5) (.tmp 9) rfl _ rfl (rd cs p b l) rfl (rd (zeros 16) 0 0 0) _ (by assumption) 19 (rd_size hl p b l) (rd_size (zeros_len 16) _ _ _) (by kernel_rfl) (fl_one _) ?_))
  clear M0 A00 Ar Af
  have BB0 := B0
  go_loopw [6] (fun i wr => ∃ k : Nat, k ≤ 16 ∧ i = .int .i64 k ∧ At wr g (rd cs p b l) Tr ∧ At wr gf (fl fs) Tf ∧ At wr w.heap.size (rd (zeros 16) 0 0 0) 28 ∧ At wr (w.heap.size + 1) (rd (mixTo (stepL cs (intoL fs) (outL fs)) cs k) p b l) 28 ∧ Hid (Below w.heap.size w wr)) (fun i _ => 16 - (intOf i).toNat)
  case atStart => exact ⟨0, by omega, rfl, A0, F0, R0, by rw [mixTo_zero]; exact M1, BB0⟩
  case round =>
    obtain ⟨k, hk, rfl, A4, F4, R4, M4, B4⟩ := hrel
    clear A0 F0 R0 M1 B0 BB0
    have hL := mixTo_len (stepL_len cs (intoL fs) (outL fs)) hl hk
    by_cases hlt : k < 16
    · have sf := step_facts (nth_le HB.out.1 k) (Nat.le_trans (nth_le HB.out.2 k) (by omega)) (nth_le HB.out.2 (k + 1))
      have f1 : ∀ t w, (binOp .add t (.float .f32 (nth cs k)) (.float .f32 (nth fs k))).run Try.prog w = .ok (.float .f32 (addB (nth cs k) (nth fs k))) w := fun t w => run_float_arith w .add t .f32 _ _ _ sf.1
      have f2 : ∀ t w, (binOp .sub t (.float .f32 (addB (nth cs k) (nth fs k))) (.float .f32 (nth fs (k + 1)))).run Try.prog w = .ok (.float .f32 (difB (addB (nth cs k) (nth fs k)) (nth fs (k + 1)))) w := fun t w => run_float_arith w .sub t .f32 _ _ _ sf.2.1
      have SG := Lib.hid sf.2.2
      clear sf
      have s2 : IntKind.i64.wrap ((k : Int) + 1) = (k : Int) + 1 := IntWalk.i64_in _ (by omega)
      have d1 := rd_cell hl p b l hlt
      have d2 := fl_get (xs := fs) (k := k) (by omega)
      have d3 := fl_get (xs := fs) (k := k + 1) (by omega)
      have hki : (k : Int) < 16 := by omega
      have hC := Cb.const wr
      go_wp2
      refine wp_region_cb_tail 23 (by kernel_rfl) (by kernel_rfl) ?_
      simp only [List.take, List.drop]
      repeat (first
        | go_big_quiet_skip
        | (go_big_quiet_want; first
          | (refine q_cell 24 _ rfl _ Try.underlying24 _ rfl A4 _ (by assumption) ?_; go_simp; go_big_quiet_on)
          | (refine q_cell 24 _ rfl _ Try.underlying24 _ rfl F4 _ (by assumption) ?_; go_simp; go_big_quiet_on)
          | (go_big_quiet_op; go_big_quiet_on)
          | (go_big_quiet_op; apply Exists.intro; refine ⟨fun w' hw' => ?_, ?_⟩; (go_at_call 44; exact (l02Held_b (difB (addB (nth cs k) (nth fs k)) (nth fs (k + 1))) SG.out _).mono fun _ _ h => ⟨h.1, hw'.step h.2⟩); go_big_quiet_on)))
      refine wpQuiet_nil ?_
      intro w9 hw9
      have A5 := A4.step hw9
      have F5 := F4.step hw9
      have R5 := R4.step hw9
      have M5 := M4.step hw9
      have B5 := Lib.hid (bthen B4.out hw9)
      clear A4 F4 R4 M4 B4 hw9 hC d1 d2 d3 f1 f2
      have G := run_store_one (P := Try.prog) w9 (w.heap.size + 1) k 28 (rd (mixTo (stepL cs (intoL fs) (outL fs)) cs k) p b l) (.float .f32 (stepC cs (intoL fs) (outL fs) k)) M5 (by rw [rd_size hL]; omega) rfl
      rw [rd_put hL p b l hlt, ← stepL_nth cs (intoL fs) (outL fs) hlt, mixTo_set (stepL_len cs (intoL fs) (outL fs)) hl hlt, stepL_nth cs (intoL fs) (outL fs) hlt, stepC, intoL_nth fs hlt, outL_nth fs hlt] at G
      have M6 := M5.setRow (rd (mixTo (stepL cs (intoL fs) (outL fs)) cs (k + 1)) p b l)
      have A6 := A5.setRow_other (k := w.heap.size + 1) (by omega) (rd (mixTo (stepL cs (intoL fs) (outL fs)) cs (k + 1)) p b l)
      have F6 := F5.setRow_other (k := w.heap.size + 1) (by omega) (rd (mixTo (stepL cs (intoL fs) (outL fs)) cs (k + 1)) p b l)
      have R6 := R5.setRow_other (k := w.heap.size + 1) (by omega) (rd (mixTo (stepL cs (intoL fs) (outL fs)) cs (k + 1)) p b l)
      have B6 := Lib.hid (bset B5.out (g := w.heap.size + 1) (by omega) (rd (mixTo (stepL cs (intoL fs) (outL fs)) cs (k + 1)) p b l))
      clear M5 A5 F5 R5 B5 hL
      go_wp2
      exact ⟨⟨k + 1, by omega, by go_num, A6, F6, R6, M6, B6⟩, by simp [intOf]; omega⟩
    · obtain rfl : k = 16 := by omega
      rw [mixTo_all (stepL_len cs (intoL fs) (outL fs)) hl] at M4
      have SZ : (rd (stepL cs (intoL fs) (outL fs)) p b l).size = 19 := rd_size (stepL_len cs (intoL fs) (outL fs)) p b l
      have R9 := R4.setRow (rd (stepL cs (intoL fs) (outL fs)) p b l)
      have B9 := Lib.hid (bset B4.out (g := w.heap.size) (Nat.le_refl _) (rd (stepL cs (intoL fs) (outL fs)) p b l))
      clear A4 F4
      go_wp2_with (first | ((with_reducible refine is_load 28 _ rfl ?_); refine wpList_load_at rfl 28 _ rfl _ rfl (rd (stepL cs (intoL fs) (outL fs)) p b l) _ (by assumption) 19 (SZ) _ Try.underlying28 rfl (by kernel_rfl) ?_) | ((with_reducible refine is_store 28 (.tmp 4) (.tmp 37) rfl ?_); refine wpList_store_at rfl 28 (.tmp 4) (.tmp 37) rfl _ rfl (rd (stepL cs (intoL fs) (outL fs)) p b l) rfl (rd (zeros 16) 0 0 0) _ (by assumption) 19 (SZ) (rd_size (zeros_len 16) _ _ _) (by kernel_rfl) (fl_one _) ?_))
      exact bodyPost_ret (v := .agg (rd (stepL cs (intoL fs) (outL fs)) p b l)) (results_at (p := 4) (ty := 28) rfl _ _ _ (rd (stepL cs (intoL fs) (outL fs)) p b l) _ rfl R9 _ Try.underlying28 rfl 19 SZ (by kernel_rfl)) rfl ⟨rfl, B9.out⟩
end Go.Proofs.Ytapnkkbkhifmeaa
