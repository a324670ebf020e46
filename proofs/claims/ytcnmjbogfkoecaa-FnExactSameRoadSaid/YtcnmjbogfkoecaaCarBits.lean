/-
  CONTRACTS: a road's shares, as bits.
-/
import Derived.Test.YtcnmjbogfkoecaaRules
namespace Go.Proofs.Ytcnmjbogfkoecaa
open Go Go.RowKit

theorem nth_map {cs : List Nat} (f : Nat → Nat) {k : Nat} (h : k < cs.length) : nth (cs.map f) k = f (nth cs k) := by
  simp [nth, List.getD, List.getElem?_map, List.getElem?_eq_getElem h]

theorem carBits_any (cs : List Nat) (hl : cs.length = 16) (hc : ∀ x ∈ cs, x < 4294967296) (w : World) :
    Calls Try.prog 49 #[.agg (fl cs)] w fun e w' => e = .returned (.agg (ub (cs.map nbits))) ∧ Below w.heap.size w w' := by
  have hm : (cs.map nbits).length = 16 := by simp [hl]
  have A0 : At (((w.alloc (.cells (fl cs) 29)).alloc (.cells (ub (zeros 16)) 56)).alloc (.cells (ub (cur (cs.map nbits) 0)) 56)) w.heap.size (fl cs) 29 := ((At.new w _ _).alloc _).alloc _
  have R0 : At (((w.alloc (.cells (fl cs) 29)).alloc (.cells (ub (zeros 16)) 56)).alloc (.cells (ub (cur (cs.map nbits) 0)) 56)) (w.heap.size + 1) (ub (zeros 16)) 56 := (At.new1 w _ _ _).alloc _
  have O0 : At (((w.alloc (.cells (fl cs) 29)).alloc (.cells (ub (zeros 16)) 56)).alloc (.cells (ub (cur (cs.map nbits) 0)) 56)) (w.heap.size + 1 + 1) (ub (cur (cs.map nbits) 0)) 56 := by
    have := At.new ((w.alloc (.cells (fl cs) 29)).alloc (.cells (ub (zeros 16)) 56)) (ub (cur (cs.map nbits) 0)) 56
    rwa [World.size_alloc, World.size_alloc] at this
  have B0 := Lib.hid (bnew (bnew (b0 w (.cells (fl cs) 29)) (.cells (ub (zeros 16)) 56)) (.cells (ub (cur (cs.map nbits) 0)) 56))
  have SZ : (fl cs).size = 16 := by rw [fl_size, hl]
  have HS := Lib.hid SZ
  have HM := Lib.hid hm
  clear SZ hm
  go_enter Try.func49, Try.ntmps49
  go_wp2_with ((with_reducible refine is_load 29 _ rfl ?_); refine wpList_load_at rfl 29 _ rfl _ rfl (fl cs) _ (by assumption) 16 HS.out _ Try.underlying29 rfl (by kernel_rfl) ?_)
  go_loopw [7] (fun i wr => ∃ k : Nat, k ≤ 16 ∧ i = .int .i64 k ∧ At wr w.heap.size (fl cs) 29 ∧ At wr (w.heap.size + 1) (ub (zeros 16)) 56 ∧ At wr (w.heap.size + 1 + 1) (ub (cur (cs.map nbits) k)) 56 ∧ Hid (Below w.heap.size w wr)) (fun i _ => 16 - (intOf i).toNat)
  case atStart => exact ⟨0, by omega, rfl, A0, R0, O0, B0⟩
  case round =>
    obtain ⟨k, hk, rfl, A1, R1, O1, B1⟩ := hrel
    clear A0 R0 O0 B0
    by_cases hlt : k < 16
    · have hi : ∀ W, (Instr.index 29 (.agg (fl cs)) (.int .i64 k)).run Try.prog W = .ok (.float .f32 (nth cs k)) W := fun W =>
        run_index_fl W 29 22 16 cs k Try.underlying29 Try.underlying22 (by kernel_rfl) hlt hl.symm
      have hx := u32_lt hc k
      go_wp2_with fail
      refine (numberBits_any _ hx _).mono ?_
      rintro e w2 ⟨rfl, n2, rfl⟩
      have A2 := A1.drewN n2
      have R2 := R1.drewN n2
      have O2 := O1.drewN n2
      have B2 := Lib.hid (bdrew B1.out n2)
      generalize wr.drewN n2 = w2 at A2 R2 O2 B2 ⊢
      clear A1 R1 O1 B1 hi
      have G := Lib.hid (run_storeAt_one (P := Try.prog) w2 (w.heap.size + 1 + 1) k 56 49 (ub (cur (cs.map nbits) k)) (.int .u32 (nbits (nth cs k) : Nat)) O2 (by kernel_rfl) (by rw [ub_size, cur_len HM.out k hk]; exact hlt) rfl)
      rw [ub_set, show nbits (nth cs k) = nth (cs.map nbits) k from (nth_map nbits (by omega)).symm, cur_set HM.out hlt, nth_map nbits (by omega)] at G
      have A3 := A2.setRow_other (k := w.heap.size + 1 + 1) (by omega) (ub (cur (cs.map nbits) (k + 1)))
      have R3 := R2.setRow_other (k := w.heap.size + 1 + 1) (by omega) (ub (cur (cs.map nbits) (k + 1)))
      have O3 := O2.setRow (ub (cur (cs.map nbits) (k + 1)))
      have B3 := Lib.hid (bset B2.out (g := w.heap.size + 1 + 1) (by omega) (ub (cur (cs.map nbits) (k + 1))))
      clear A2 R2 O2 B2
      go_wp2_with ((with_reducible refine is_store 49 _ _ rfl ?_); refine wpList_store_of rfl 49 _ _ rfl _ rfl _ rfl _ G.out ?_)
      exact ⟨⟨k + 1, by omega, by go_num, A3, R3, O3, B3⟩, by simp [intOf]; omega⟩
    · obtain rfl : k = 16 := by omega
      rw [cur_all HM.out] at O1
      have R9 := R1.setRow (ub (cs.map nbits))
      have B9 := Lib.hid (bset B1.out (g := w.heap.size + 1) (by omega) (ub (cs.map nbits)))
      have SU : (ub (cs.map nbits)).size = 16 := by rw [ub_size]; exact HM.out
      have HU := Lib.hid SU
      clear SU
      go_wp2_with (first | ((with_reducible refine is_load 56 _ rfl ?_); refine wpList_load_at rfl 56 _ rfl _ rfl (ub (cs.map nbits)) _ (by assumption) 16 HU.out _ Try.underlying56 rfl (by kernel_rfl) ?_) | ((with_reducible refine is_store 56 _ _ rfl ?_); refine wpList_store_at rfl 56 _ _ rfl _ rfl (ub (cs.map nbits)) rfl (ub (zeros 16)) _ (by assumption) 16 HU.out (ub_size _) (by kernel_rfl) (ub_one _) ?_))
      exact bodyPost_ret (v := .agg (ub (cs.map nbits))) (results_at (p := 2) (ty := 56) rfl _ _ _ _ _ rfl R9 _ Try.underlying56 rfl 16 HU.out (by kernel_rfl)) rfl ⟨rfl, B9.out⟩
end Go.Proofs.Ytcnmjbogfkoecaa
