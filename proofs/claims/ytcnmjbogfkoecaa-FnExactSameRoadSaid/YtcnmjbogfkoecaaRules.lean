/-
  CONTRACTS: a road's numbers that hold for all its cells, as bits.
-/
import Derived.Test.YtcnmjbogfkoecaaMakeRoad
import Derived.Test.YtcnmjbogfkoecaaTail
import Derived.Test.YtcnmjbogfkoecaaArrEq
namespace Go.Proofs.Ytcnmjbogfkoecaa
open Go Go.RowKit

theorem numberBits_b (a : Nat) (ha : a < 4294967296) (w : World) :
    Calls Try.prog 40 #[.float .f32 a] w fun e w' => e = .returned (.int .u32 (nbits a)) ∧ Below w.heap.size w w' :=
  (numberBits_any a ha w).mono fun _ _ h => ⟨h.1, by obtain ⟨n, rfl⟩ := h.2; exact bdrew (Below.refl _ _) n⟩

theorem rulesOf_any (cs : List Nat) (p b l : Nat) (hl : cs.length = 16) (hp : p < 4294967296) (hb : b < 4294967296) (hla : l < 4294967296) (w : World) :
    Calls Try.prog 50 #[.agg (rd cs p b l)] w fun e w' => e = .returned (.agg (ub [nbits p, nbits b, nbits l])) ∧ Below w.heap.size w w' := by
  have A0 : At ((w.alloc (.cells (rd cs p b l) 31)).alloc (.cells #[.int .u32 0, .int .u32 0, .int .u32 0] 59)) w.heap.size (rd cs p b l) 31 := (At.new w _ _).alloc _
  have R0 : At ((w.alloc (.cells (rd cs p b l) 31)).alloc (.cells #[.int .u32 0, .int .u32 0, .int .u32 0] 59)) (w.heap.size + 1) #[.int .u32 0, .int .u32 0, .int .u32 0] 59 := At.new1 w _ _ _
  have B0 := Lib.hid (bnew (b0 w (.cells (rd cs p b l) 31)) (.cells #[.int .u32 0, .int .u32 0, .int .u32 0] 59))
  have d1 := rd_pace hl p b l
  have d2 := rd_back hl p b l
  have d3 := rd_lanes hl p b l
  go_enter Try.func50, Try.ntmps50
  go_wp2
  generalize (w.alloc (.cells (rd cs p b l) 31)).alloc (.cells #[.int .u32 0, .int .u32 0, .int .u32 0] 59) = w0 at A0 R0 B0 ⊢
  have hC := Cb.const w0
  refine wp_region_cb_tail 10 (by kernel_rfl) (by kernel_rfl) ?_
  simp only [List.take, List.drop]
  repeat (first
    | go_big_quiet_skip
    | (go_big_quiet_want; first
      | (refine q_cell 22 _ rfl _ Try.underlying22 _ rfl A0 _ (by assumption) ?_; go_simp; go_big_quiet_on)
      | (refine q_row 31 _ rfl rfl A0 19 (rd_size hl p b l) _ Try.underlying31 rfl (by kernel_rfl) ?_; go_simp; go_big_quiet_on)
      | (go_big_quiet_op; go_big_quiet_on)
      | (go_big_quiet_op; apply Exists.intro; refine ⟨fun w' hw' => ?_, ?_⟩; (go_at_call 40; exact (numberBits_b _ (by assumption) _).mono fun _ _ h => ⟨h.1, hw'.step h.2⟩); go_big_quiet_on)))
  refine wpQuiet_nil ?_
  intro w1 hw1
  have R1 := R0.step hw1
  have B1 := Lib.hid (bthen B0.out hw1)
  have R9 := R1.setRow (ub [nbits p, nbits b, nbits l])
  have B9 := Lib.hid (bset B1.out (g := w.heap.size + 1) (by omega) (ub [nbits p, nbits b, nbits l]))
  go_wp2_with ((with_reducible refine is_store 59 _ _ rfl ?_); refine wpList_store_at rfl 59 _ _ rfl _ rfl (ub [nbits p, nbits b, nbits l]) rfl #[.int .u32 0, .int .u32 0, .int .u32 0] _ R1 3 (ub_size _) rfl (by kernel_rfl) (ub_one _) ?_)
  exact bodyPost_ret (v := .agg (ub [nbits p, nbits b, nbits l])) (results_at (p := 2) (ty := 59) rfl _ _ _ _ _ rfl R9 _ Try.underlying59 rfl 3 (ub_size _) (by kernel_rfl)) rfl ⟨rfl, B9.out⟩
end Go.Proofs.Ytcnmjbogfkoecaa
