/-
  CONTRACTS: SameJunction, the program's.
-/
import Derived.Test.YtboahhipobcabaaBits
namespace Go.Proofs.Ytboahhipobcabaa
open Go Go.RowKit
set_option maxRecDepth 100000

set_option maxHeartbeats 2000000 in
theorem SameJunction_b (i o : Int) (ts ps : List Nat) (hi : -9223372036854775808 ≤ i ∧ i ≤ 9223372036854775807) (ho : -9223372036854775808 ≤ o ∧ o ≤ 9223372036854775807) (hlt : ts.length = 16) (hlp : ps.length = 4) (hct : ∀ x ∈ ts, x < 4294967296) (hcp : ∀ x ∈ ps, x < 4294967296) (i' o' : Int) (ts' ps' : List Nat) (hi' : -9223372036854775808 ≤ i' ∧ i' ≤ 9223372036854775807) (ho' : -9223372036854775808 ≤ o' ∧ o' ≤ 9223372036854775807) (hlt' : ts'.length = 16) (hlp' : ps'.length = 4) (hct' : ∀ x ∈ ts', x < 4294967296) (hcp' : ∀ x ∈ ps', x < 4294967296) (w : World) :
    Calls Try.prog 71 #[.agg (jn i o ts ps), .agg (jn i' o' ts' ps')] w fun e w' => e = .returned (.bool (sameJ i o ts ps i' o' ts' ps')) ∧ Below w.heap.size w w' := by
  have A0 : At ((w.alloc (.cells (jn i o ts ps) 72)).alloc (.cells (jn i' o' ts' ps') 72)) w.heap.size (jn i o ts ps) 72 := (At.new w _ _).alloc _
  have E0 : At ((w.alloc (.cells (jn i o ts ps) 72)).alloc (.cells (jn i' o' ts' ps') 72)) (w.heap.size + 1) (jn i' o' ts' ps') 72 := At.last1 w _ _ _
  have B0 := Lib.hid (bnew (b0 w (.cells (jn i o ts ps) 72)) (.cells (jn i' o' ts' ps') 72))
  have SA := jn_size hlt hlp i o
  have SE := jn_size hlt' hlp' i' o'
  have KT := flowBits_any ts hlt hct
  have KT' := flowBits_any ts' hlt' hct'
  have KP := fourBits_any ps hlp hcp
  have KP' := fourBits_any ps' hlp' hcp'
  have f1 : ∀ t W, (binOp .eql t (.int .i64 i) (.int .i64 i')).run Try.prog W = .ok (.bool (i == i')) W := fun t W => run_eql_i64 W t i i'
  have f2 : ∀ t W, (binOp .eql t (.int .i64 o) (.int .i64 o')).run Try.prog W = .ok (.bool (o == o')) W := fun t W => run_eql_i64 W t o o'
  have f3 : ∀ W, (binOp .eql 172 (.agg (ub (ts.map nbits))) (.agg (ub (ts'.map nbits)))).run Try.prog W = .ok (.bool (decide (ts.map nbits = ts'.map nbits))) W := fun W => run_eql_u32ss W 172 171 130 _ _ Try.underlying172 Try.underlying171 (by kernel_rfl) Try.underlying130 (by kernel_rfl) (by simp [hlt]) (by simp [hlt'])
  have f4 : ∀ W, (binOp .eql 171 (.agg (ub (ps.map nbits))) (.agg (ub (ps'.map nbits)))).run Try.prog W = .ok (.bool (decide (ps.map nbits = ps'.map nbits))) W := fun W => run_eql_u32s W 171 130 4 _ _ Try.underlying171 Try.underlying130 (by kernel_rfl) (by simp [hlp]) (by simp [hlp'])
  clear hi ho hi' ho'
  unfold sameJ
  cases h1 : (i == i') <;> rw [h1] at f1
  · skip
    go_enter Try.func71, Try.ntmps71
    go_wp2
    generalize ((w.alloc (.cells (jn i o ts ps) 72)).alloc (.cells (jn i' o' ts' ps') 72)) = w0 at A0 E0 B0 ⊢
    have hC := Cb.const w0
    refine wp_region_cb (by kernel_rfl) (by kernel_rfl) ?_
    repeat (first
      | go_big_quiet_skip
      | (go_big_quiet_want; first
        | (refine q_oneB 2 _ rfl _ Try.underlying2 rfl 0 rfl A0 (.int .i64 i) (jn_ins i o ts ps) ?_; go_simp; go_big_quiet_on)
        | (refine q_oneB 2 _ rfl _ Try.underlying2 rfl 1 rfl A0 (.int .i64 o) (jn_outs i o ts ps) ?_; go_simp; go_big_quiet_on)
        | (refine q_oneB 2 _ rfl _ Try.underlying2 rfl 0 rfl E0 (.int .i64 i') (jn_ins i' o' ts' ps') ?_; go_simp; go_big_quiet_on)
        | (refine q_oneB 2 _ rfl _ Try.underlying2 rfl 1 rfl E0 (.int .i64 o') (jn_outs i' o' ts' ps') ?_; go_simp; go_big_quiet_on)
        | (refine q_part 69 _ rfl 2 rfl A0 16 (by rw [SA]; omega) _ Try.underlying69 rfl (by kernel_rfl) (fl ts) (jn_turns hlt hlp i o) ?_; go_simp; go_big_quiet_on)
        | (refine q_part 69 _ rfl 2 rfl E0 16 (by rw [SE]; omega) _ Try.underlying69 rfl (by kernel_rfl) (fl ts') (jn_turns hlt' hlp' i' o') ?_; go_simp; go_big_quiet_on)
        | (refine q_part 70 _ rfl 18 rfl A0 4 (by rw [SA]; omega) _ Try.underlying70 rfl (by kernel_rfl) (fl ps) (jn_priors hlt hlp i o) ?_; go_simp; go_big_quiet_on)
        | (refine q_part 70 _ rfl 18 rfl E0 4 (by rw [SE]; omega) _ Try.underlying70 rfl (by kernel_rfl) (fl ps') (jn_priors hlt' hlp' i' o') ?_; go_simp; go_big_quiet_on)
        | (go_big_quiet_op; go_big_quiet_on)
        | (go_big_quiet_op; apply Exists.intro; refine ⟨fun w' hw' => ?_, ?_⟩; (go_at_call 108; (with_reducible show Calls _ _ #[.agg (fl ts)] _ _); exact (KT _).mono fun _ _ h => ⟨h.1, hw'.step h.2⟩); go_big_quiet_on)
        | (go_big_quiet_op; apply Exists.intro; refine ⟨fun w' hw' => ?_, ?_⟩; (go_at_call 108; (with_reducible show Calls _ _ #[.agg (fl ts')] _ _); exact (KT' _).mono fun _ _ h => ⟨h.1, hw'.step h.2⟩); go_big_quiet_on)
        | (go_big_quiet_op; apply Exists.intro; refine ⟨fun w' hw' => ?_, ?_⟩; (go_at_call 109; (with_reducible show Calls _ _ #[.agg (fl ps)] _ _); exact (KP _).mono fun _ _ h => ⟨h.1, hw'.step h.2⟩); go_big_quiet_on)
        | (go_big_quiet_op; apply Exists.intro; refine ⟨fun w' hw' => ?_, ?_⟩; (go_at_call 109; (with_reducible show Calls _ _ #[.agg (fl ps')] _ _); exact (KP' _).mono fun _ _ h => ⟨h.1, hw'.step h.2⟩); go_big_quiet_on)))
    refine wpQuiet_nil ?_
    intro w1 hw1
    go_wp2
    go_ret
    exact ⟨rfl, bthen B0.out hw1⟩
  cases h2 : (o == o') <;> rw [h2] at f2
  · skip
    go_enter Try.func71, Try.ntmps71
    go_wp2
    generalize ((w.alloc (.cells (jn i o ts ps) 72)).alloc (.cells (jn i' o' ts' ps') 72)) = w0 at A0 E0 B0 ⊢
    have hC := Cb.const w0
    refine wp_region_cb (by kernel_rfl) (by kernel_rfl) ?_
    repeat (first
      | go_big_quiet_skip
      | (go_big_quiet_want; first
        | (refine q_oneB 2 _ rfl _ Try.underlying2 rfl 0 rfl A0 (.int .i64 i) (jn_ins i o ts ps) ?_; go_simp; go_big_quiet_on)
        | (refine q_oneB 2 _ rfl _ Try.underlying2 rfl 1 rfl A0 (.int .i64 o) (jn_outs i o ts ps) ?_; go_simp; go_big_quiet_on)
        | (refine q_oneB 2 _ rfl _ Try.underlying2 rfl 0 rfl E0 (.int .i64 i') (jn_ins i' o' ts' ps') ?_; go_simp; go_big_quiet_on)
        | (refine q_oneB 2 _ rfl _ Try.underlying2 rfl 1 rfl E0 (.int .i64 o') (jn_outs i' o' ts' ps') ?_; go_simp; go_big_quiet_on)
        | (refine q_part 69 _ rfl 2 rfl A0 16 (by rw [SA]; omega) _ Try.underlying69 rfl (by kernel_rfl) (fl ts) (jn_turns hlt hlp i o) ?_; go_simp; go_big_quiet_on)
        | (refine q_part 69 _ rfl 2 rfl E0 16 (by rw [SE]; omega) _ Try.underlying69 rfl (by kernel_rfl) (fl ts') (jn_turns hlt' hlp' i' o') ?_; go_simp; go_big_quiet_on)
        | (refine q_part 70 _ rfl 18 rfl A0 4 (by rw [SA]; omega) _ Try.underlying70 rfl (by kernel_rfl) (fl ps) (jn_priors hlt hlp i o) ?_; go_simp; go_big_quiet_on)
        | (refine q_part 70 _ rfl 18 rfl E0 4 (by rw [SE]; omega) _ Try.underlying70 rfl (by kernel_rfl) (fl ps') (jn_priors hlt' hlp' i' o') ?_; go_simp; go_big_quiet_on)
        | (go_big_quiet_op; go_big_quiet_on)
        | (go_big_quiet_op; apply Exists.intro; refine ⟨fun w' hw' => ?_, ?_⟩; (go_at_call 108; (with_reducible show Calls _ _ #[.agg (fl ts)] _ _); exact (KT _).mono fun _ _ h => ⟨h.1, hw'.step h.2⟩); go_big_quiet_on)
        | (go_big_quiet_op; apply Exists.intro; refine ⟨fun w' hw' => ?_, ?_⟩; (go_at_call 108; (with_reducible show Calls _ _ #[.agg (fl ts')] _ _); exact (KT' _).mono fun _ _ h => ⟨h.1, hw'.step h.2⟩); go_big_quiet_on)
        | (go_big_quiet_op; apply Exists.intro; refine ⟨fun w' hw' => ?_, ?_⟩; (go_at_call 109; (with_reducible show Calls _ _ #[.agg (fl ps)] _ _); exact (KP _).mono fun _ _ h => ⟨h.1, hw'.step h.2⟩); go_big_quiet_on)
        | (go_big_quiet_op; apply Exists.intro; refine ⟨fun w' hw' => ?_, ?_⟩; (go_at_call 109; (with_reducible show Calls _ _ #[.agg (fl ps')] _ _); exact (KP' _).mono fun _ _ h => ⟨h.1, hw'.step h.2⟩); go_big_quiet_on)))
    refine wpQuiet_nil ?_
    intro w1 hw1
    go_wp2
    go_ret
    exact ⟨rfl, bthen B0.out hw1⟩
  cases h3 : decide (ts.map nbits = ts'.map nbits) <;> rw [h3] at f3
  · skip
    go_enter Try.func71, Try.ntmps71
    go_wp2
    generalize ((w.alloc (.cells (jn i o ts ps) 72)).alloc (.cells (jn i' o' ts' ps') 72)) = w0 at A0 E0 B0 ⊢
    have hC := Cb.const w0
    refine wp_region_cb (by kernel_rfl) (by kernel_rfl) ?_
    repeat (first
      | go_big_quiet_skip
      | (go_big_quiet_want; first
        | (refine q_oneB 2 _ rfl _ Try.underlying2 rfl 0 rfl A0 (.int .i64 i) (jn_ins i o ts ps) ?_; go_simp; go_big_quiet_on)
        | (refine q_oneB 2 _ rfl _ Try.underlying2 rfl 1 rfl A0 (.int .i64 o) (jn_outs i o ts ps) ?_; go_simp; go_big_quiet_on)
        | (refine q_oneB 2 _ rfl _ Try.underlying2 rfl 0 rfl E0 (.int .i64 i') (jn_ins i' o' ts' ps') ?_; go_simp; go_big_quiet_on)
        | (refine q_oneB 2 _ rfl _ Try.underlying2 rfl 1 rfl E0 (.int .i64 o') (jn_outs i' o' ts' ps') ?_; go_simp; go_big_quiet_on)
        | (refine q_part 69 _ rfl 2 rfl A0 16 (by rw [SA]; omega) _ Try.underlying69 rfl (by kernel_rfl) (fl ts) (jn_turns hlt hlp i o) ?_; go_simp; go_big_quiet_on)
        | (refine q_part 69 _ rfl 2 rfl E0 16 (by rw [SE]; omega) _ Try.underlying69 rfl (by kernel_rfl) (fl ts') (jn_turns hlt' hlp' i' o') ?_; go_simp; go_big_quiet_on)
        | (refine q_part 70 _ rfl 18 rfl A0 4 (by rw [SA]; omega) _ Try.underlying70 rfl (by kernel_rfl) (fl ps) (jn_priors hlt hlp i o) ?_; go_simp; go_big_quiet_on)
        | (refine q_part 70 _ rfl 18 rfl E0 4 (by rw [SE]; omega) _ Try.underlying70 rfl (by kernel_rfl) (fl ps') (jn_priors hlt' hlp' i' o') ?_; go_simp; go_big_quiet_on)
        | (go_big_quiet_op; go_big_quiet_on)
        | (go_big_quiet_op; apply Exists.intro; refine ⟨fun w' hw' => ?_, ?_⟩; (go_at_call 108; (with_reducible show Calls _ _ #[.agg (fl ts)] _ _); exact (KT _).mono fun _ _ h => ⟨h.1, hw'.step h.2⟩); go_big_quiet_on)
        | (go_big_quiet_op; apply Exists.intro; refine ⟨fun w' hw' => ?_, ?_⟩; (go_at_call 108; (with_reducible show Calls _ _ #[.agg (fl ts')] _ _); exact (KT' _).mono fun _ _ h => ⟨h.1, hw'.step h.2⟩); go_big_quiet_on)
        | (go_big_quiet_op; apply Exists.intro; refine ⟨fun w' hw' => ?_, ?_⟩; (go_at_call 109; (with_reducible show Calls _ _ #[.agg (fl ps)] _ _); exact (KP _).mono fun _ _ h => ⟨h.1, hw'.step h.2⟩); go_big_quiet_on)
        | (go_big_quiet_op; apply Exists.intro; refine ⟨fun w' hw' => ?_, ?_⟩; (go_at_call 109; (with_reducible show Calls _ _ #[.agg (fl ps')] _ _); exact (KP' _).mono fun _ _ h => ⟨h.1, hw'.step h.2⟩); go_big_quiet_on)))
    refine wpQuiet_nil ?_
    intro w1 hw1
    go_wp2
    go_ret
    exact ⟨rfl, bthen B0.out hw1⟩
  generalize decide (ps.map nbits = ps'.map nbits) = b4 at f4 ⊢
  go_enter Try.func71, Try.ntmps71
  go_wp2
  generalize ((w.alloc (.cells (jn i o ts ps) 72)).alloc (.cells (jn i' o' ts' ps') 72)) = w0 at A0 E0 B0 ⊢
  have hC := Cb.const w0
  refine wp_region_cb (by kernel_rfl) (by kernel_rfl) ?_
  repeat (first
    | go_big_quiet_skip
    | (go_big_quiet_want; first
      | (refine q_oneB 2 _ rfl _ Try.underlying2 rfl 0 rfl A0 (.int .i64 i) (jn_ins i o ts ps) ?_; go_simp; go_big_quiet_on)
      | (refine q_oneB 2 _ rfl _ Try.underlying2 rfl 1 rfl A0 (.int .i64 o) (jn_outs i o ts ps) ?_; go_simp; go_big_quiet_on)
      | (refine q_oneB 2 _ rfl _ Try.underlying2 rfl 0 rfl E0 (.int .i64 i') (jn_ins i' o' ts' ps') ?_; go_simp; go_big_quiet_on)
      | (refine q_oneB 2 _ rfl _ Try.underlying2 rfl 1 rfl E0 (.int .i64 o') (jn_outs i' o' ts' ps') ?_; go_simp; go_big_quiet_on)
      | (refine q_part 69 _ rfl 2 rfl A0 16 (by rw [SA]; omega) _ Try.underlying69 rfl (by kernel_rfl) (fl ts) (jn_turns hlt hlp i o) ?_; go_simp; go_big_quiet_on)
      | (refine q_part 69 _ rfl 2 rfl E0 16 (by rw [SE]; omega) _ Try.underlying69 rfl (by kernel_rfl) (fl ts') (jn_turns hlt' hlp' i' o') ?_; go_simp; go_big_quiet_on)
      | (refine q_part 70 _ rfl 18 rfl A0 4 (by rw [SA]; omega) _ Try.underlying70 rfl (by kernel_rfl) (fl ps) (jn_priors hlt hlp i o) ?_; go_simp; go_big_quiet_on)
      | (refine q_part 70 _ rfl 18 rfl E0 4 (by rw [SE]; omega) _ Try.underlying70 rfl (by kernel_rfl) (fl ps') (jn_priors hlt' hlp' i' o') ?_; go_simp; go_big_quiet_on)
      | (go_big_quiet_op; go_big_quiet_on)
      | (go_big_quiet_op; apply Exists.intro; refine ⟨fun w' hw' => ?_, ?_⟩; (go_at_call 108; (with_reducible show Calls _ _ #[.agg (fl ts)] _ _); exact (KT _).mono fun _ _ h => ⟨h.1, hw'.step h.2⟩); go_big_quiet_on)
      | (go_big_quiet_op; apply Exists.intro; refine ⟨fun w' hw' => ?_, ?_⟩; (go_at_call 108; (with_reducible show Calls _ _ #[.agg (fl ts')] _ _); exact (KT' _).mono fun _ _ h => ⟨h.1, hw'.step h.2⟩); go_big_quiet_on)
      | (go_big_quiet_op; apply Exists.intro; refine ⟨fun w' hw' => ?_, ?_⟩; (go_at_call 109; (with_reducible show Calls _ _ #[.agg (fl ps)] _ _); exact (KP _).mono fun _ _ h => ⟨h.1, hw'.step h.2⟩); go_big_quiet_on)
      | (go_big_quiet_op; apply Exists.intro; refine ⟨fun w' hw' => ?_, ?_⟩; (go_at_call 109; (with_reducible show Calls _ _ #[.agg (fl ps')] _ _); exact (KP' _).mono fun _ _ h => ⟨h.1, hw'.step h.2⟩); go_big_quiet_on)))
  refine wpQuiet_nil ?_
  intro w1 hw1
  go_wp2
  go_ret
  exact ⟨by simp, bthen B0.out hw1⟩

end Go.Proofs.Ytboahhipobcabaa
