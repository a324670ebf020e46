/-
  SEVERAL TEXTS IN ONE.
-/
import Derived.Test.YtiaflomabgnmaaaG9
import Derived.Test.YtiaflomabgnmaaaG4
import Derived.IntWalk
import Derived.Test.YtiaflomabgnmaaaRefuse
import Derived.Deep.LoopGhost

/-
  CONTRACTS: cells: their codes.
-/
namespace Go.Proofs.Ytiaflomabgnmaaa
open Go Go.RowKit

theorem Below.drewN0 (w : World) (n : Nat) : Below w.heap.size w (w.drewN n) := below_drewN (Below.refl _ _) n

end Go.Proofs.Ytiaflomabgnmaaa

/-
  CONTRACTS: what cells take, what flows between two, how fast it goes.
-/
namespace Go.Proofs.Ytiaflomabgnmaaa
open Go Go.RowKit

theorem takes_facts {b a : Nat} (hb : 1015021568 ≤ b ∧ b ≤ 1065353216) (ha : a ≤ 1065353216) : floatBits .sub .f32 1065353216 a = some (subB 1065353216 a) ∧ floatBits .mul .f32 b (subB 1065353216 a) = some (mulB b (subB 1065353216 a)) ∧ mulB b (subB 1065353216 a) ≤ 1065353216 := by
  have h := one_sub ha
  have h2 := mul_one_le hb.2 h.2
  exact ⟨h.1, h2.1, h2.2⟩

theorem takesAt_any (k : Nat) (hk : k < 16) (cs : List Nat) (p b l : Nat) (ok : OkR cs p b l) (w : World) :
    Calls Try.prog 52 #[.agg (rd cs p b l), .int .i64 k] w fun e w' => e = .returned (.float .f32 (takesW p b (nth cs k))) ∧ Below w.heap.size w w' := by
  have A0 := At.new w (rd cs p b l) 28
  have d1 := rd_back ok.len p b l
  have d2 := rd_cell ok.len p b l hk
  have tf := takes_facts ok.back (ok.car k)
  have hmo := mostW_le ok.pace ok.back
  have h0 : ∀ t w, (binOp .sub t (.float .f32 1065353216) (.float .f32 (nth cs k))).run Try.prog w = .ok (.float .f32 (subB 1065353216 (nth cs k))) w := fun t w => run_float_arith w .sub t .f32 _ _ _ tf.1
  have h1 : ∀ t w, (binOp .mul t (.float .f32 b) (.float .f32 (subB 1065353216 (nth cs k)))).run Try.prog w = .ok (.float .f32 (mulB b (subB 1065353216 (nth cs k)))) w := fun t w => run_float_arith w .mul t .f32 _ _ _ tf.2.1
  have hk' : (k : Int) < 16 := by omega
  have h2 : ∀ ts t w, (Builtin.min_ ts t #[.float .f32 (mulB b (subB 1065353216 (nth cs k))), .float .f32 (mostW p b)]).run Try.prog w = .ok (.float .f32 (takesW p b (nth cs k))) w := fun ts t w => run_min_amt w ts t (Nat.le_trans tf.2.2 (by omega)) (Nat.le_trans hmo (by omega))
  have hC := Cb.const (w.alloc (.cells (rd cs p b l) 28))
  clear tf hmo
  go_enter Try.func52, Try.ntmps52
  go_wp2
  refine wp_region_cb (by kernel_rfl) (by kernel_rfl) ?_
  repeat (first
    | go_big_quiet_skip
    | (go_big_quiet_want; first
      | (refine q_cell 24 _ rfl _ Try.underlying24 _ rfl A0 _ (by assumption) ?_; go_simp; go_big_quiet_on)
      | (refine q_row 28 _ rfl rfl A0 19 (rd_size ok.len p b l) _ Try.underlying28 rfl (by kernel_rfl) ?_; go_simp; go_big_quiet_on)
      | (go_big_quiet_op; go_big_quiet_on)
      | (go_big_quiet_op; apply Exists.intro; refine ⟨fun w' hw' => ?_, ?_⟩; (go_at_call 18; exact (mostFlow_any cs p b l ok _).mono fun _ _ h => ⟨h.1, hw'.step h.2⟩); go_big_quiet_on)))
  refine wpQuiet_nil ?_
  intro w1 hw1
  go_wp2
  go_ret
  exact ⟨rfl, bthen (b0 _ _) hw1⟩

/-- the same for a cell that is told as a sum -/
theorem takesAt_int (k : Nat) (hk : k + 1 < 16) (cs : List Nat) (p b l : Nat) (ok : OkR cs p b l) (w : World) :
    Calls Try.prog 52 #[.agg (rd cs p b l), .int .i64 ((k : Int) + 1)] w fun e w' => e = .returned (.float .f32 (takesW p b (nth cs (k + 1)))) ∧ Below w.heap.size w w' := takesAt_any (k + 1) hk cs p b l ok w

def flowW (p b : Nat) (cs : List Nat) (k : Nat) : Nat := min (sendsW p b (nth cs k)) (takesW p b (nth cs (k + 1)))

theorem flowW_le {cs : List Nat} {p b l k : Nat} (ok : OkR cs p b l) : flowW p b cs k ≤ 1065353216 := by have := sendsW_le (b := b) ok.pace (ok.car k); unfold flowW; omega

theorem flowBetween_any (k : Nat) (hk : k + 1 < 16) (cs : List Nat) (p b l : Nat) (ok : OkR cs p b l) (w : World) :
    Calls Try.prog 53 #[.agg (rd cs p b l), .int .i64 k] w fun e w' => e = .returned (.float .f32 (flowW p b cs k)) ∧ Below w.heap.size w w' := by
  have A0 := At.new w (rd cs p b l) 28
  have h1 := sendsW_le (b := b) ok.pace (ok.car k)
  have h2 := takesW_le (a := nth cs (k + 1)) ok.pace ok.back
  have hm : ∀ ts t w, (Builtin.min_ ts t #[.float .f32 (sendsW p b (nth cs k)), .float .f32 (takesW p b (nth cs (k + 1)))]).run Try.prog w = .ok (.float .f32 (flowW p b cs k)) w := fun ts t w => run_min_amt w ts t (Nat.le_trans h1 (by omega)) (Nat.le_trans h2 (by omega))
  have hk' : (k : Int) < 15 := by omega
  have hs : IntKind.i64.wrap ((k : Int) + 1) = (k : Int) + 1 := IntWalk.i64_in _ (by omega)
  have hC := Cb.const (w.alloc (.cells (rd cs p b l) 28))
  clear h1 h2
  go_enter Try.func53, Try.ntmps53
  go_wp2
  refine wp_region_cb (by kernel_rfl) (by kernel_rfl) ?_
  repeat (first
    | go_big_quiet_skip
    | (go_big_quiet_want; first
      | (refine q_cell 24 _ rfl _ Try.underlying24 _ rfl A0 _ (by assumption) ?_; go_simp; go_big_quiet_on)
      | (refine q_row 28 _ rfl rfl A0 19 (rd_size ok.len p b l) _ Try.underlying28 rfl (by kernel_rfl) ?_; go_simp; go_big_quiet_on)
      | (go_big_quiet_op; go_big_quiet_on)
      | (go_big_quiet_op; apply Exists.intro; refine ⟨fun w' hw' => ?_, ?_⟩; (go_at_call 54; exact (sendsAt_any k (Nat.lt_of_succ_lt hk) cs p b l ok _).mono fun _ _ h => ⟨h.1, hw'.step h.2⟩); go_big_quiet_on)
      | (go_big_quiet_op; apply Exists.intro; refine ⟨fun w' hw' => ?_, ?_⟩; (go_at_call 52; exact (takesAt_int k hk cs p b l ok _).mono fun _ _ h => ⟨h.1, hw'.step h.2⟩); go_big_quiet_on)))
  refine wpQuiet_nil ?_
  intro w1 hw1
  clear hs
  go_wp2
  go_ret
  exact ⟨rfl, bthen (b0 _ _) hw1⟩
end Go.Proofs.Ytiaflomabgnmaaa

/-
  CONTRACTS: SpeedAt.
-/
namespace Go.Proofs.Ytiaflomabgnmaaa
open Go Go.RowKit

def leavesW (p b : Nat) (cs : List Nat) (k : Nat) : Nat := if k = 15 then sendsW p b (nth cs k) else flowW p b cs k

def speedW (p b : Nat) (cs : List Nat) (k : Nat) : Nat := if nth cs k = 0 then p else min (divB (leavesW p b cs k) (nth cs k)) p

theorem leavesW_le {cs : List Nat} {p b l k : Nat} (ok : OkR cs p b l) : leavesW p b cs k ≤ 1065353216 := by
  have := sendsW_le (b := b) ok.pace (ok.car k)
  have := flowW_le (k := k) ok
  unfold leavesW
  split <;> assumption

theorem speedW_le {cs : List Nat} {p b l k : Nat} (ok : OkR cs p b l) : speedW p b cs k ≤ 1065353216 := by
  have := ok.pace
  unfold speedW
  split <;> omega

theorem speed_facts {cs : List Nat} {p b l k : Nat} (ok : OkR cs p b l) (h : nth cs k ≠ 0) : floatBits .quo .f32 (leavesW p b cs k) (nth cs k) = some (divB (leavesW p b cs k) (nth cs k)) ∧ divB (leavesW p b cs k) (nth cs k) ≤ 2139095040 ∧ speedW p b cs k = min (divB (leavesW p b cs k) (nth cs k)) p := by
  have h1 := leavesW_le (k := k) ok
  have h2 := ok.car k
  have h3 := div_some (x := leavesW p b cs k) (y := nth cs k) (by omega) (by omega) (by omega)
  exact ⟨h3.1, h3.2, by unfold speedW; rw [if_neg h]⟩

def vSpeedAt (cs : List Nat) (p b l : Nat) (k : Int) : Nat × Int := if okB cs p b l then (if 0 ≤ k ∧ k ≤ 15 then (speedW p b cs k.toNat, 0) else (0, 2)) else (0, 1)

theorem vSpeedAt_yes {cs : List Nat} {p b l k : Nat} (h : okB cs p b l = true) (hk : k < 16) : vSpeedAt cs p b l k = (speedW p b cs k, 0) := by unfold vSpeedAt; rw [if_pos h, if_pos (by omega), Int.toNat_natCast]

theorem vSpeedAt_no {cs : List Nat} {p b l : Nat} {k : Int} (h : okB cs p b l = false) : vSpeedAt cs p b l k = (0, 1) := by unfold vSpeedAt; rw [h]; rfl

theorem vSpeedAt_bad {cs : List Nat} {p b l : Nat} {k : Int} (h : okB cs p b l = true) (hk : ¬ (0 ≤ k ∧ k ≤ 15)) : vSpeedAt cs p b l k = (0, 2) := by unfold vSpeedAt; rw [if_pos h, if_neg hk]

theorem vSpeedAt_good {cs : List Nat} (hl : cs.length = 16) (p b l : Nat) (k : Int) : (vSpeedAt cs p b l k).1 < 4294967296 ∧ nanB (vSpeedAt cs p b l k).1 = false := by
  cases h : okB cs p b l
  · rw [vSpeedAt_no h]; exact ⟨by decide, by decide⟩
  · have ok := OkR.of hl h
    by_cases c : 0 ≤ k ∧ k ≤ 15
    · obtain ⟨n, rfl⟩ := Int.eq_ofNat_of_zero_le c.1
      rw [vSpeedAt_yes h (by omega)]
      exact nan_le (speedW_le ok) (by omega)
    · rw [vSpeedAt_bad h c]; exact ⟨by decide, by decide⟩
end Go.Proofs.Ytiaflomabgnmaaa

/-
  CONTRACTS: the flows of a step.
-/
namespace Go.Proofs.Ytiaflomabgnmaaa
open Go Go.RowKit
set_option maxRecDepth 100000

/-- the code of a road and of two amounts -/
def givenC (ok : Bool) (o m : Nat) : Int := if ok then (if amtB o && amtB m then 0 else 2) else 1

/-- the flows of a step -/
def fluxL (p b : Nat) (cs : List Nat) (o m : Nat) : List Nat := rowOf 17 fun k => if k = 0 then min o (takesW p b (nth cs 0)) else if k = 16 then min (sendsW p b (nth cs 15)) m else flowW p b cs (k - 1)

theorem fluxL_len (p b : Nat) (cs : List Nat) (o m : Nat) : (fluxL p b cs o m).length = 17 := rowOf_len _ _

theorem fluxL_0 (p b : Nat) (cs : List Nat) (o m : Nat) : nth (fluxL p b cs o m) 0 = min o (takesW p b (nth cs 0)) := by
  unfold fluxL; rw [rowOf_nth 17 _ (by omega), if_pos rfl]

theorem fluxL_16 (p b : Nat) (cs : List Nat) (o m : Nat) : nth (fluxL p b cs o m) 16 = min (sendsW p b (nth cs 15)) m := by
  unfold fluxL; rw [rowOf_nth 17 _ (by omega), if_neg (by omega), if_pos rfl]

theorem fluxL_mid (p b : Nat) (cs : List Nat) (o m : Nat) {k : Nat} (hk : k < 15) : nth (fluxL p b cs o m) (k + 1) = flowW p b cs k := by
  unfold fluxL; rw [rowOf_nth 17 _ (by omega), if_neg (by omega), if_neg (by omega), Nat.add_sub_cancel]

theorem fluxL_le {cs : List Nat} {p b l : Nat} (ok : OkR cs p b l) (o m : Nat) : ∀ x ∈ fluxL p b cs o m, x ≤ 1065353216 := by
  intro x hx
  obtain ⟨k, -, rfl⟩ := rowOf_mem hx
  have h1 := sendsW_le (b := b) ok.pace (ok.car 15)
  have h2 := takesW_le (a := nth cs 0) ok.pace ok.back
  have h3 := flowW_le (k := k - 1) ok
  by_cases c : k = 0
  · rw [if_pos c]; omega
  · rw [if_neg c]
    by_cases c2 : k = 16
    · rw [if_pos c2]; omega
    · rw [if_neg c2]; exact h3

theorem nth_le {xs : List Nat} {c : Nat} (h : ∀ x ∈ xs, x ≤ c) (k : Nat) : nth xs k ≤ c := by
  show (xs[k]?).getD 0 ≤ c
  by_cases hk : k < xs.length
  · rw [List.getElem?_eq_getElem hk, Option.getD_some]; exact h _ (List.getElem_mem hk)
  · rw [List.getElem?_eq_none (by omega)]; exact Nat.zero_le _

theorem fluxesOf_any (cs : List Nat) (p b l : Nat) (ok : OkR cs p b l) (o m : Nat) (ho : o < 2139095040) (hm : m < 2139095040) (w : World) :
    Calls Try.prog 48 #[.agg (rd cs p b l), .float .f32 o, .float .f32 m] w fun e w' => e = .returned (.agg (fl (fluxL p b cs o m))) ∧ Below w.heap.size w w' := by
  have hl := ok.len
  obtain ⟨ns, hns⟩ : ∃ ns, ns = fluxL p b cs o m := ⟨_, rfl⟩
  have hn17 : ns.length = 17 := by rw [hns]; exact fluxL_len _ _ _ _ _
  have e0 : nth ns 0 = min o (takesW p b (nth cs 0)) := by rw [hns]; exact fluxL_0 _ _ _ _ _
  have e16 : nth ns 16 = min (sendsW p b (nth cs 15)) m := by rw [hns]; exact fluxL_16 _ _ _ _ _
  have em : ∀ k, k < 15 → nth ns (k + 1) = flowW p b cs k := fun k hk => by rw [hns]; exact fluxL_mid _ _ _ _ _ hk
  have HE := Lib.hid (And.intro e0 (And.intro e16 (And.intro em hns)))
  rw [← hns]
  clear e0 e16 em hns
  have h1 := sendsW_le (b := b) ok.pace (ok.car 15)
  have h2 := takesW_le (a := nth cs 0) ok.pace ok.back
  have A0 : At (((w.alloc (.cells (rd cs p b l) 28)).alloc (.cells (fl (zeros 17)) 65)).alloc (.cells (fl (zeros 17)) 65)) w.heap.size (rd cs p b l) 28 := ((At.new w _ _).alloc _).alloc _
  have R0 : At (((w.alloc (.cells (rd cs p b l) 28)).alloc (.cells (fl (zeros 17)) 65)).alloc (.cells (fl (zeros 17)) 65)) (w.heap.size + 1) (fl (zeros 17)) 65 := (At.last1 w _ _ _).alloc _
  have L0 : At (((w.alloc (.cells (rd cs p b l) 28)).alloc (.cells (fl (zeros 17)) 65)).alloc (.cells (fl (zeros 17)) 65)) (w.heap.size + 1 + 1) (fl (zeros 17)) 65 := At.last2 w _ _ _ _
  have B0 := Lib.hid (bnew (bnew (b0 w (.cells (rd cs p b l) 28)) (.cells (fl (zeros 17)) 65)) (.cells (fl (zeros 17)) 65))
  have m0 : ∀ ts t w, (Builtin.min_ ts t #[.float .f32 o, .float .f32 (takesW p b (nth cs 0))]).run Try.prog w = .ok (.float .f32 (nth ns 0)) w := fun ts t w => by rw [HE.out.1]; exact run_min_amt w ts t (by omega) (by omega)
  have m16 : ∀ ts t w, (Builtin.min_ ts t #[.float .f32 (sendsW p b (nth cs 15)), .float .f32 m]).run Try.prog w = .ok (.float .f32 (nth ns 16)) w := fun ts t w => by rw [HE.out.2.1]; exact run_min_amt w ts t (by omega) (by omega)
  clear h1 h2
  go_enter Try.func48, Try.ntmps48
  go_wp2_with (((with_reducible refine is_load 28 _ rfl ?_); refine wpList_load_at rfl 28 _ rfl _ rfl (rd cs p b l) _ (by assumption) 19 (rd_size hl p b l) _ Try.underlying28 rfl (by kernel_rfl) ?_))
  refine (takesAt_any 0 (by omega) cs p b l ok _).mono ?_
  rintro e w1 ⟨rfl, hb1⟩
  have A1 := A0.step hb1
  have R1 := R0.step hb1
  have L1 := L0.step hb1
  have B1 := Lib.hid (bthen B0.out hb1)
  clear A0 R0 L0 B0 hb1
  have G0 := run_store_one (P := Try.prog) w1 (w.heap.size + 1 + 1) 0 65 (fl (zeros 17)) (.float .f32 (nth ns 0)) L1 (by rw [fl_size, zeros_len]; omega) rfl
  have e1 : (zeros 17).set 0 (nth ns 0) = mixTo ns (zeros 17) (0 + 1) := by
    rw [← mixTo_set hn17 (zeros_len 17) (by omega), mixTo_zero]
  rw [fl_set, e1] at G0
  have A2 := A1.setRow_other (k := w.heap.size + 1 + 1) (by omega) (fl (mixTo ns (zeros 17) (0 + 1)))
  have R2 := R1.setRow_other (k := w.heap.size + 1 + 1) (by omega) (fl (mixTo ns (zeros 17) (0 + 1)))
  have L2 := L1.setRow (fl (mixTo ns (zeros 17) (0 + 1)))
  have B2 := Lib.hid (bset B1.out (g := w.heap.size + 1 + 1) (by omega) (fl (mixTo ns (zeros 17) (0 + 1))))
  have E1 := Lib.hid e1
  clear A1 R1 L1 B1 e1
  go_wp2
  have BB2 := B2
  go_loopw [14] (fun i wr => ∃ k : Nat, k ≤ 15 ∧ i = .int .i64 k ∧ At wr w.heap.size (rd cs p b l) 28 ∧ At wr (w.heap.size + 1) (fl (zeros 17)) 65 ∧ At wr (w.heap.size + 1 + 1) (fl (mixTo ns (zeros 17) (k + 1))) 65 ∧ Hid (Below w.heap.size w wr)) (fun i _ => 16 - (intOf i).toNat)
  case atStart => exact ⟨0, by omega, rfl, A2, R2, L2, BB2⟩
  case round =>
    obtain ⟨k, hk, rfl, A4, R4, L4, B4⟩ := hrel
    clear A2 R2 L2 B2 BB2 G0
    by_cases hlt : k < 15
    · have s2 : IntKind.i64.wrap ((k : Int) + 1) = (k : Int) + 1 := IntWalk.i64_in _ (by omega)
      have hki : (k : Int) < 15 := by omega
      go_wp2_with (((with_reducible refine is_load 28 _ rfl ?_); refine wpList_load_at rfl 28 _ rfl _ rfl (rd cs p b l) _ (by assumption) 19 (rd_size hl p b l) _ Try.underlying28 rfl (by kernel_rfl) ?_))
      refine (flowBetween_any k (by omega) cs p b l ok _).mono ?_
      rintro e w5 ⟨rfl, hb5⟩
      have A5 := A4.step hb5
      have R5 := R4.step hb5
      have L5 := L4.step hb5
      have B5 := Lib.hid (bthen B4.out hb5)
      clear A4 R4 L4 B4 hb5
      have G := run_store_one (P := Try.prog) w5 (w.heap.size + 1 + 1) (k + 1) 65 (fl (mixTo ns (zeros 17) (k + 1))) (.float .f32 (flowW p b cs k)) L5 (by rw [fl_size, mixTo_len hn17 (zeros_len 17) (by omega)]; omega) rfl
      rw [fl_set, ← HE.out.2.2.1 k hlt, mixTo_set hn17 (zeros_len 17) (by omega), HE.out.2.2.1 k hlt] at G
      have A6 := A5.setRow_other (k := w.heap.size + 1 + 1) (by omega) (fl (mixTo ns (zeros 17) (k + 1 + 1)))
      have R6 := R5.setRow_other (k := w.heap.size + 1 + 1) (by omega) (fl (mixTo ns (zeros 17) (k + 1 + 1)))
      have L6 := L5.setRow (fl (mixTo ns (zeros 17) (k + 1 + 1)))
      have B6 := Lib.hid (bset B5.out (g := w.heap.size + 1 + 1) (by omega) (fl (mixTo ns (zeros 17) (k + 1 + 1))))
      clear A5 R5 L5 B5
      go_wp2
      exact ⟨⟨k + 1, by omega, by go_num, A6, R6, L6, B6⟩, by simp [intOf]; omega⟩
    · obtain rfl : k = 15 := by omega
      go_wp2_with (((with_reducible refine is_load 28 _ rfl ?_); refine wpList_load_at rfl 28 _ rfl _ rfl (rd cs p b l) _ (by assumption) 19 (rd_size hl p b l) _ Try.underlying28 rfl (by kernel_rfl) ?_))
      refine (sendsAt_any 15 (by omega) cs p b l ok _).mono ?_
      rintro e w5 ⟨rfl, hb5⟩
      have R5 := R4.step hb5
      have L5 := L4.step hb5
      have B5 := Lib.hid (bthen B4.out hb5)
      clear A4 R4 L4 B4 hb5
      have G := run_store_one (P := Try.prog) w5 (w.heap.size + 1 + 1) 16 65 (fl (mixTo ns (zeros 17) (15 + 1))) (.float .f32 (nth ns 16)) L5 (by rw [fl_size, mixTo_len hn17 (zeros_len 17) (by omega)]; omega) rfl
      rw [fl_set, mixTo_set hn17 (zeros_len 17) (by omega), mixTo_all hn17 (zeros_len 17)] at G
      have R6 := R5.setRow_other (k := w.heap.size + 1 + 1) (by omega) (fl ns)
      have L6 := L5.setRow (fl ns)
      have B6 := Lib.hid (bset B5.out (g := w.heap.size + 1 + 1) (by omega) (fl ns))
      have SZ : (fl ns).size = 17 := by rw [fl_size, hn17]
      have R9 := R6.setRow (fl ns)
      have B9 := Lib.hid (bset B6.out (g := w.heap.size + 1) (by omega) (fl ns))
      clear R5 L5 B5 B6
      go_wp2_with (first | ((with_reducible refine is_load 65 _ rfl ?_); refine wpList_load_at rfl 65 _ rfl _ rfl (fl ns) _ (by assumption) 17 SZ _ Try.underlying65 rfl (by kernel_rfl) ?_) | ((with_reducible refine is_store 65 (.tmp 6) (.tmp 29) rfl ?_); refine wpList_store_at rfl 65 (.tmp 6) (.tmp 29) rfl _ rfl (fl ns) rfl (fl (zeros 17)) _ (by assumption) 17 SZ (by rw [fl_size, zeros_len]) (by kernel_rfl) (fl_one _) ?_))
      exact bodyPost_ret (v := .agg (fl ns)) (results_at (p := 6) (ty := 65) rfl _ _ _ (fl ns) _ rfl R9 _ Try.underlying65 rfl 17 SZ (by kernel_rfl)) rfl ⟨rfl, B9.out⟩
end Go.Proofs.Ytiaflomabgnmaaa
