/-
  SEVERAL TEXTS IN ONE.
-/
import Derived.Test.YtapnkkbkhifmeaaFlow
import Derived.Test.YtapnkkbkhifmeaaG3
import Derived.IntWalk

/-
  CONTRACTS: cells: their codes.
-/
namespace Go.Proofs.Ytapnkkbkhifmeaa
open Go Go.RowKit

theorem Below.drewN0 (w : World) (n : Nat) : Below w.heap.size w (w.drewN n) := below_drewN (Below.refl _ _) n

end Go.Proofs.Ytapnkkbkhifmeaa

/-
  CONTRACTS: what cells take, what flows between two, how fast it goes.
-/
namespace Go.Proofs.Ytapnkkbkhifmeaa
open Go Go.RowKit

theorem takes_facts {b a : Nat} (hb : 1015021568 ≤ b ∧ b ≤ 1065353216) (ha : a ≤ 1065353216) : floatBits .sub .f32 1065353216 a = some (subB 1065353216 a) ∧ floatBits .mul .f32 b (subB 1065353216 a) = some (mulB b (subB 1065353216 a)) ∧ mulB b (subB 1065353216 a) ≤ 1065353216 := by
  have h := one_sub ha
  have h2 := mul_one_le hb.2 h.2
  exact ⟨h.1, h2.1, h2.2⟩

theorem l01Takes_any (g k : Nat) (hk : k < 16) (cs : List Nat) (p b l : Nat) (ok : OkR cs p b l) (w : World) (hr : RoadAt w g cs p b l) :
    Calls Try.prog 41 #[.pointer (some ⟨g, 0, none⟩), .int .i64 k] w (Rd (.float .f32 (takesW p b (nth cs k))) w) := by
  have c17 := hr.back ok.len
  have ck := hr.car ok.len hk
  have tf := takes_facts ok.back (ok.car k)
  have hmo := mostW_le ok.pace ok.back
  have h0 : ∀ t w, (binOp .sub t (.float .f32 1065353216) (.float .f32 (nth cs k))).run Try.prog w = .ok (.float .f32 (subB 1065353216 (nth cs k))) w := fun t w => run_float_arith w .sub t .f32 _ _ _ tf.1
  have h1 : ∀ t w, (binOp .mul t (.float .f32 b) (.float .f32 (subB 1065353216 (nth cs k)))).run Try.prog w = .ok (.float .f32 (mulB b (subB 1065353216 (nth cs k)))) w := fun t w => run_float_arith w .mul t .f32 _ _ _ tf.2.1
  have hk' : (k : Int) < 16 := by omega
  have hle := Lib.hid tf.2.2
  have hmo' := Lib.hid hmo
  clear tf hmo
  go_enter Try.func41, Try.ntmps41
  go_wp2
  go_quiet ((first | (go_at_call 60; exact Calls.quiet_of (l01Most_any g cs p b l ok _ (hr.drewN _))) | (go_at_call 40; exact Calls.quiet_of (l01Less_any _ _ (Nat.le_trans hle.out (by omega)) (Nat.le_trans hmo'.out (by omega)) _))))
  go_wp2
  go_ret
  exact Rd.mkN

theorem takesAt_any (k : Nat) (hk : k < 16) (cs : List Nat) (p b l : Nat) (ok : OkR cs p b l) (w : World) :
    Calls Try.prog 47 #[.agg (rd cs p b l), .int .i64 k] w fun e w' => e = .returned (.float .f32 (takesW p b (nth cs k))) ∧ Below w.heap.size w w' := by
  have A0 := At.new w (rd cs p b l) 28
  have d1 := rd_back ok.len p b l
  have d2 := rd_cell ok.len p b l hk
  have tf := takes_facts ok.back (ok.car k)
  have hmo := mostW_le ok.pace ok.back
  have h0 : ∀ t w, (binOp .sub t (.float .f32 1065353216) (.float .f32 (nth cs k))).run Try.prog w = .ok (.float .f32 (subB 1065353216 (nth cs k))) w := fun t w => run_float_arith w .sub t .f32 _ _ _ tf.1
  have h1 : ∀ t w, (binOp .mul t (.float .f32 b) (.float .f32 (subB 1065353216 (nth cs k)))).run Try.prog w = .ok (.float .f32 (mulB b (subB 1065353216 (nth cs k)))) w := fun t w => run_float_arith w .mul t .f32 _ _ _ tf.2.1
  have hk' : (k : Int) < 16 := by omega
  have h2 : ∀ ts t w, (Builtin.min_ ts t #[.float .f32 (mulB b (subB 1065353216 (nth cs k))), .float .f32 (mostW p b)]).run Try.prog w = .ok (.float .f32 (takesW p b (nth cs k))) w := fun ts t w => run_min_amt w ts t (Nat.le_trans tf.2.2 (by omega)) (Nat.le_trans hmo (by omega))
  have hC := Cb.const (w.alloc (.cells (rd cs p b l) 28))
  clear tf hmo
  go_enter Try.func47, Try.ntmps47
  go_wp2
  refine wp_region_cb (by kernel_rfl) (by kernel_rfl) ?_
  repeat (first
    | go_big_quiet_skip
    | (go_big_quiet_want; first
      | (refine q_cell 24 _ rfl _ Try.underlying24 _ rfl A0 _ (by assumption) ?_; go_simp; go_big_quiet_on)
      | (refine q_row 28 _ rfl rfl A0 19 (rd_size ok.len p b l) _ Try.underlying28 rfl (by kernel_rfl) ?_; go_simp; go_big_quiet_on)
      | (go_big_quiet_op; go_big_quiet_on)
      | (go_big_quiet_op; apply Exists.intro; refine ⟨fun w' hw' => ?_, ?_⟩; (go_at_call 62; exact (mostFlow_any cs p b l ok _).mono fun _ _ h => ⟨h.1, hw'.step h.2⟩); go_big_quiet_on)))
  refine wpQuiet_nil ?_
  intro w1 hw1
  go_wp2
  go_ret
  exact ⟨rfl, bthen (b0 _ _) hw1⟩

/-- the same for a cell that is told as a sum -/
theorem takesAt_int (k : Nat) (hk : k + 1 < 16) (cs : List Nat) (p b l : Nat) (ok : OkR cs p b l) (w : World) :
    Calls Try.prog 47 #[.agg (rd cs p b l), .int .i64 ((k : Int) + 1)] w fun e w' => e = .returned (.float .f32 (takesW p b (nth cs (k + 1)))) ∧ Below w.heap.size w w' := takesAt_any (k + 1) hk cs p b l ok w

theorem l01Takes_int (g k : Nat) (hk : k + 1 < 16) (cs : List Nat) (p b l : Nat) (ok : OkR cs p b l) (w : World) (hr : RoadAt w g cs p b l) :
    Calls Try.prog 41 #[.pointer (some ⟨g, 0, none⟩), .int .i64 ((k : Int) + 1)] w (Rd (.float .f32 (takesW p b (nth cs (k + 1)))) w) := l01Takes_any g (k + 1) hk cs p b l ok w hr

def flowW (p b : Nat) (cs : List Nat) (k : Nat) : Nat := min (sendsW p b (nth cs k)) (takesW p b (nth cs (k + 1)))

theorem flowW_le {cs : List Nat} {p b l k : Nat} (ok : OkR cs p b l) : flowW p b cs k ≤ 1065353216 := by have := sendsW_le (b := b) ok.pace (ok.car k); unfold flowW; omega

theorem l01Flow_any (g k : Nat) (hk : k + 1 < 16) (cs : List Nat) (p b l : Nat) (ok : OkR cs p b l) (w : World) (hr : RoadAt w g cs p b l) :
    Calls Try.prog 42 #[.pointer (some ⟨g, 0, none⟩), .int .i64 k] w (Rd (.float .f32 (flowW p b cs k)) w) := by
  have h1 := sendsW_le (b := b) ok.pace (ok.car k)
  have h2 := takesW_le (a := nth cs (k + 1)) ok.pace ok.back
  have hk' : (k : Int) < 15 := by omega
  have H1 := Lib.hid h1
  have H2 := Lib.hid h2
  clear h1 h2
  go_enter Try.func42, Try.ntmps42
  go_wp2_with fail
  refine (l01Sends_any g k (by omega) cs p b l ok _ hr).mono ?_
  rintro e w1 ⟨rfl, n1, rfl⟩
  go_wp2_with fail
  refine (l01Takes_int g k hk cs p b l ok _ (hr.drewN _)).mono ?_
  rintro e w2 ⟨rfl, n2, rfl⟩
  go_wp2_with fail
  refine (l01Less_any _ _ (Nat.le_trans H1.out (by omega)) (Nat.le_trans H2.out (by omega)) _).mono ?_
  rintro e w3 ⟨rfl, n3, rfl⟩
  go_wp2_with fail
  go_ret
  exact Rd.mkN

theorem flowBetween_any (k : Nat) (hk : k + 1 < 16) (cs : List Nat) (p b l : Nat) (ok : OkR cs p b l) (w : World) :
    Calls Try.prog 48 #[.agg (rd cs p b l), .int .i64 k] w fun e w' => e = .returned (.float .f32 (flowW p b cs k)) ∧ Below w.heap.size w w' := by
  have A0 := At.new w (rd cs p b l) 28
  have h1 := sendsW_le (b := b) ok.pace (ok.car k)
  have h2 := takesW_le (a := nth cs (k + 1)) ok.pace ok.back
  have hm : ∀ ts t w, (Builtin.min_ ts t #[.float .f32 (sendsW p b (nth cs k)), .float .f32 (takesW p b (nth cs (k + 1)))]).run Try.prog w = .ok (.float .f32 (flowW p b cs k)) w := fun ts t w => run_min_amt w ts t (Nat.le_trans h1 (by omega)) (Nat.le_trans h2 (by omega))
  have hk' : (k : Int) < 15 := by omega
  have hs : IntKind.i64.wrap ((k : Int) + 1) = (k : Int) + 1 := IntWalk.i64_in _ (by omega)
  have hC := Cb.const (w.alloc (.cells (rd cs p b l) 28))
  clear h1 h2
  go_enter Try.func48, Try.ntmps48
  go_wp2
  refine wp_region_cb (by kernel_rfl) (by kernel_rfl) ?_
  repeat (first
    | go_big_quiet_skip
    | (go_big_quiet_want; first
      | (refine q_cell 24 _ rfl _ Try.underlying24 _ rfl A0 _ (by assumption) ?_; go_simp; go_big_quiet_on)
      | (refine q_row 28 _ rfl rfl A0 19 (rd_size ok.len p b l) _ Try.underlying28 rfl (by kernel_rfl) ?_; go_simp; go_big_quiet_on)
      | (go_big_quiet_op; go_big_quiet_on)
      | (go_big_quiet_op; apply Exists.intro; refine ⟨fun w' hw' => ?_, ?_⟩; (go_at_call 49; exact (sendsAt_any k (Nat.lt_of_succ_lt hk) cs p b l ok _).mono fun _ _ h => ⟨h.1, hw'.step h.2⟩); go_big_quiet_on)
      | (go_big_quiet_op; apply Exists.intro; refine ⟨fun w' hw' => ?_, ?_⟩; (go_at_call 47; exact (takesAt_int k hk cs p b l ok _).mono fun _ _ h => ⟨h.1, hw'.step h.2⟩); go_big_quiet_on)))
  refine wpQuiet_nil ?_
  intro w1 hw1
  clear hs
  go_wp2
  go_ret
  exact ⟨rfl, bthen (b0 _ _) hw1⟩
end Go.Proofs.Ytapnkkbkhifmeaa

/-
  CONTRACTS: SpeedAt.
-/
namespace Go.Proofs.Ytapnkkbkhifmeaa
open Go Go.RowKit

theorem l01Less_b (x y : Nat) (hx : x ≤ 2139095040) (hy : y ≤ 2139095040) (w : World) :
    Calls Try.prog 40 #[.float .f32 x, .float .f32 y] w fun e w' => e = .returned (.float .f32 (min x y)) ∧ Below w.heap.size w w' :=
  (l01Less_any x y hx hy w).mono fun _ _ h => ⟨h.1, by obtain ⟨n, rfl⟩ := h.2; exact Below.drewN0 _ _⟩

def leavesW (p b : Nat) (cs : List Nat) (k : Nat) : Nat := if k = 15 then sendsW p b (nth cs k) else flowW p b cs k

def speedW (p b : Nat) (cs : List Nat) (k : Nat) : Nat := if nth cs k = 0 then p else min (divB (leavesW p b cs k) (nth cs k)) p

theorem leavesW_le {cs : List Nat} {p b l k : Nat} (ok : OkR cs p b l) : leavesW p b cs k ≤ 1065353216 := by
  have := sendsW_le (b := b) ok.pace (ok.car k)
  have := flowW_le (k := k) ok
  unfold leavesW
  split <;> assumption

theorem speedW_le {cs : List Nat} {p b l k : Nat} (ok : OkR cs p b l) : speedW p b cs k ≤ 1065353216 := by
  have := ok.pace
  unfold speedW
  split <;> omega

theorem speed_facts {cs : List Nat} {p b l k : Nat} (ok : OkR cs p b l) (h : nth cs k ≠ 0) : floatBits .quo .f32 (leavesW p b cs k) (nth cs k) = some (divB (leavesW p b cs k) (nth cs k)) ∧ divB (leavesW p b cs k) (nth cs k) ≤ 2139095040 ∧ speedW p b cs k = min (divB (leavesW p b cs k) (nth cs k)) p := by
  have h1 := leavesW_le (k := k) ok
  have h2 := ok.car k
  have h3 := div_some (x := leavesW p b cs k) (y := nth cs k) (by omega) (by omega) (by omega)
  exact ⟨h3.1, h3.2, by unfold speedW; rw [if_neg h]⟩

def vSpeedAt (cs : List Nat) (p b l : Nat) (k : Int) : Nat × Int := if okB cs p b l then (if 0 ≤ k ∧ k ≤ 15 then (speedW p b cs k.toNat, 0) else (0, 2)) else (0, 1)

theorem vSpeedAt_yes {cs : List Nat} {p b l k : Nat} (h : okB cs p b l = true) (hk : k < 16) : vSpeedAt cs p b l k = (speedW p b cs k, 0) := by unfold vSpeedAt; rw [if_pos h, if_pos (by omega), Int.toNat_natCast]

theorem vSpeedAt_no {cs : List Nat} {p b l : Nat} {k : Int} (h : okB cs p b l = false) : vSpeedAt cs p b l k = (0, 1) := by unfold vSpeedAt; rw [h]; rfl

theorem vSpeedAt_bad {cs : List Nat} {p b l : Nat} {k : Int} (h : okB cs p b l = true) (hk : ¬ (0 ≤ k ∧ k ≤ 15)) : vSpeedAt cs p b l k = (0, 2) := by unfold vSpeedAt; rw [if_pos h, if_neg hk]

theorem vSpeedAt_good {cs : List Nat} (hl : cs.length = 16) (p b l : Nat) (k : Int) : (vSpeedAt cs p b l k).1 < 4294967296 ∧ nanB (vSpeedAt cs p b l k).1 = false := by
  cases h : okB cs p b l
  · rw [vSpeedAt_no h]; exact ⟨by decide, by decide⟩
  · have ok := OkR.of hl h
    by_cases c : 0 ≤ k ∧ k ≤ 15
    · obtain ⟨n, rfl⟩ := Int.eq_ofNat_of_zero_le c.1
      rw [vSpeedAt_yes h (by omega)]
      exact nan_le (speedW_le ok) (by omega)
    · rw [vSpeedAt_bad h c]; exact ⟨by decide, by decide⟩
end Go.Proofs.Ytapnkkbkhifmeaa
