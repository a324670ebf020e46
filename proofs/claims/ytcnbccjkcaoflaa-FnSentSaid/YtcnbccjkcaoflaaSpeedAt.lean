/-
  CONTRACTS: SpeedAt.
-/
import Derived.Test.YtcnbccjkcaoflaaTakes
namespace Go.Proofs.Ytcnbccjkcaoflaa
open Go Go.RowKit

theorem l01Less_b (x y : Nat) (hx : x ≤ 2139095040) (hy : y ≤ 2139095040) (w : World) :
    Calls Try.prog 30 #[.float .f32 x, .float .f32 y] w fun e w' => e = .returned (.float .f32 (min x y)) ∧ Below w.heap.size w w' :=
  (l01Less_any x y hx hy w).mono fun _ _ h => ⟨h.1, by obtain ⟨n, rfl⟩ := h.2; exact Below.drewN0 _ _⟩

def leavesW (p b : Nat) (cs : List Nat) (k : Nat) : Nat := if k = 15 then sendsW p b (nth cs k) else flowW p b cs k

def speedW (p b : Nat) (cs : List Nat) (k : Nat) : Nat := if nth cs k = 0 then p else min (divB (leavesW p b cs k) (nth cs k)) p

theorem leavesW_le {cs : List Nat} {p b l k : Nat} (ok : OkR cs p b l) : leavesW p b cs k ≤ 1065353216 := by
  have := sendsW_le (b := b) ok.pace (ok.car k)
  have := flowW_le (k := k) ok
  unfold leavesW
  split <;> assumption

theorem speedW_le {cs : List Nat} {p b l k : Nat} (ok : OkR cs p b l) : speedW p b cs k ≤ 1065353216 := by
  have := ok.pace
  unfold speedW
  split <;> omega

theorem speed_facts {cs : List Nat} {p b l k : Nat} (ok : OkR cs p b l) (h : nth cs k ≠ 0) : floatBits .quo .f32 (leavesW p b cs k) (nth cs k) = some (divB (leavesW p b cs k) (nth cs k)) ∧ divB (leavesW p b cs k) (nth cs k) ≤ 2139095040 ∧ speedW p b cs k = min (divB (leavesW p b cs k) (nth cs k)) p := by
  have h1 := leavesW_le (k := k) ok
  have h2 := ok.car k
  have h3 := div_some (x := leavesW p b cs k) (y := nth cs k) (by omega) (by omega) (by omega)
  exact ⟨h3.1, h3.2, by unfold speedW; rw [if_neg h]⟩

theorem leavesAt_any (k : Nat) (hk : k < 16) (cs : List Nat) (p b l : Nat) (ok : OkR cs p b l) (w : World) :
    Calls Try.prog 26 #[.agg (rd cs p b l), .int .i64 k] w fun e w' => e = .returned (.float .f32 (leavesW p b cs k)) ∧ Below w.heap.size w w' := by
  have A0 := At.new w (rd cs p b l) 28
  by_cases c : k = 15
  · have e : leavesW p b cs k = sendsW p b (nth cs k) := by unfold leavesW; rw [if_pos c]
    have hq : ((k : Int) == 15) = true := by simp; omega
    rw [e]
    clear c e
    go_enter Try.func26, Try.ntmps26
    go_wp2_with (((with_reducible refine is_load 28 _ rfl ?_); refine wpList_load_at rfl 28 _ rfl _ rfl (rd cs p b l) _ (by assumption) 19 (rd_size ok.len p b l) _ Try.underlying28 rfl (by kernel_rfl) ?_))
    refine (sendsAt_any k hk cs p b l ok _).mono ?_
    rintro e w1 ⟨rfl, hb1⟩
    go_wp2_with fail
    go_ret
    exact ⟨rfl, bthen (b0 _ _) hb1⟩
  · have e : leavesW p b cs k = flowW p b cs k := by unfold leavesW; rw [if_neg c]
    have hq : ((k : Int) == 15) = false := by simp; omega
    rw [e]
    have hk2 : k + 1 < 16 := by omega
    clear c e
    go_enter Try.func26, Try.ntmps26
    go_wp2_with (((with_reducible refine is_load 28 _ rfl ?_); refine wpList_load_at rfl 28 _ rfl _ rfl (rd cs p b l) _ (by assumption) 19 (rd_size ok.len p b l) _ Try.underlying28 rfl (by kernel_rfl) ?_))
    refine (flowBetween_any k hk2 cs p b l ok _).mono ?_
    rintro e w1 ⟨rfl, hb1⟩
    go_wp2_with fail
    go_ret
    exact ⟨rfl, bthen (b0 _ _) hb1⟩

def vSpeedAt (cs : List Nat) (p b l : Nat) (k : Int) : Nat × Int := if okB cs p b l then (if 0 ≤ k ∧ k ≤ 15 then (speedW p b cs k.toNat, 0) else (0, 2)) else (0, 1)

theorem vSpeedAt_yes {cs : List Nat} {p b l k : Nat} (h : okB cs p b l = true) (hk : k < 16) : vSpeedAt cs p b l k = (speedW p b cs k, 0) := by unfold vSpeedAt; rw [if_pos h, if_pos (by omega), Int.toNat_natCast]

theorem vSpeedAt_no {cs : List Nat} {p b l : Nat} {k : Int} (h : okB cs p b l = false) : vSpeedAt cs p b l k = (0, 1) := by unfold vSpeedAt; rw [h]; rfl

theorem vSpeedAt_bad {cs : List Nat} {p b l : Nat} {k : Int} (h : okB cs p b l = true) (hk : ¬ (0 ≤ k ∧ k ≤ 15)) : vSpeedAt cs p b l k = (0, 2) := by unfold vSpeedAt; rw [if_pos h, if_neg hk]

theorem SpeedAt_any (cs : List Nat) (p b l : Nat) (hl : cs.length = 16) (hc : ∀ x ∈ cs, x < 4294967296) (hp : p < 4294967296) (hb : b < 4294967296) (hla : l < 4294967296) (k : Int) (_hk : -9223372036854775808 ≤ k ∧ k ≤ 9223372036854775807) (w : World) :
    Calls Try.prog 13 #[.agg (rd cs p b l), .int .i64 k] w fun e w' => e = .returned (.tuple #[.float .f32 (vSpeedAt cs p b l k).1, .int .i64 (vSpeedAt cs p b l k).2]) ∧ Below w.heap.size w w' := by
  have A0 := At.new w (rd cs p b l) 28
  clear _hk
  cases h : okB cs p b l
  · rw [vSpeedAt_no h]
    go_enter Try.func13, Try.ntmps13
    go_wp2_with (((with_reducible refine is_load 28 _ rfl ?_); refine wpList_load_at rfl 28 _ rfl _ rfl (rd cs p b l) _ (by assumption) 19 (rd_size hl p b l) _ Try.underlying28 rfl (by kernel_rfl) ?_))
    refine (ValidRoad_any cs p b l hl hc hp hb hla _).mono ?_
    rintro e w1 ⟨rfl, hb1⟩
    go_wp2_with fail
    go_ret2
    exact ⟨rfl, bthen (b0 _ _) hb1⟩
  · have ok := OkR.of hl h
    by_cases c : 0 ≤ k ∧ k ≤ 15
    · obtain ⟨n, rfl⟩ := Int.eq_ofNat_of_zero_le c.1
      have hn : n < 16 := by omega
      rw [vSpeedAt_yes h hn]
      clear c
      have he := eq_amt (x := nth cs n) (y := 0) (Nat.le_trans (ok.car n) (by omega)) (by omega)
      have d1 := rd_pace ok.len p b l
      have d2 := rd_cell ok.len p b l hn
      have hn' : (n : Int) < 16 := by omega
      by_cases z : nth cs n = 0
      · have e : speedW p b cs n = p := by unfold speedW; rw [if_pos z]
        rw [decide_eq_true z] at he
        rw [e]
        clear z e
        go_enter Try.func13, Try.ntmps13
        go_wp2_with (((with_reducible refine is_load 28 _ rfl ?_); refine wpList_load_at rfl 28 _ rfl _ rfl (rd cs p b l) _ (by assumption) 19 (rd_size hl p b l) _ Try.underlying28 rfl (by kernel_rfl) ?_))
        refine (ValidRoad_any cs p b l hl hc hp hb hla _).mono ?_
        rintro e w1 ⟨rfl, hb1⟩
        have A1 := A0.step hb1
        go_wp2_with fail
        refine (isCell_any n _).mono ?_
        rw [decide_eq_true (by omega : 0 ≤ (n : Int) ∧ (n : Int) < 16)]
        rintro e w2 ⟨rfl, n2, rfl⟩
        have q1 := A1.cell d1
        have q2 := A1.cell d2
        go_wp2
        go_ret2
        exact ⟨rfl, bdrew (bthen (b0 _ _) hb1) _⟩
      · obtain ⟨f1, f2, f3⟩ := speed_facts ok z
        rw [decide_eq_false z] at he
        have h1 : ∀ t w, (binOp .quo t (.float .f32 (leavesW p b cs n)) (.float .f32 (nth cs n))).run Try.prog w = .ok (.float .f32 (divB (leavesW p b cs n) (nth cs n))) w := fun t w => run_float_arith w .quo t .f32 _ _ _ f1
        have hm : ∀ ts t w, (Builtin.min_ ts t #[.float .f32 (divB (leavesW p b cs n) (nth cs n)), .float .f32 p]).run Try.prog w = .ok (.float .f32 (speedW p b cs n)) w := fun ts t w => by rw [f3]; exact run_min_amt w ts t f2 (Nat.le_trans ok.pace.2 (by omega))
        clear f1 f2 f3 z
        go_enter Try.func13, Try.ntmps13
        go_wp2_with (((with_reducible refine is_load 28 _ rfl ?_); refine wpList_load_at rfl 28 _ rfl _ rfl (rd cs p b l) _ (by assumption) 19 (rd_size hl p b l) _ Try.underlying28 rfl (by kernel_rfl) ?_))
        refine (ValidRoad_any cs p b l hl hc hp hb hla _).mono ?_
        rintro e w1 ⟨rfl, hb1⟩
        have A1 := A0.step hb1
        go_wp2_with fail
        refine (isCell_any n _).mono ?_
        rw [decide_eq_true (by omega : 0 ≤ (n : Int) ∧ (n : Int) < 16)]
        rintro e w2 ⟨rfl, n2, rfl⟩
        have A2 := A1.drewN n2
        have q2 := A1.cell d2
        have hC := Cb.const (w1.drewN n2)
        go_wp2
        refine wp_region_cb (by kernel_rfl) (by kernel_rfl) ?_
        repeat (first
          | go_big_quiet_skip
          | (go_big_quiet_want; first
            | (refine q_cell 24 _ rfl _ Try.underlying24 _ rfl A2 _ (by assumption) ?_; go_simp; go_big_quiet_on)
            | (refine q_row 28 _ rfl rfl A2 19 (rd_size ok.len p b l) _ Try.underlying28 rfl (by kernel_rfl) ?_; go_simp; go_big_quiet_on)
            | (go_big_quiet_op; go_big_quiet_on)
            | (go_big_quiet_op; apply Exists.intro; refine ⟨fun w' hw' => ?_, ?_⟩; (go_at_call 26; exact (leavesAt_any n hn cs p b l ok _).mono fun _ _ h => ⟨h.1, hw'.step h.2⟩); go_big_quiet_on)))
        refine wpQuiet_nil ?_
        intro w3 hw3
        go_wp2
        go_ret2
        exact ⟨rfl, bthen (bdrew (bthen (b0 _ _) hb1) n2) hw3⟩
    · rw [vSpeedAt_bad h c]
      go_enter Try.func13, Try.ntmps13
      go_wp2_with (((with_reducible refine is_load 28 _ rfl ?_); refine wpList_load_at rfl 28 _ rfl _ rfl (rd cs p b l) _ (by assumption) 19 (rd_size hl p b l) _ Try.underlying28 rfl (by kernel_rfl) ?_))
      refine (ValidRoad_any cs p b l hl hc hp hb hla _).mono ?_
      rintro e w1 ⟨rfl, hb1⟩
      go_wp2_with fail
      refine (isCell_any k _).mono ?_
      rw [decide_eq_false (by omega : ¬ (0 ≤ k ∧ k < 16))]
      rintro e w2 ⟨rfl, n2, rfl⟩
      go_wp2_with fail
      go_ret2
      exact ⟨rfl, bdrew (bthen (b0 _ _) hb1) _⟩

theorem sSpeedAt_any (cs : List Nat) (p b l : Nat) (hl : cs.length = 16) (hc : ∀ x ∈ cs, x < 4294967296) (hp : p < 4294967296) (hb : b < 4294967296) (hla : l < 4294967296) (k : Int) (_hk : -9223372036854775808 ≤ k ∧ k ≤ 9223372036854775807) (w : World) :
    Calls Try.prog 14 #[.agg (rd cs p b l), .int .i64 k] w fun e w' => e = .returned (.tuple #[.float .f32 (vSpeedAt cs p b l k).1, .int .i64 (vSpeedAt cs p b l k).2]) ∧ Below w.heap.size w w' := by
  have hr := RoadAt.new w cs p b l 28
  have A0 := At.new w (rd cs p b l) 28
  clear _hk
  cases h : okB cs p b l
  · have e : atC (okB cs p b l) k 15 = 1 := by rw [h]; rfl
    rw [vSpeedAt_no h]
    go_enter Try.func14, Try.ntmps14
    go_wp2_with fail
    refine (l01At_any _ cs p b l hl hc hp hb hla k 15 _ hr).mono ?_
    rw [e]
    rintro e w1 ⟨rfl, n1, rfl⟩
    go_wp2_with fail
    go_ret2
    exact ⟨rfl, bdrew (b0 _ _) _⟩
  · have ok := OkR.of hl h
    by_cases c : 0 ≤ k ∧ k ≤ 15
    · have e : atC (okB cs p b l) k 15 = 0 := by rw [h]; unfold atC; rw [if_pos rfl, if_pos c]
      obtain ⟨n, rfl⟩ := Int.eq_ofNat_of_zero_le c.1
      have hn : n < 16 := by omega
      rw [vSpeedAt_yes h hn]
      clear c
      have he := eq_amt (x := nth cs n) (y := 0) (Nat.le_trans (ok.car n) (by omega)) (by omega)
      have d1 := rd_pace ok.len p b l
      have d2 := rd_cell ok.len p b l hn
      have hn' : (n : Int) < 16 := by omega
      by_cases z : nth cs n = 0
      · have e2 : speedW p b cs n = p := by unfold speedW; rw [if_pos z]
        rw [decide_eq_true z] at he
        rw [e2]
        clear z e2
        go_enter Try.func14, Try.ntmps14
        go_wp2_with fail
        refine (l01At_any _ cs p b l hl hc hp hb hla n 15 _ hr).mono ?_
        rw [e]
        rintro e w1 ⟨rfl, n1, rfl⟩
        go_wp2
        go_ret2
        exact ⟨rfl, bdrew (b0 _ _) _⟩
      · obtain ⟨f1, f2, f3⟩ := speed_facts ok z
        rw [decide_eq_false z] at he
        have F2 := Lib.hid f2
        have F3 := Lib.hid f3
        have h1 : ∀ t w, (binOp .quo t (.float .f32 (leavesW p b cs n)) (.float .f32 (nth cs n))).run Try.prog w = .ok (.float .f32 (divB (leavesW p b cs n) (nth cs n))) w := fun t w => run_float_arith w .quo t .f32 _ _ _ f1
        clear f1 f2 f3 z
        by_cases y : n = 15
        · have el : Hid (leavesW p b cs n = sendsW p b (nth cs n)) := by show leavesW p b cs n = _; unfold leavesW; rw [if_pos y]
          have hlt : ¬ (n : Int) < 15 := by omega
          rw [el.out] at h1 F2 F3
          clear y
          go_enter Try.func14, Try.ntmps14
          go_wp2_with fail
          refine (l01At_any _ cs p b l hl hc hp hb hla n 15 _ hr).mono ?_
          rw [e]
          rintro e w1 ⟨rfl, n1, rfl⟩
          go_wp2_with fail
          refine (l01Sends_any _ n hn cs p b l ok _ (hr.drewN _)).mono ?_
          rintro e w2 ⟨rfl, n2, rfl⟩
          have A2 := A0.drewN (n1 + n2)
          have hC := Cb.const ((w.alloc (.cells (rd cs p b l) 28)).drewN (n1 + n2))
          go_wp2
          refine wp_region_cb (by kernel_rfl) (by kernel_rfl) ?_
          repeat (first
            | go_big_quiet_skip
            | (go_big_quiet_want; first
              | (refine q_cell 24 _ rfl _ Try.underlying24 _ rfl A2 _ (by assumption) ?_; go_simp; go_big_quiet_on)
              | (refine q_row 28 _ rfl rfl A2 19 (rd_size ok.len p b l) _ Try.underlying28 rfl (by kernel_rfl) ?_; go_simp; go_big_quiet_on)
              | (go_big_quiet_op; go_big_quiet_on)
              | (go_big_quiet_op; apply Exists.intro; refine ⟨fun w' hw' => ?_, ?_⟩; (go_at_call 30; exact (l01Less_b _ _ F2.out (Nat.le_trans ok.pace.2 (by omega)) _).mono fun _ _ h => ⟨h.1, hw'.step h.2⟩); go_big_quiet_on)))
          refine wpQuiet_nil ?_
          intro w9 hw9
          go_wp2
          go_ret2
          exact ⟨by rw [F3.out]; rfl, bthen (bdrew (b0 _ _) _) hw9⟩
        · have el : Hid (leavesW p b cs n = flowW p b cs n) := by show leavesW p b cs n = _; unfold leavesW; rw [if_neg y]
          have hlt : (n : Int) < 15 := by omega
          have hn2 : n + 1 < 16 := by omega
          rw [el.out] at h1 F2 F3
          clear y
          go_enter Try.func14, Try.ntmps14
          go_wp2_with fail
          refine (l01At_any _ cs p b l hl hc hp hb hla n 15 _ hr).mono ?_
          rw [e]
          rintro e w1 ⟨rfl, n1, rfl⟩
          go_wp2_with fail
          refine (l01Sends_any _ n hn cs p b l ok _ (hr.drewN _)).mono ?_
          rintro e w2 ⟨rfl, n2, rfl⟩
          go_wp2_with fail
          refine (l01Flow_any _ n hn2 cs p b l ok _ (hr.drewN _)).mono ?_
          rintro e w3 ⟨rfl, n3, rfl⟩
          have A2 := A0.drewN (n1 + n2 + n3)
          have hC := Cb.const ((w.alloc (.cells (rd cs p b l) 28)).drewN (n1 + n2 + n3))
          go_wp2
          refine wp_region_cb (by kernel_rfl) (by kernel_rfl) ?_
          repeat (first
            | go_big_quiet_skip
            | (go_big_quiet_want; first
              | (refine q_cell 24 _ rfl _ Try.underlying24 _ rfl A2 _ (by assumption) ?_; go_simp; go_big_quiet_on)
              | (refine q_row 28 _ rfl rfl A2 19 (rd_size ok.len p b l) _ Try.underlying28 rfl (by kernel_rfl) ?_; go_simp; go_big_quiet_on)
              | (go_big_quiet_op; go_big_quiet_on)
              | (go_big_quiet_op; apply Exists.intro; refine ⟨fun w' hw' => ?_, ?_⟩; (go_at_call 30; exact (l01Less_b _ _ F2.out (Nat.le_trans ok.pace.2 (by omega)) _).mono fun _ _ h => ⟨h.1, hw'.step h.2⟩); go_big_quiet_on)))
          refine wpQuiet_nil ?_
          intro w9 hw9
          go_wp2
          go_ret2
          exact ⟨by rw [F3.out]; rfl, bthen (bdrew (b0 _ _) _) hw9⟩
    · have e : atC (okB cs p b l) k 15 = 2 := by rw [h]; unfold atC; rw [if_pos rfl, if_neg c]
      rw [vSpeedAt_bad h c]
      go_enter Try.func14, Try.ntmps14
      go_wp2_with fail
      refine (l01At_any _ cs p b l hl hc hp hb hla k 15 _ hr).mono ?_
      rw [e]
      rintro e w1 ⟨rfl, n1, rfl⟩
      go_wp2_with fail
      go_ret2
      exact ⟨rfl, bdrew (b0 _ _) _⟩

theorem vSpeedAt_good {cs : List Nat} (hl : cs.length = 16) (p b l : Nat) (k : Int) : (vSpeedAt cs p b l k).1 < 4294967296 ∧ nanB (vSpeedAt cs p b l k).1 = false := by
  cases h : okB cs p b l
  · rw [vSpeedAt_no h]; exact ⟨by decide, by decide⟩
  · have ok := OkR.of hl h
    by_cases c : 0 ≤ k ∧ k ≤ 15
    · obtain ⟨n, rfl⟩ := Int.eq_ofNat_of_zero_le c.1
      rw [vSpeedAt_yes h (by omega)]
      exact nan_le (speedW_le ok) (by omega)
    · rw [vSpeedAt_bad h c]; exact ⟨by decide, by decide⟩
end Go.Proofs.Ytcnbccjkcaoflaa
