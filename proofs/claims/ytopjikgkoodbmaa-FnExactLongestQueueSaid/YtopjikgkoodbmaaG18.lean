/-
  SEVERAL TEXTS IN ONE.
-/
import Derived.Test.YtopjikgkoodbmaaG3
import Derived.Test.YtopjikgkoodbmaaG4
import Derived.Test.YtopjikgkoodbmaaArith
import Derived.Test.YtopjikgkoodbmaaEq
import Derived.Test.YtopjikgkoodbmaaG17

/-
  CONTRACTS: the best share, the most flow, what cells send and take.
-/
namespace Go.Proofs.Ytopjikgkoodbmaa
open Go Go.RowKit

structure OkR (cs : List Nat) (p b l : Nat) : Prop where
  len : cs.length = 16
  cars : ∀ x ∈ cs, x ≤ 1065353216
  pace : 1015021568 ≤ p ∧ p ≤ 1065353216
  back : 1015021568 ≤ b ∧ b ≤ 1065353216
  lanes : 1048576000 ≤ l ∧ l ≤ 1090519040
theorem OkR.of {cs : List Nat} {p b l : Nat} (hl : cs.length = 16) (h : okB cs p b l = true) : OkR cs p b l := by
  unfold okB paceB lanesB at h
  simp only [Bool.and_eq_true, List.all_eq_true, decide_eq_true_eq] at h
  obtain ⟨⟨⟨h1, h2⟩, h3⟩, h4⟩ := h
  exact ⟨hl, fun x hx => by have := h1 x hx; unfold shrB at this; simpa using this, h2, h3, h4⟩
theorem OkR.car {cs : List Nat} {p b l : Nat} (h : OkR cs p b l) (k : Nat) : nth cs k ≤ 1065353216 := by
  unfold nth
  rw [List.getD_eq_getElem?_getD]
  cases e : cs[k]? with
  | none => simp
  | some v => exact h.cars v (List.mem_of_getElem? e)

def bestW (p b : Nat) : Nat := divB b (addB p b)
def mostW (p b : Nat) : Nat := mulB p (bestW p b)
def sendsW (p b a : Nat) : Nat := min (mulB p a) (mostW p b)
def takesW (p b a : Nat) : Nat := min (mulB b (subB 1065353216 a)) (mostW p b)

section
variable {p b : Nat} (hp : 1015021568 ≤ p ∧ p ≤ 1065353216) (hb : 1015021568 ≤ b ∧ b ≤ 1065353216)
include hp hb
theorem best_add : floatBits .add .f32 p b = some (addB p b) := (add_eq (by omega) (by omega)).1
theorem best_quo : floatBits .quo .f32 b (addB p b) = some (bestW p b) := by
  have := sum_rule hp hb
  exact (div_some (by omega) (by omega) (by omega)).1
theorem bestW_le : bestW p b ≤ 1065353216 := best_le hp hb
theorem most_mul : floatBits .mul .f32 p (bestW p b) = some (mostW p b) := by
  have := bestW_le hp hb
  exact (mul_eq (by omega) (by omega)).1
theorem mostW_le : mostW p b ≤ 1065353216 := by
  have := bestW_le hp hb
  have := mul_share hp.2 (y := bestW p b) (by omega)
  unfold mostW; omega
end

theorem l01Best_any (g : Nat) (cs : List Nat) (p b l : Nat) (ok : OkR cs p b l) (w : World) (hr : RoadAt w g cs p b l) :
    Calls Try.prog 90 #[.pointer (some ⟨g, 0, none⟩)] w (Rd (.float .f32 (bestW p b)) w) := by
  have c16 := hr.pace ok.len
  have c17 := hr.back ok.len
  have h1 : ∀ t w, (binOp .add t (.float .f32 p) (.float .f32 b)).run Try.prog w = .ok (.float .f32 (addB p b)) w := fun t w => run_float_arith w .add t .f32 _ _ _ (best_add ok.pace ok.back)
  have h2 : ∀ t w, (binOp .quo t (.float .f32 b) (.float .f32 (addB p b))).run Try.prog w = .ok (.float .f32 (bestW p b)) w := fun t w => run_float_arith w .quo t .f32 _ _ _ (best_quo ok.pace ok.back)
  clear hr ok
  go_enter Try.func90, Try.ntmps90
  go_wp2
  go_quiet (fail)
  go_wp2
  go_ret
  exact Rd.mkN

theorem bestShare_any (cs : List Nat) (p b l : Nat) (ok : OkR cs p b l) (w : World) :
    Calls Try.prog 92 #[.agg (rd cs p b l)] w fun e w' => e = .returned (.float .f32 (bestW p b)) ∧ Below w.heap.size w w' := by
  have c16 := (At.new w (rd cs p b l) 75).cell (rd_pace ok.len p b l)
  have c17 := (At.new w (rd cs p b l) 75).cell (rd_back ok.len p b l)
  have h1 : ∀ t w, (binOp .add t (.float .f32 p) (.float .f32 b)).run Try.prog w = .ok (.float .f32 (addB p b)) w := fun t w => run_float_arith w .add t .f32 _ _ _ (best_add ok.pace ok.back)
  have h2 : ∀ t w, (binOp .quo t (.float .f32 b) (.float .f32 (addB p b))).run Try.prog w = .ok (.float .f32 (bestW p b)) w := fun t w => run_float_arith w .quo t .f32 _ _ _ (best_quo ok.pace ok.back)
  have d1 := rd_pace ok.len p b l
  have d2 := rd_back ok.len p b l
  clear ok
  go_enter Try.func92, Try.ntmps92
  go_wp2_with (first | simp only [h1] | simp only [h2])
  go_ret
  exact ⟨rfl, b0 _ _⟩

theorem mostFlow_any (cs : List Nat) (p b l : Nat) (ok : OkR cs p b l) (w : World) :
    Calls Try.prog 189 #[.agg (rd cs p b l)] w fun e w' => e = .returned (.float .f32 (mostW p b)) ∧ Below w.heap.size w w' := by
  have A0 := At.new w (rd cs p b l) 75
  have d1 := rd_pace ok.len p b l
  have h1 : ∀ t w, (binOp .mul t (.float .f32 p) (.float .f32 (bestW p b))).run Try.prog w = .ok (.float .f32 (mostW p b)) w := fun t w => run_float_arith w .mul t .f32 _ _ _ (most_mul ok.pace ok.back)
  have hC := Cb.const (w.alloc (.cells (rd cs p b l) 75))
  go_enter Try.func189, Try.ntmps189
  go_wp2
  refine wp_region_cb (by kernel_rfl) (by kernel_rfl) ?_
  repeat (first
    | go_big_quiet_skip
    | (go_big_quiet_want; first
      | (refine q_cell 26 _ rfl _ Try.underlying26 _ rfl A0 _ (by assumption) ?_; go_simp; go_big_quiet_on)
      | (refine q_row 75 _ rfl rfl A0 19 (rd_size ok.len p b l) _ Try.underlying75 rfl (by kernel_rfl) ?_; go_simp; go_big_quiet_on)
      | (go_big_quiet_op; go_big_quiet_on)
      | (go_big_quiet_op; apply Exists.intro; refine ⟨fun w' hw' => ?_, ?_⟩; (go_at_call 92; exact (bestShare_any cs p b l ok _).mono fun _ _ h => ⟨h.1, hw'.step h.2⟩); go_big_quiet_on)))
  refine wpQuiet_nil ?_
  intro w1 hw1
  go_wp2
  go_ret
  exact ⟨rfl, bthen (b0 _ _) hw1⟩

theorem sends_mul {p a : Nat} (hp : 1015021568 ≤ p ∧ p ≤ 1065353216) (ha : a ≤ 1065353216) : floatBits .mul .f32 p a = some (mulB p a) ∧ mulB p a ≤ 1065353216 := mul_one_le hp.2 ha
theorem sendsW_le {p b a : Nat} (hp : 1015021568 ≤ p ∧ p ≤ 1065353216) (ha : a ≤ 1065353216) : sendsW p b a ≤ 1065353216 := by have := (sends_mul hp ha).2; unfold sendsW; omega
theorem takesW_le {p b a : Nat} (hp : 1015021568 ≤ p ∧ p ≤ 1065353216) (hb : 1015021568 ≤ b ∧ b ≤ 1065353216) : takesW p b a ≤ 1065353216 := by have := mostW_le hp hb; unfold takesW; omega

theorem sendsAt_any (k : Nat) (hk : k < 16) (cs : List Nat) (p b l : Nat) (ok : OkR cs p b l) (w : World) :
    Calls Try.prog 184 #[.agg (rd cs p b l), .int .i64 k] w fun e w' => e = .returned (.float .f32 (sendsW p b (nth cs k))) ∧ Below w.heap.size w w' := by
  have A0 := At.new w (rd cs p b l) 75
  have d1 := rd_pace ok.len p b l
  have d2 := rd_cell ok.len p b l hk
  have hm := sends_mul ok.pace (ok.car k)
  have hmo := mostW_le ok.pace ok.back
  have h1 : ∀ t w, (binOp .mul t (.float .f32 p) (.float .f32 (nth cs k))).run Try.prog w = .ok (.float .f32 (mulB p (nth cs k))) w := fun t w => run_float_arith w .mul t .f32 _ _ _ hm.1
  have h2 : ∀ ts t w, (Builtin.min_ ts t #[.float .f32 (mulB p (nth cs k)), .float .f32 (mostW p b)]).run Try.prog w = .ok (.float .f32 (sendsW p b (nth cs k))) w := fun ts t w => run_min_amt w ts t (by omega) (by omega)
  have hk' : (k : Int) < 16 := by omega
  have hC := Cb.const (w.alloc (.cells (rd cs p b l) 75))
  clear hm hmo
  go_enter Try.func184, Try.ntmps184
  go_wp2
  refine wp_region_cb (by kernel_rfl) (by kernel_rfl) ?_
  repeat (first
    | go_big_quiet_skip
    | (go_big_quiet_want; first
      | (refine q_cell 26 _ rfl _ Try.underlying26 _ rfl A0 _ (by assumption) ?_; go_simp; go_big_quiet_on)
      | (refine q_row 75 _ rfl rfl A0 19 (rd_size ok.len p b l) _ Try.underlying75 rfl (by kernel_rfl) ?_; go_simp; go_big_quiet_on)
      | (go_big_quiet_op; go_big_quiet_on)
      | (go_big_quiet_op; apply Exists.intro; refine ⟨fun w' hw' => ?_, ?_⟩; (go_at_call 189; exact (mostFlow_any cs p b l ok _).mono fun _ _ h => ⟨h.1, hw'.step h.2⟩); go_big_quiet_on)))
  refine wpQuiet_nil ?_
  intro w1 hw1
  go_wp2
  go_ret
  exact ⟨rfl, bthen (b0 _ _) hw1⟩
end Go.Proofs.Ytopjikgkoodbmaa

/-
  CONTRACTS: cells: their codes.
-/
namespace Go.Proofs.Ytopjikgkoodbmaa
open Go Go.RowKit

theorem Below.drewN0 (w : World) (n : Nat) : Below w.heap.size w (w.drewN n) := below_drewN (Below.refl _ _) n

theorem isCell_any (k : Int) (w : World) : Calls Try.prog 148 #[.int .i64 k] w (Rd (.bool (decide (0 ≤ k ∧ k < 16))) w) := by
  by_cases h : 0 ≤ k
  · by_cases h2 : k < 16
    · rw [decide_eq_true ⟨h, h2⟩]
      go_enter Try.func148, Try.ntmps148
      go_wp2
      go_ret
      exact Rd.mk0
    · rw [decide_eq_false (by omega)]
      go_enter Try.func148, Try.ntmps148
      go_wp2
      go_ret
      exact Rd.mk0
  · rw [decide_eq_false (by omega)]
    go_enter Try.func148, Try.ntmps148
    go_wp2
    go_ret
    exact Rd.mk0

theorem l00In_any (k a b : Int) (w : World) : Calls Try.prog 63 #[.int .i64 k, .int .i64 a, .int .i64 b] w (Rd (.bool (decide (a ≤ k ∧ k ≤ b))) w) := by
  by_cases h : a ≤ k
  · by_cases h2 : k ≤ b
    · rw [decide_eq_true ⟨h, h2⟩]
      go_enter Try.func63, Try.ntmps63
      go_wp2
      go_ret
      exact Rd.mk0
    · rw [decide_eq_false (by omega)]
      go_enter Try.func63, Try.ntmps63
      go_wp2
      go_ret
      exact Rd.mk0
  · rw [decide_eq_false (by omega)]
    go_enter Try.func63, Try.ntmps63
    go_wp2
    go_ret
    exact Rd.mk0
/-- the code of a road and a cell -/
def atC (ok : Bool) (k last : Int) : Int := if ok then (if 0 ≤ k ∧ k ≤ last then 0 else 2) else 1

end Go.Proofs.Ytopjikgkoodbmaa

/-
  CONTRACTS: QueueOf.
-/
namespace Go.Proofs.Ytopjikgkoodbmaa
open Go Go.RowKit

/-- how many of the first f cells are fuller without a break, counted backwards from the last of all: 15 - f + .. -/
def qW (cs : List Nat) (best : Nat) : Nat → Nat
  | 0 => 16
  | f + 1 => if best < nth cs f then qW cs best f else 15 - f
def queueW (cs : List Nat) (best : Nat) : Nat := qW cs best 16
theorem qW_yes {cs : List Nat} {best f : Nat} (h : best < nth cs f) : qW cs best (f + 1) = qW cs best f := by show (if best < nth cs f then qW cs best f else 15 - f) = _; rw [if_pos h]
theorem qW_no {cs : List Nat} {best f : Nat} (h : ¬ best < nth cs f) : qW cs best (f + 1) = 15 - f := by show (if best < nth cs f then qW cs best f else 15 - f) = _; rw [if_neg h]

def vQueueOf (cs : List Nat) (p b l : Nat) : Int × Int := if okB cs p b l then ((queueW cs (bestW p b) : Int), 0) else (0, 1)
theorem vQueueOf_yes {cs : List Nat} {p b l : Nat} (h : okB cs p b l = true) : vQueueOf cs p b l = ((queueW cs (bestW p b) : Int), 0) := by unfold vQueueOf; rw [if_pos h]
theorem vQueueOf_no {cs : List Nat} {p b l : Nat} (h : okB cs p b l = false) : vQueueOf cs p b l = (0, 1) := by unfold vQueueOf; rw [h]; rfl

theorem QueueOf_any (cs : List Nat) (p b l : Nat) (hl : cs.length = 16) (hc : ∀ x ∈ cs, x < 4294967296) (hp : p < 4294967296) (hb : b < 4294967296) (hla : l < 4294967296) (w : World) :
    Calls Try.prog 54 #[.agg (rd cs p b l)] w fun e w' => e = .returned (.tuple #[.int .i64 (vQueueOf cs p b l).1, .int .i64 (vQueueOf cs p b l).2]) ∧ Below w.heap.size w w' := by
  have A0 := At.new w (rd cs p b l) 75
  cases h : okB cs p b l
  · rw [vQueueOf_no h]
    go_enter Try.func54, Try.ntmps54
    go_wp2_with (((with_reducible refine is_load 75 _ rfl ?_); refine wpList_load_at rfl 75 _ rfl _ rfl (rd cs p b l) _ (by assumption) 19 (rd_size hl p b l) _ Try.underlying75 rfl (by kernel_rfl) ?_))
    refine (ValidRoad_any cs p b l hl hc hp hb hla _).mono ?_
    rintro e w1 ⟨rfl, hb1⟩
    go_wp2_with fail
    go_ret2
    exact ⟨rfl, bthen (b0 _ _) hb1⟩
  · rw [vQueueOf_yes h]
    have ok := OkR.of hl h
    go_enter Try.func54, Try.ntmps54
    go_wp2_with (((with_reducible refine is_load 75 _ rfl ?_); refine wpList_load_at rfl 75 _ rfl _ rfl (rd cs p b l) _ (by assumption) 19 (rd_size hl p b l) _ Try.underlying75 rfl (by kernel_rfl) ?_))
    refine (ValidRoad_any cs p b l hl hc hp hb hla _).mono ?_
    rintro e w1 ⟨rfl, hb1⟩
    have A1 := A0.step hb1
    go_wp2_with (((with_reducible refine is_load 75 _ rfl ?_); refine wpList_load_at rfl 75 _ rfl _ rfl (rd cs p b l) _ (by assumption) 19 (rd_size hl p b l) _ Try.underlying75 rfl (by kernel_rfl) ?_))
    refine (bestShare_any cs p b l ok _).mono ?_
    rintro e w2 ⟨rfl, hb2⟩
    have A2 := A1.step hb2
    have B2 := Lib.hid (bthen (bthen (b0 _ _) hb1) hb2)
    clear hb1 hb2 A0 A1
    go_wp2
    go_loop [5] (fun i => ∃ k : Nat, k ≤ 16 ∧ i = .int .i64 k ∧ Hid (qW cs (bestW p b) (16 - k) = queueW cs (bestW p b))) (fun i => 16 - (intOf i).toNat)
    case atStart => exact ⟨0, by omega, rfl, rfl⟩
    case round =>
      obtain ⟨k, hk, rfl, hq⟩ := hrel
      by_cases hlt : k < 16
      · have hi := A2.cell (rd_cell hl p b l (k := 15 - k) (by omega))
        have hx := ok.car (15 - k)
        have hg := gt_amt (x := nth cs (15 - k)) (y := bestW p b) (by omega) (Nat.le_trans (bestW_le ok.pace ok.back) (by omega))
        have ht : ((15 : Int) - (k : Int)).toNat = 15 - k := by omega
        have h0 : (0 : Int) ≤ 15 - (k : Int) := by omega
        have hn16 : (15 : Int) - (k : Int) < 16 := by omega
        by_cases c : bestW p b < nth cs (15 - k)
        · rw [decide_eq_true c] at hg
          have hq2 : Hid (qW cs (bestW p b) (16 - (k + 1)) = queueW cs (bestW p b)) := by
            show qW cs (bestW p b) (16 - (k + 1)) = _
            rw [← hq.out, show 16 - k = (15 - k) + 1 from by omega, qW_yes c]; congr 1; omega
          clear c hx hq
          go_wp2
          exact ⟨⟨k + 1, by omega, by go_num, hq2⟩, by simp [intOf]; omega⟩
        · rw [decide_eq_false c] at hg
          have hq2 : Hid ((queueW cs (bestW p b) : Int) = (k : Int)) := by
            show (queueW cs (bestW p b) : Int) = (k : Int)
            rw [← hq.out, show 16 - k = (15 - k) + 1 from by omega, qW_no c]; omega
          clear c hx hq
          go_wp2
          go_ret2
          exact ⟨by rw [hq2.out]; rfl, B2.out⟩
      · obtain rfl : k = 16 := by omega
        have hq2 : Hid ((queueW cs (bestW p b) : Int) = 16) := by
          show (queueW cs (bestW p b) : Int) = 16
          rw [← hq.out]; rfl
        clear hq
        go_wp2
        go_ret2
        exact ⟨by rw [hq2.out]; rfl, B2.out⟩

theorem sQueueOf_any (cs : List Nat) (p b l : Nat) (hl : cs.length = 16) (hc : ∀ x ∈ cs, x < 4294967296) (hp : p < 4294967296) (hb : b < 4294967296) (hla : l < 4294967296) (w : World) :
    Calls Try.prog 53 #[.agg (rd cs p b l)] w fun e w' => e = .returned (.tuple #[.int .i64 (vQueueOf cs p b l).1, .int .i64 (vQueueOf cs p b l).2]) ∧ Below w.heap.size w w' := by
  have hr := RoadAt.new w cs p b l 75
  have A0 := At.new w (rd cs p b l) 75
  cases h : okB cs p b l
  · rw [vQueueOf_no h]
    go_enter Try.func53, Try.ntmps53
    go_wp2_with fail
    refine (l01Ok_any _ cs p b l hl hc hp hb hla _ hr).mono ?_
    rintro e w1 ⟨rfl, n1, rfl⟩
    go_wp2_with fail
    go_ret2
    exact ⟨rfl, bdrew (b0 _ _) _⟩
  · rw [vQueueOf_yes h]
    have ok := OkR.of hl h
    go_enter Try.func53, Try.ntmps53
    go_wp2_with fail
    refine (l01Ok_any _ cs p b l hl hc hp hb hla _ hr).mono ?_
    rintro e w1 ⟨rfl, n1, rfl⟩
    go_wp2_with fail
    refine (l01Best_any _ cs p b l ok _ (hr.drewN _)).mono ?_
    rintro e w2 ⟨rfl, n2, rfl⟩
    have B2 := Lib.hid (bdrew (b0 w (.cells (rd cs p b l) 75)) (n1 + n2))
    go_wp2
    go_loop [6, 5] (fun j i => ∃ k : Nat, k ≤ 16 ∧ i = .int .i64 k ∧ j = .int .i64 (15 - (k : Int)) ∧ Hid (qW cs (bestW p b) (16 - k) = queueW cs (bestW p b))) (fun _ i => 16 - (intOf i).toNat)
    case atStart => exact ⟨0, by omega, rfl, rfl, rfl⟩
    case round =>
      obtain ⟨k, hk, rfl, rfl, hq⟩ := hrel
      by_cases hlt : k < 16
      · have hi := A0.cell (rd_cell hl p b l (k := 15 - k) (by omega))
        have hx := ok.car (15 - k)
        have hg := gt_amt (x := nth cs (15 - k)) (y := bestW p b) (by omega) (Nat.le_trans (bestW_le ok.pace ok.back) (by omega))
        have ht : ((15 : Int) - (k : Int)).toNat = 15 - k := by omega
        have h0 : (0 : Int) ≤ 15 - (k : Int) := by omega
        have hn16 : (15 : Int) - (k : Int) < 16 := by omega
        by_cases c : bestW p b < nth cs (15 - k)
        · rw [decide_eq_true c] at hg
          have hq2 : Hid (qW cs (bestW p b) (16 - (k + 1)) = queueW cs (bestW p b)) := by
            show qW cs (bestW p b) (16 - (k + 1)) = _
            rw [← hq.out, show 16 - k = (15 - k) + 1 from by omega, qW_yes c]; congr 1; omega
          clear c hx hq
          go_wp2
          exact ⟨⟨k + 1, by omega, by go_num, by rw [show (15 : Int) - (k : Int) - 1 = 15 - ((k + 1 : Nat) : Int) from by omega], hq2⟩, by simp [intOf]; omega⟩
        · rw [decide_eq_false c] at hg
          have hq2 : Hid ((queueW cs (bestW p b) : Int) = (k : Int)) := by
            show (queueW cs (bestW p b) : Int) = (k : Int)
            rw [← hq.out, show 16 - k = (15 - k) + 1 from by omega, qW_no c]; omega
          clear c hx hq
          go_wp2
          go_ret2
          exact ⟨by rw [hq2.out]; rfl, B2.out⟩
      · obtain rfl : k = 16 := by omega
        have hq2 : Hid ((queueW cs (bestW p b) : Int) = 16) := by
          show (queueW cs (bestW p b) : Int) = 16
          rw [← hq.out]; rfl
        clear hq
        go_wp2
        go_ret2
        exact ⟨by rw [hq2.out]; rfl, B2.out⟩
end Go.Proofs.Ytopjikgkoodbmaa

/-
  CONTRACTS: LongestQueue, both sides.
-/
namespace Go.Proofs.Ytopjikgkoodbmaa
open Go Go.ChangeShapes Go.WideShapes Go.ChangeAt Go.RowKit
set_option maxRecDepth 100000

def qR (rs : List Rd4) (k : Nat) : Int := (vQueueOf (fe zR rs k).cs (fe zR rs k).p (fe zR rs k).b (fe zR rs k).l).1

theorem qR_nn (rs : List Rd4) (k : Nat) : 0 ≤ qR rs k := by
  unfold qR vQueueOf
  split
  · exact Int.natCast_nonneg _
  · exact Int.le_refl _

/-- the road with the longest queue so far: the program begins with (0, 0), the model with (0, -1) -/
def lq (q : Nat → Int) (z : Int) : Nat → Int × Int
  | 0 => (0, z)
  | k + 1 => if (lq q z k).2 < q k then ((k : Int), q k) else lq q z k

theorem lq_same {q : Nat → Int} (h : ∀ k, 0 ≤ q k) : ∀ k, lq q 0 (k + 1) = lq q (-1) (k + 1)
  | 0 => by
    show (if (0 : Int) < q 0 then _ else _) = (if (-1 : Int) < q 0 then _ else _)
    have := h 0
    rw [if_pos (show (-1 : Int) < q 0 by omega)]
    by_cases c : 0 < q 0
    · rw [if_pos c]
    · rw [if_neg c]
      show ((0 : Int), (0 : Int)) = (((0 : Nat) : Int), q 0)
      rw [show q 0 = 0 from by omega]
      rfl
  | k + 1 => by
    show (if (lq q 0 (k + 1)).2 < q (k + 1) then _ else lq q 0 (k + 1)) = (if (lq q (-1) (k + 1)).2 < q (k + 1) then _ else lq q (-1) (k + 1))
    rw [lq_same h k]

def vLQ (T : Tn) : Int × Int × Int := if validT T then ((lq (qR T.rs) (-1) T.rs.length).1, (lq (qR T.rs) (-1) T.rs.length).2, 0) else (0, 0, 1)

theorem valid_one {T : Tn} (h : validT T = true) : 1 ≤ T.rs.length := by
  unfold validT at h
  simp only [Bool.and_eq_true, decide_eq_true_eq] at h
  omega

set_option maxHeartbeats 2000000 in
theorem LongestQueue_own (T : Tn) (gr gf gj gp : Nat) (hN : TnN T) (hB : TnB T) (w : World) (hT : TOwn w gr gf gj gp T) :
    Calls Try.prog 19 #[.agg (tnR T (slN gr T.rs.length) (slN gf T.fs.length) (slN gj T.js.length) (slN gp T.ps.length))] w fun e w' => e = .returned (.tuple #[.int .i64 (vLQ T).1, .int .i64 (vLQ T).2.1, .int .i64 (vLQ T).2.2]) ∧ Below w.heap.size w w' := by
  have A0 := At.new w (tnR T (slN gr T.rs.length) (slN gf T.fs.length) (slN gj T.js.length) (slN gp T.ps.length)) 35
  have T0 := hT.step (b0 w (.cells (tnR T (slN gr T.rs.length) (slN gf T.fs.length) (slN gj T.js.length) (slN gp T.ps.length)) 35))
  have BW := Lib.hid (b0 w (.cells (tnR T (slN gr T.rs.length) (slN gf T.fs.length) (slN gj T.js.length) (slN gp T.ps.length)) 35))
  have KV := ValidTown_own T gr gf gj gp hN hB _ T0
  cases hv : validT T
  · rw [hv] at KV
    have HV := Lib.hid (show vLQ T = (0, 0, 1) from by unfold vLQ; rw [hv]; rfl)
    clear hv hT T0
    go_enter Try.func19, Try.ntmps19
    go_wp2_with (((with_reducible refine is_load 35 _ rfl ?_); refine wpList_load_at rfl 35 _ rfl _ rfl (tnR T (slN gr T.rs.length) (slN gf T.fs.length) (slN gj T.js.length) (slN gp T.ps.length)) _ (by with_reducible assumption) 7 (rfl) _ Try.underlying35 rfl (by kernel_rfl) ?_))
    refine KV.mono ?_
    rintro e w1 ⟨rfl, hb1⟩
    have B1 := Lib.hid (bthen BW.out hb1)
    clear KV hb1 A0 BW
    go_wp2_with fail
    go_ret3
    exact ⟨by rw [HV.out]; rfl, B1.out⟩
  · rw [hv] at KV
    have h1 := valid_one hv
    have hsm := lq_same (qR_nn T.rs) (T.rs.length - 1)
    rw [show T.rs.length - 1 + 1 = T.rs.length from by omega] at hsm
    have hvl : vLQ T = ((lq (qR T.rs) (-1) T.rs.length).1, (lq (qR T.rs) (-1) T.rs.length).2, 0) := by unfold vLQ; rw [hv]; rfl
    have hn := hN.r
    have hR := T0.r
    clear hT T0 hv h1
    obtain ⟨rs, fs, js, ps, tk, ca, we⟩ := T
    have hR : At _ gr (fm rdr rs) 75 := hR
    have hn : rs.length ≤ 1048576 := hn
    have hsm : lq (qR rs) 0 rs.length = lq (qR rs) (-1) rs.length := hsm
    have hvl : vLQ ⟨rs, fs, js, ps, tk, ca, we⟩ = ((lq (qR rs) (-1) rs.length).1, (lq (qR rs) (-1) rs.length).2, 0) := hvl
    obtain ⟨vf, hvf⟩ : ∃ v, v = slN gf fs.length := ⟨_, rfl⟩
    obtain ⟨vj, hvj⟩ : ∃ v, v = slN gj js.length := ⟨_, rfl⟩
    obtain ⟨vp, hvp⟩ : ∃ v, v = slN gp ps.length := ⟨_, rfl⟩
    change At (w.alloc (.cells (tnC (.slice (some ⟨gr, 0, none⟩) rs.length rs.length) (slN gf fs.length) (slN gj js.length) (slN gp ps.length) tk ca we) 35)) _ (tnC (.slice (some ⟨gr, 0, none⟩) rs.length rs.length) (slN gf fs.length) (slN gj js.length) (slN gp ps.length) tk ca we) _ at A0
    change Calls _ _ #[.agg (tnC (.slice (some ⟨gr, 0, none⟩) rs.length rs.length) (slN gf fs.length) (slN gj js.length) (slN gp ps.length) tk ca we)] w _
    change Hid (Below w.heap.size w (w.alloc (.cells (tnC (.slice (some ⟨gr, 0, none⟩) rs.length rs.length) (slN gf fs.length) (slN gj js.length) (slN gp ps.length) tk ca we) 35))) at BW
    change At (w.alloc (.cells (tnC (.slice (some ⟨gr, 0, none⟩) rs.length rs.length) (slN gf fs.length) (slN gj js.length) (slN gp ps.length) tk ca we) 35)) _ _ _ at hR
    change Calls _ _ #[.agg (tnC (.slice (some ⟨gr, 0, none⟩) rs.length rs.length) (slN gf fs.length) (slN gj js.length) (slN gp ps.length) tk ca we)] (w.alloc (.cells (tnC (.slice (some ⟨gr, 0, none⟩) rs.length rs.length) (slN gf fs.length) (slN gj js.length) (slN gp ps.length) tk ca we) 35)) _ at KV
    rw [← hvf, ← hvj, ← hvp] at A0 BW hR KV ⊢
    obtain ⟨n, hnn⟩ : ∃ n, n = rs.length := ⟨_, rfl⟩
    obtain ⟨qf, hqf⟩ : ∃ q, q = qR rs := ⟨_, rfl⟩
    rw [← hnn] at A0 BW hR KV hn hsm hvl ⊢
    rw [← hqf] at hsm hvl
    have HN := Lib.hid hnn
    have HQF := Lib.hid hqf
    have HV := Lib.hid hvl
    have Hsame := Lib.hid hsm
    clear hvf hvj hvp hnn hqf hvl hsm hN hB
    go_enter Try.func19, Try.ntmps19
    go_wp2_with (((with_reducible refine is_load 35 _ rfl ?_); refine wpList_load_at rfl 35 _ rfl _ rfl (tnC (.slice (some ⟨gr, 0, none⟩) n n) vf vj vp tk ca we) _ (by with_reducible assumption) 7 (rfl) _ Try.underlying35 rfl (by kernel_rfl) ?_))
    refine KV.mono ?_
    rintro e W ⟨rfl, hb1⟩
    have HX := Lib.hid (And.intro (A0.step hb1) (hR.step hb1))
    have BW := Lib.hid (bthen BW.out hb1)
    have HWs := Lib.hid (show w.heap.size ≤ W.heap.size from BW.out.size)
    have A1 := HX.out.1
    clear KV hb1 A0 hR
    go_wp2_with (first | ((with_reducible refine is_load 31 _ rfl ?_); refine wpList_load_cell rfl 31 _ rfl _ 0 rfl (tnC (.slice (some ⟨gr, 0, none⟩) n n) vf vj vp tk ca we) _ (by with_reducible assumption) _ Try.underlying31 rfl (.slice (some ⟨gr, 0, none⟩) n n) (tnC_0 _ _ _ _ _ _ _) ?_))
    clear A1
    go_loopw [5, 6, 17] (fun s b i wr => ∃ k : Nat, ∃ pr : Int × Int, k ≤ n ∧ i = .int .i64 (k : Int) ∧ s = .int .i64 pr.1 ∧ b = .int .i64 pr.2 ∧ Hid (pr = lq qf (0) k) ∧ Hid (Below W.heap.size W wr)) (fun _ _ i _ => n - (intOf i).toNat)
    case atStart => exact ⟨0, (0, 0), by omega, rfl, rfl, rfl, Lib.hid rfl, Lib.hid (Below.refl _ _)⟩
    case round =>
      obtain ⟨k, ⟨p1, p2⟩, hk, rfl, rfl, rfl, hpr, B1⟩ := hrel
      have A1 := HX.out.1.step B1.out
      have R1 := HX.out.2.step B1.out
      by_cases hlt : k < n
      · have s2 : IntKind.i64.wrap ((k : Int) + 1) = (k : Int) + 1 := IntWalk.i64_in _ (by omega)
        have kd : (k : Int) < (n : Int) := by omega
        have hsl := fm_at (d := zR) (k := k * 19) rdr_size (xs := rs) (i := k) (by rw [← HN.out]; exact hlt) rfl
        have hle : k * 19 + 19 ≤ (fm rdr rs).size := by rw [fm_size rdr_size, ← HN.out]; omega
        have hq : qf k = (vQueueOf (fe zR rs k).cs (fe zR rs k).p (fe zR rs k).b (fe zR rs k).l).1 := by rw [HQF.out]; rfl
        obtain ⟨r, hr⟩ : ∃ r, r = fe zR rs k := ⟨_, rfl⟩
        rw [← hr] at hsl hq
        have KQ := fun w' => QueueOf_any r.cs r.p r.b r.l r.hl r.hc r.hp r.hb r.hla w'
        change ∀ w', Calls _ _ #[.agg (rdr r)] w' _ at KQ
        rw [← hq] at KQ
        generalize (vQueueOf r.cs r.p r.b r.l).2 = cd at KQ
        clear hr hq
        have N0 := At.new wr (#[.float .f32 0, .float .f32 0, .float .f32 0, .float .f32 0, .float .f32 0, .float .f32 0, .float .f32 0, .float .f32 0, .float .f32 0, .float .f32 0, .float .f32 0, .float .f32 0, .float .f32 0, .float .f32 0, .float .f32 0, .float .f32 0, .float .f32 0, .float .f32 0, .float .f32 0]) 75
        have N1 := N0.setRow (rdr r)
        have B2 := Lib.hid (bset (bnew B1.out (.cells (#[.float .f32 0, .float .f32 0, .float .f32 0, .float .f32 0, .float .f32 0, .float .f32 0, .float .f32 0, .float .f32 0, .float .f32 0, .float .f32 0, .float .f32 0, .float .f32 0, .float .f32 0, .float .f32 0, .float .f32 0, .float .f32 0, .float .f32 0, .float .f32 0, .float .f32 0]) 75)) (g := wr.heap.size) B1.out.size (rdr r))
        clear B1
        have hnx : lq qf (0) (k + 1) = if p2 < qf k then ((k : Int), qf k) else (p1, p2) := by show (if (lq qf (0) k).2 < qf k then _ else lq qf (0) k) = _; rw [← hpr.out]
        have HNX := Lib.hid hnx
        clear hnx hpr
        generalize qf k = q at *
        by_cases hb : p2 < q
        · have HQ1 := Lib.hid (show ((k : Int), q) = lq qf (0) (k + 1) from by rw [HNX.out, if_pos hb])
          go_wp2_with (first | ((with_reducible refine is_load 75 _ rfl ?_); refine wpList_load_part rfl 75 _ rfl _ (k * 19) rfl (fm rdr rs) _ (by with_reducible assumption) 19 hle _ Try.underlying75 rfl (by kernel_rfl) (rdr r) hsl ?_) | ((with_reducible refine is_store 75 _ _ rfl ?_); refine wpList_store_at rfl 75 _ _ rfl _ rfl (rdr r) rfl (#[.float .f32 0, .float .f32 0, .float .f32 0, .float .f32 0, .float .f32 0, .float .f32 0, .float .f32 0, .float .f32 0, .float .f32 0, .float .f32 0, .float .f32 0, .float .f32 0, .float .f32 0, .float .f32 0, .float .f32 0, .float .f32 0, .float .f32 0, .float .f32 0, .float .f32 0]) _ (by with_reducible assumption) 19 (rdr_size _) rfl (by kernel_rfl) (rdr_one _) ?_) | ((with_reducible refine is_load 75 _ rfl ?_); refine wpList_load_at rfl 75 _ rfl _ rfl (rdr r) _ (by with_reducible assumption) 19 (rdr_size _) _ Try.underlying75 rfl (by kernel_rfl) ?_))
          refine (KQ _).mono ?_
          rintro e w3 ⟨rfl, hb3⟩
          have B3 := Lib.hid (bthen B2.out hb3)
          clear A1 R1 B2 KQ hb3 hsl hle N0 N1
          go_wp2_with fail
          exact ⟨⟨k + 1, ((k : Int), q), by omega, by go_num, rfl, rfl, HQ1, B3⟩, by simp [intOf]; omega⟩
        · have HQ1 := Lib.hid (show (p1, p2) = lq qf (0) (k + 1) from by rw [HNX.out, if_neg hb])
          go_wp2_with (first | ((with_reducible refine is_load 75 _ rfl ?_); refine wpList_load_part rfl 75 _ rfl _ (k * 19) rfl (fm rdr rs) _ (by with_reducible assumption) 19 hle _ Try.underlying75 rfl (by kernel_rfl) (rdr r) hsl ?_) | ((with_reducible refine is_store 75 _ _ rfl ?_); refine wpList_store_at rfl 75 _ _ rfl _ rfl (rdr r) rfl (#[.float .f32 0, .float .f32 0, .float .f32 0, .float .f32 0, .float .f32 0, .float .f32 0, .float .f32 0, .float .f32 0, .float .f32 0, .float .f32 0, .float .f32 0, .float .f32 0, .float .f32 0, .float .f32 0, .float .f32 0, .float .f32 0, .float .f32 0, .float .f32 0, .float .f32 0]) _ (by with_reducible assumption) 19 (rdr_size _) rfl (by kernel_rfl) (rdr_one _) ?_) | ((with_reducible refine is_load 75 _ rfl ?_); refine wpList_load_at rfl 75 _ rfl _ rfl (rdr r) _ (by with_reducible assumption) 19 (rdr_size _) _ Try.underlying75 rfl (by kernel_rfl) ?_))
          refine (KQ _).mono ?_
          rintro e w3 ⟨rfl, hb3⟩
          have B3 := Lib.hid (bthen B2.out hb3)
          clear A1 R1 B2 KQ hb3 hsl hle N0 N1
          go_wp2_with fail
          exact ⟨⟨k + 1, (p1, p2), by omega, by go_num, rfl, rfl, HQ1, B3⟩, by simp [intOf]; omega⟩
      · obtain rfl : n = k := by omega
        have HE := Lib.hid (show (p1, p2) = lq qf (-1) n from by rw [hpr.out]; exact Hsame.out)
        clear hpr R1
        go_wp2_with fail
        go_ret3
        exact ⟨by rw [HV.out, ← HE.out]; rfl, BW.out.trans (B1.out.mono HWs.out)⟩

set_option maxHeartbeats 2000000 in
theorem sLongestQueue_own (T : Tn) (gr gf gj gp : Nat) (hN : TnN T) (hB : TnB T) (w : World) (hT : TOwn w gr gf gj gp T) :
    Calls Try.prog 18 #[.agg (tnR T (slN gr T.rs.length) (slN gf T.fs.length) (slN gj T.js.length) (slN gp T.ps.length))] w fun e w' => e = .returned (.tuple #[.int .i64 (vLQ T).1, .int .i64 (vLQ T).2.1, .int .i64 (vLQ T).2.2]) ∧ Below w.heap.size w w' := by
  have A0 := At.new w (tnR T (slN gr T.rs.length) (slN gf T.fs.length) (slN gj T.js.length) (slN gp T.ps.length)) 35
  have T0 := hT.step (b0 w (.cells (tnR T (slN gr T.rs.length) (slN gf T.fs.length) (slN gj T.js.length) (slN gp T.ps.length)) 35))
  have BW := Lib.hid (b0 w (.cells (tnR T (slN gr T.rs.length) (slN gf T.fs.length) (slN gj T.js.length) (slN gp T.ps.length)) 35))
  have KV := l06Ok_own T w.heap.size gr gf gj gp hN hB _ A0 T0
  rw [valid_same] at KV
  cases hv : validT T
  · rw [hv] at KV
    have HV := Lib.hid (show vLQ T = (0, 0, 1) from by unfold vLQ; rw [hv]; rfl)
    clear hv hT T0
    go_enter Try.func18, Try.ntmps18
    go_wp2_with fail
    refine KV.mono ?_
    rintro e w1 ⟨rfl, hb1⟩
    have B1 := Lib.hid (bthen BW.out hb1)
    clear KV hb1 A0 BW
    go_wp2_with fail
    go_ret3
    exact ⟨by rw [HV.out]; rfl, B1.out⟩
  · rw [hv] at KV
    have h1 := valid_one hv
    have hsm := lq_same (qR_nn T.rs) (T.rs.length - 1)
    rw [show T.rs.length - 1 + 1 = T.rs.length from by omega] at hsm
    have hvl : vLQ T = ((lq (qR T.rs) (-1) T.rs.length).1, (lq (qR T.rs) (-1) T.rs.length).2, 0) := by unfold vLQ; rw [hv]; rfl
    have hn := hN.r
    have hR := T0.r
    clear hT T0 hv h1
    obtain ⟨rs, fs, js, ps, tk, ca, we⟩ := T
    have hR : At _ gr (fm rdr rs) 75 := hR
    have hn : rs.length ≤ 1048576 := hn
    have hsm : lq (qR rs) 0 rs.length = lq (qR rs) (-1) rs.length := hsm
    have hvl : vLQ ⟨rs, fs, js, ps, tk, ca, we⟩ = ((lq (qR rs) (-1) rs.length).1, (lq (qR rs) (-1) rs.length).2, 0) := hvl
    obtain ⟨vf, hvf⟩ : ∃ v, v = slN gf fs.length := ⟨_, rfl⟩
    obtain ⟨vj, hvj⟩ : ∃ v, v = slN gj js.length := ⟨_, rfl⟩
    obtain ⟨vp, hvp⟩ : ∃ v, v = slN gp ps.length := ⟨_, rfl⟩
    change At (w.alloc (.cells (tnC (.slice (some ⟨gr, 0, none⟩) rs.length rs.length) (slN gf fs.length) (slN gj js.length) (slN gp ps.length) tk ca we) 35)) _ (tnC (.slice (some ⟨gr, 0, none⟩) rs.length rs.length) (slN gf fs.length) (slN gj js.length) (slN gp ps.length) tk ca we) _ at A0
    change Calls _ _ #[.agg (tnC (.slice (some ⟨gr, 0, none⟩) rs.length rs.length) (slN gf fs.length) (slN gj js.length) (slN gp ps.length) tk ca we)] w _
    change Hid (Below w.heap.size w (w.alloc (.cells (tnC (.slice (some ⟨gr, 0, none⟩) rs.length rs.length) (slN gf fs.length) (slN gj js.length) (slN gp ps.length) tk ca we) 35))) at BW
    change At (w.alloc (.cells (tnC (.slice (some ⟨gr, 0, none⟩) rs.length rs.length) (slN gf fs.length) (slN gj js.length) (slN gp ps.length) tk ca we) 35)) _ _ _ at hR
    change Calls _ _ _ (w.alloc (.cells (tnC (.slice (some ⟨gr, 0, none⟩) rs.length rs.length) (slN gf fs.length) (slN gj js.length) (slN gp ps.length) tk ca we) 35)) _ at KV
    rw [← hvf, ← hvj, ← hvp] at A0 BW hR KV ⊢
    obtain ⟨n, hnn⟩ : ∃ n, n = rs.length := ⟨_, rfl⟩
    obtain ⟨qf, hqf⟩ : ∃ q, q = qR rs := ⟨_, rfl⟩
    rw [← hnn] at A0 BW hR KV hn hsm hvl ⊢
    rw [← hqf] at hsm hvl
    have HN := Lib.hid hnn
    have HQF := Lib.hid hqf
    have HV := Lib.hid hvl
    have Hsame := Lib.hid hsm
    clear hvf hvj hvp hnn hqf hvl hsm hN hB
    go_enter Try.func18, Try.ntmps18
    go_wp2_with fail
    refine KV.mono ?_
    rintro e W ⟨rfl, hb1⟩
    have HX := Lib.hid (And.intro (A0.step hb1) (hR.step hb1))
    have BW := Lib.hid (bthen BW.out hb1)
    have HWs := Lib.hid (show w.heap.size ≤ W.heap.size from BW.out.size)
    have A1 := HX.out.1
    clear KV hb1 A0 hR
    go_wp2_with (first | ((with_reducible refine is_load 31 _ rfl ?_); refine wpList_load_cell rfl 31 _ rfl _ 0 rfl (tnC (.slice (some ⟨gr, 0, none⟩) n n) vf vj vp tk ca we) _ (by with_reducible assumption) _ Try.underlying31 rfl (.slice (some ⟨gr, 0, none⟩) n n) (tnC_0 _ _ _ _ _ _ _) ?_))
    clear A1
    go_loopw [5, 6, 7] (fun s b i wr => ∃ k : Nat, ∃ pr : Int × Int, k ≤ n ∧ i = .int .i64 (k : Int) ∧ s = .int .i64 pr.1 ∧ b = .int .i64 pr.2 ∧ Hid (pr = lq qf (-1) k) ∧ Hid (Below W.heap.size W wr)) (fun _ _ i _ => n - (intOf i).toNat)
    case atStart => exact ⟨0, (0, -1), by omega, rfl, rfl, rfl, Lib.hid rfl, Lib.hid (Below.refl _ _)⟩
    case round =>
      obtain ⟨k, ⟨p1, p2⟩, hk, rfl, rfl, rfl, hpr, B1⟩ := hrel
      have A1 := HX.out.1.step B1.out
      have R1 := HX.out.2.step B1.out
      by_cases hlt : k < n
      · have s2 : IntKind.i64.wrap ((k : Int) + 1) = (k : Int) + 1 := IntWalk.i64_in _ (by omega)
        have kd : (k : Int) < (n : Int) := by omega
        have hsl := fm_at (d := zR) (k := k * 19) rdr_size (xs := rs) (i := k) (by rw [← HN.out]; exact hlt) rfl
        have hle : k * 19 + 19 ≤ (fm rdr rs).size := by rw [fm_size rdr_size, ← HN.out]; omega
        have hq : qf k = (vQueueOf (fe zR rs k).cs (fe zR rs k).p (fe zR rs k).b (fe zR rs k).l).1 := by rw [HQF.out]; rfl
        obtain ⟨r, hr⟩ : ∃ r, r = fe zR rs k := ⟨_, rfl⟩
        rw [← hr] at hsl hq
        have KQ := fun w' => sQueueOf_any r.cs r.p r.b r.l r.hl r.hc r.hp r.hb r.hla w'
        change ∀ w', Calls _ _ #[.agg (rdr r)] w' _ at KQ
        rw [← hq] at KQ
        generalize (vQueueOf r.cs r.p r.b r.l).2 = cd at KQ
        clear hr hq
        have B2 := B1
        clear B1
        have hnx : lq qf (-1) (k + 1) = if p2 < qf k then ((k : Int), qf k) else (p1, p2) := by show (if (lq qf (-1) k).2 < qf k then _ else lq qf (-1) k) = _; rw [← hpr.out]
        have HNX := Lib.hid hnx
        clear hnx hpr
        generalize qf k = q at *
        by_cases hb : p2 < q
        · have HQ1 := Lib.hid (show ((k : Int), q) = lq qf (-1) (k + 1) from by rw [HNX.out, if_pos hb])
          go_wp2_with (first | ((with_reducible refine is_load 31 _ rfl ?_); refine wpList_load_cell rfl 31 _ rfl _ 0 rfl (tnC (.slice (some ⟨gr, 0, none⟩) n n) vf vj vp tk ca we) _ (by with_reducible assumption) _ Try.underlying31 rfl (.slice (some ⟨gr, 0, none⟩) n n) (tnC_0 _ _ _ _ _ _ _) ?_) | ((with_reducible refine is_load 75 _ rfl ?_); refine wpList_load_part rfl 75 _ rfl _ (k * 19) rfl (fm rdr rs) _ (by with_reducible assumption) 19 hle _ Try.underlying75 rfl (by kernel_rfl) (rdr r) hsl ?_))
          refine (KQ _).mono ?_
          rintro e w3 ⟨rfl, hb3⟩
          have B3 := Lib.hid (bthen B2.out hb3)
          clear A1 R1 B2 KQ hb3 hsl hle 
          go_wp2_with fail
          exact ⟨⟨k + 1, ((k : Int), q), by omega, by go_num, rfl, rfl, HQ1, B3⟩, by simp [intOf]; omega⟩
        · have HQ1 := Lib.hid (show (p1, p2) = lq qf (-1) (k + 1) from by rw [HNX.out, if_neg hb])
          go_wp2_with (first | ((with_reducible refine is_load 31 _ rfl ?_); refine wpList_load_cell rfl 31 _ rfl _ 0 rfl (tnC (.slice (some ⟨gr, 0, none⟩) n n) vf vj vp tk ca we) _ (by with_reducible assumption) _ Try.underlying31 rfl (.slice (some ⟨gr, 0, none⟩) n n) (tnC_0 _ _ _ _ _ _ _) ?_) | ((with_reducible refine is_load 75 _ rfl ?_); refine wpList_load_part rfl 75 _ rfl _ (k * 19) rfl (fm rdr rs) _ (by with_reducible assumption) 19 hle _ Try.underlying75 rfl (by kernel_rfl) (rdr r) hsl ?_))
          refine (KQ _).mono ?_
          rintro e w3 ⟨rfl, hb3⟩
          have B3 := Lib.hid (bthen B2.out hb3)
          clear A1 R1 B2 KQ hb3 hsl hle 
          go_wp2_with fail
          exact ⟨⟨k + 1, (p1, p2), by omega, by go_num, rfl, rfl, HQ1, B3⟩, by simp [intOf]; omega⟩
      · obtain rfl : n = k := by omega
        have HE := Lib.hid (show (p1, p2) = lq qf (-1) n from by rw [hpr.out])
        clear hpr R1
        go_wp2_with (first | ((with_reducible refine is_load 31 _ rfl ?_); refine wpList_load_cell rfl 31 _ rfl _ 0 rfl (tnC (.slice (some ⟨gr, 0, none⟩) n n) vf vj vp tk ca we) _ (by with_reducible assumption) _ Try.underlying31 rfl (.slice (some ⟨gr, 0, none⟩) n n) (tnC_0 _ _ _ _ _ _ _) ?_))
        go_ret3
        exact ⟨by rw [HV.out, ← HE.out]; rfl, BW.out.trans (B1.out.mono HWs.out)⟩

end Go.Proofs.Ytopjikgkoodbmaa
