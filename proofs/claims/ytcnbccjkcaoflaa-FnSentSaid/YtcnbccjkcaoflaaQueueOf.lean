/-
  CONTRACTS: QueueOf.
-/
import Derived.Test.YtcnbccjkcaoflaaCell2
namespace Go.Proofs.Ytcnbccjkcaoflaa
open Go Go.RowKit

/-- how many of the first f cells are fuller without a break, counted backwards from the last of all: 15 - f + .. -/
def qW (cs : List Nat) (best : Nat) : Nat → Nat
  | 0 => 16
  | f + 1 => if best < nth cs f then qW cs best f else 15 - f
def queueW (cs : List Nat) (best : Nat) : Nat := qW cs best 16
theorem qW_yes {cs : List Nat} {best f : Nat} (h : best < nth cs f) : qW cs best (f + 1) = qW cs best f := by show (if best < nth cs f then qW cs best f else 15 - f) = _; rw [if_pos h]
theorem qW_no {cs : List Nat} {best f : Nat} (h : ¬ best < nth cs f) : qW cs best (f + 1) = 15 - f := by show (if best < nth cs f then qW cs best f else 15 - f) = _; rw [if_neg h]

def vQueueOf (cs : List Nat) (p b l : Nat) : Int × Int := if okB cs p b l then ((queueW cs (bestW p b) : Int), 0) else (0, 1)
theorem vQueueOf_yes {cs : List Nat} {p b l : Nat} (h : okB cs p b l = true) : vQueueOf cs p b l = ((queueW cs (bestW p b) : Int), 0) := by unfold vQueueOf; rw [if_pos h]
theorem vQueueOf_no {cs : List Nat} {p b l : Nat} (h : okB cs p b l = false) : vQueueOf cs p b l = (0, 1) := by unfold vQueueOf; rw [h]; rfl

theorem QueueOf_any (cs : List Nat) (p b l : Nat) (hl : cs.length = 16) (hc : ∀ x ∈ cs, x < 4294967296) (hp : p < 4294967296) (hb : b < 4294967296) (hla : l < 4294967296) (w : World) :
    Calls Try.prog 8 #[.agg (rd cs p b l)] w fun e w' => e = .returned (.tuple #[.int .i64 (vQueueOf cs p b l).1, .int .i64 (vQueueOf cs p b l).2]) ∧ Below w.heap.size w w' := by
  have A0 := At.new w (rd cs p b l) 28
  cases h : okB cs p b l
  · rw [vQueueOf_no h]
    go_enter Try.func8, Try.ntmps8
    go_wp2_with (((with_reducible refine is_load 28 _ rfl ?_); refine wpList_load_at rfl 28 _ rfl _ rfl (rd cs p b l) _ (by assumption) 19 (rd_size hl p b l) _ Try.underlying28 rfl (by kernel_rfl) ?_))
    refine (ValidRoad_any cs p b l hl hc hp hb hla _).mono ?_
    rintro e w1 ⟨rfl, hb1⟩
    go_wp2_with fail
    go_ret2
    exact ⟨rfl, bthen (b0 _ _) hb1⟩
  · rw [vQueueOf_yes h]
    have ok := OkR.of hl h
    go_enter Try.func8, Try.ntmps8
    go_wp2_with (((with_reducible refine is_load 28 _ rfl ?_); refine wpList_load_at rfl 28 _ rfl _ rfl (rd cs p b l) _ (by assumption) 19 (rd_size hl p b l) _ Try.underlying28 rfl (by kernel_rfl) ?_))
    refine (ValidRoad_any cs p b l hl hc hp hb hla _).mono ?_
    rintro e w1 ⟨rfl, hb1⟩
    have A1 := A0.step hb1
    go_wp2_with (((with_reducible refine is_load 28 _ rfl ?_); refine wpList_load_at rfl 28 _ rfl _ rfl (rd cs p b l) _ (by assumption) 19 (rd_size hl p b l) _ Try.underlying28 rfl (by kernel_rfl) ?_))
    refine (bestShare_any cs p b l ok _).mono ?_
    rintro e w2 ⟨rfl, hb2⟩
    have A2 := A1.step hb2
    have B2 := Lib.hid (bthen (bthen (b0 _ _) hb1) hb2)
    clear hb1 hb2 A0 A1
    go_wp2
    go_loop [5] (fun i => ∃ k : Nat, k ≤ 16 ∧ i = .int .i64 k ∧ Hid (qW cs (bestW p b) (16 - k) = queueW cs (bestW p b))) (fun i => 16 - (intOf i).toNat)
    case atStart => exact ⟨0, by omega, rfl, rfl⟩
    case round =>
      obtain ⟨k, hk, rfl, hq⟩ := hrel
      by_cases hlt : k < 16
      · have hi := A2.cell (rd_cell hl p b l (k := 15 - k) (by omega))
        have hx := ok.car (15 - k)
        have hg := gt_amt (x := nth cs (15 - k)) (y := bestW p b) (by omega) (Nat.le_trans (bestW_le ok.pace ok.back) (by omega))
        have ht : ((15 : Int) - (k : Int)).toNat = 15 - k := by omega
        have h0 : (0 : Int) ≤ 15 - (k : Int) := by omega
        have hn16 : (15 : Int) - (k : Int) < 16 := by omega
        by_cases c : bestW p b < nth cs (15 - k)
        · rw [decide_eq_true c] at hg
          have hq2 : Hid (qW cs (bestW p b) (16 - (k + 1)) = queueW cs (bestW p b)) := by
            show qW cs (bestW p b) (16 - (k + 1)) = _
            rw [← hq.out, show 16 - k = (15 - k) + 1 from by omega, qW_yes c]; congr 1; omega
          clear c hx hq
          go_wp2
          exact ⟨⟨k + 1, by omega, by go_num, hq2⟩, by simp [intOf]; omega⟩
        · rw [decide_eq_false c] at hg
          have hq2 : Hid ((queueW cs (bestW p b) : Int) = (k : Int)) := by
            show (queueW cs (bestW p b) : Int) = (k : Int)
            rw [← hq.out, show 16 - k = (15 - k) + 1 from by omega, qW_no c]; omega
          clear c hx hq
          go_wp2
          go_ret2
          exact ⟨by rw [hq2.out]; rfl, B2.out⟩
      · obtain rfl : k = 16 := by omega
        have hq2 : Hid ((queueW cs (bestW p b) : Int) = 16) := by
          show (queueW cs (bestW p b) : Int) = 16
          rw [← hq.out]; rfl
        clear hq
        go_wp2
        go_ret2
        exact ⟨by rw [hq2.out]; rfl, B2.out⟩

end Go.Proofs.Ytcnbccjkcaoflaa
