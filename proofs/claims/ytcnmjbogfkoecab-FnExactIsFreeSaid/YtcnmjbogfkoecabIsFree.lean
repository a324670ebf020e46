/-
  CONTRACTS: IsFree.
-/
import Derived.Test.YtcnmjbogfkoecabDensestCell
namespace Go.Proofs.Ytcnmjbogfkoecab
open Go Go.RowKit

def freeB (cs : List Nat) (best : Nat) : Bool := decide (nth cs (dnW cs) ≤ best)
def vIsFree (cs : List Nat) (p b l : Nat) : Bool × Int := if okB cs p b l then (freeB cs (bestW p b), 0) else (false, 1)
theorem vIsFree_yes {cs : List Nat} {p b l : Nat} (h : okB cs p b l = true) : vIsFree cs p b l = (freeB cs (bestW p b), 0) := by unfold vIsFree; rw [if_pos h]
theorem vIsFree_no {cs : List Nat} {p b l : Nat} (h : okB cs p b l = false) : vIsFree cs p b l = (false, 1) := by unfold vIsFree; rw [h]; rfl

theorem IsFree_any (cs : List Nat) (p b l : Nat) (hl : cs.length = 16) (hc : ∀ x ∈ cs, x < 4294967296) (hp : p < 4294967296) (hb : b < 4294967296) (hla : l < 4294967296) (w : World) :
    Calls Try.prog 26 #[.agg (rd cs p b l)] w fun e w' => e = .returned (.tuple #[.bool (vIsFree cs p b l).1, .int .i64 (vIsFree cs p b l).2]) ∧ Below w.heap.size w w' := by
  have A0 := At.new w (rd cs p b l) 30
  cases h : okB cs p b l
  · rw [vIsFree_no h]
    go_enter Try.func26, Try.ntmps26
    go_wp2_with (((with_reducible refine is_load 30 _ rfl ?_); refine wpList_load_at rfl 30 _ rfl _ rfl (rd cs p b l) _ (by assumption) 19 (rd_size hl p b l) _ Try.underlying30 rfl (by kernel_rfl) ?_))
    refine (ValidRoad_any cs p b l hl hc hp hb hla _).mono ?_
    rintro e w1 ⟨rfl, hb1⟩
    go_wp2_with fail
    go_ret2
    exact ⟨rfl, bthen (b0 _ _) hb1⟩
  · rw [vIsFree_yes h]
    have ok := OkR.of hl h
    have hD : dnW cs < 16 := by have := dn_le cs 15; unfold dnW; omega
    have hD' : ((dnW cs : Nat) : Int) < 16 := by omega
    have d2 := rd_cell hl p b l hD
    have hm := le_amt (x := nth cs (dnW cs)) (y := bestW p b) (Nat.le_trans (ok.car _) (by omega)) (Nat.le_trans (bestW_le ok.pace ok.back) (by omega))
    rw [show decide (nth cs (dnW cs) ≤ bestW p b) = freeB cs (bestW p b) from rfl] at hm
    go_enter Try.func26, Try.ntmps26
    go_wp2_with (((with_reducible refine is_load 30 _ rfl ?_); refine wpList_load_at rfl 30 _ rfl _ rfl (rd cs p b l) _ (by assumption) 19 (rd_size hl p b l) _ Try.underlying30 rfl (by kernel_rfl) ?_))
    refine (ValidRoad_any cs p b l hl hc hp hb hla _).mono ?_
    rintro e w1 ⟨rfl, hb1⟩
    have A9 := A0.step hb1
    have hC := Cb.const w1
    have B2 := Lib.hid (bthen (b0 _ _) hb1)
    clear hb1
    go_wp2
    refine wp_region_cb (by kernel_rfl) (by kernel_rfl) ?_
    repeat (first
      | go_big_quiet_skip
      | (go_big_quiet_want; first
        | (refine q_cell 22 _ rfl _ Try.underlying22 _ rfl A9 _ (by assumption) ?_; go_simp; go_big_quiet_on)
        | (refine q_row 30 _ rfl rfl A9 19 (rd_size ok.len p b l) _ Try.underlying30 rfl (by kernel_rfl) ?_; go_simp; go_big_quiet_on)
        | (refine q_part 28 _ rfl rfl A9 16 (by rw [rd_size hl]; omega) _ Try.underlying28 rfl (by kernel_rfl) (fl cs) (rd_cars hl p b l) ?_; go_simp; go_big_quiet_on)
        | (go_big_quiet_op; go_big_quiet_on)
        | (go_big_quiet_op; apply Exists.intro; refine ⟨fun w' hw' => ?_, ?_⟩; (go_at_call 43; exact (densestOf_any cs hl ok.nth _).mono fun _ _ h => ⟨h.1, hw'.step h.2⟩); go_big_quiet_on)
        | (go_big_quiet_op; apply Exists.intro; refine ⟨fun w' hw' => ?_, ?_⟩; (go_at_call 45; exact (bestShare_any cs p b l ok _).mono fun _ _ h => ⟨h.1, hw'.step h.2⟩); go_big_quiet_on)))
    refine wpQuiet_nil ?_
    intro w9 hw9
    go_wp2
    go_ret2
    exact ⟨rfl, bthen B2.out hw9⟩

theorem sIsFree_any (cs : List Nat) (p b l : Nat) (hl : cs.length = 16) (hc : ∀ x ∈ cs, x < 4294967296) (hp : p < 4294967296) (hb : b < 4294967296) (hla : l < 4294967296) (w : World) :
    Calls Try.prog 25 #[.agg (rd cs p b l)] w fun e w' => e = .returned (.tuple #[.bool (vIsFree cs p b l).1, .int .i64 (vIsFree cs p b l).2]) ∧ Below w.heap.size w w' := by
  have hr := RoadAt.new w cs p b l 30
  have A0 := At.new w (rd cs p b l) 30
  cases h : okB cs p b l
  · rw [vIsFree_no h]
    go_enter Try.func25, Try.ntmps25
    go_wp2_with fail
    refine (l01Ok_any _ cs p b l hl hc hp hb hla _ hr).mono ?_
    rintro e w1 ⟨rfl, n1, rfl⟩
    go_wp2_with fail
    go_ret2
    exact ⟨rfl, bdrew (b0 _ _) _⟩
  · rw [vIsFree_yes h]
    have ok := OkR.of hl h
    have X : Hid (∀ j, j ≤ 15 → nth cs j ≤ nth cs (dnW cs)) := dn_max cs 15
    have hD := dn_le cs 15
    go_enter Try.func25, Try.ntmps25
    go_wp2_with fail
    refine (l01Ok_any _ cs p b l hl hc hp hb hla _ hr).mono ?_
    rintro e w1 ⟨rfl, n1, rfl⟩
    go_wp2_with fail
    refine (l01Best_any _ cs p b l ok _ (hr.drewN _)).mono ?_
    rintro e w2 ⟨rfl, n2, rfl⟩
    have BB := Lib.hid (bdrew (b0 w (.cells (rd cs p b l) 30)) (n1 + n2))
    go_wp2
    go_loop [5] (fun i => ∃ k : Nat, k ≤ 16 ∧ i = .int .i64 k ∧ Hid (∀ j, j < k → nth cs j ≤ bestW p b)) (fun i => 16 - (intOf i).toNat)
    case atStart => exact ⟨0, by omega, rfl, fun j hj => by omega⟩
    case round =>
      obtain ⟨k, hk, rfl, hall⟩ := hrel
      by_cases hlt : k < 16
      · have hi := A0.cell (rd_cell hl p b l hlt)
        have hgt := gt_amt (x := nth cs k) (y := bestW p b) (Nat.le_trans (ok.car _) (by omega)) (Nat.le_trans (bestW_le ok.pace ok.back) (by omega))
        have hi1 : (k : Int) < 16 := by omega
        by_cases c : bestW p b < nth cs k
        · rw [decide_eq_true c] at hgt
          have hf : Hid (freeB cs (bestW p b) = false) := by
            show freeB cs (bestW p b) = false
            unfold freeB
            have := X.out k (by omega)
            exact decide_eq_false (by omega)
          clear c
          go_wp2
          go_ret2
          exact ⟨by rw [hf.out]; rfl, BB.out⟩
        · rw [decide_eq_false c] at hgt
          have h2 : Hid (∀ j, j < k + 1 → nth cs j ≤ bestW p b) := fun j hj => by
            by_cases e : j = k
            · subst e; omega
            · exact hall.out j (by omega)
          clear c hall
          go_wp2
          exact ⟨⟨k + 1, by omega, by go_num, h2⟩, by simp [intOf]; omega⟩
      · obtain rfl : k = 16 := by omega
        have hf : Hid (freeB cs (bestW p b) = true) := by
          show freeB cs (bestW p b) = true
          unfold freeB
          exact decide_eq_true (hall.out _ (by unfold dnW; omega))
        clear hall
        go_wp2
        go_ret2
        exact ⟨by rw [hf.out]; rfl, BB.out⟩
end Go.Proofs.Ytcnmjbogfkoecab
