/-
  CONTRACTS: SendsAt.
-/
import Derived.Test.YtcnbccjkcaoflaaCell2
namespace Go.Proofs.Ytcnbccjkcaoflaa
open Go Go.RowKit

def vSendsAt (cs : List Nat) (p b l : Nat) (k : Int) : Nat × Int := if okB cs p b l then (if 0 ≤ k ∧ k ≤ 15 then (sendsW p b (nth cs k.toNat), 0) else (0, 2)) else (0, 1)

theorem vSendsAt_yes {cs : List Nat} {p b l k : Nat} (h : okB cs p b l = true) (hk : k < 16) : vSendsAt cs p b l k = (sendsW p b (nth cs k), 0) := by unfold vSendsAt; rw [if_pos h, if_pos (by omega), Int.toNat_natCast]

theorem vSendsAt_no {cs : List Nat} {p b l : Nat} {k : Int} (h : okB cs p b l = false) : vSendsAt cs p b l k = (0, 1) := by unfold vSendsAt; rw [h]; rfl

theorem vSendsAt_bad {cs : List Nat} {p b l : Nat} {k : Int} (h : okB cs p b l = true) (hk : ¬ (0 ≤ k ∧ k ≤ 15)) : vSendsAt cs p b l k = (0, 2) := by unfold vSendsAt; rw [if_pos h, if_neg hk]

theorem SendsAt_any (cs : List Nat) (p b l : Nat) (hl : cs.length = 16) (hc : ∀ x ∈ cs, x < 4294967296) (hp : p < 4294967296) (hb : b < 4294967296) (hla : l < 4294967296) (k : Int) (_hk : -9223372036854775808 ≤ k ∧ k ≤ 9223372036854775807) (w : World) :
    Calls Try.prog 11 #[.agg (rd cs p b l), .int .i64 k] w fun e w' => e = .returned (.tuple #[.float .f32 (vSendsAt cs p b l k).1, .int .i64 (vSendsAt cs p b l k).2]) ∧ Below w.heap.size w w' := by
  have A0 := At.new w (rd cs p b l) 28
  clear _hk
  cases h : okB cs p b l
  · rw [vSendsAt_no h]
    go_enter Try.func11, Try.ntmps11
    go_wp2_with (((with_reducible refine is_load 28 _ rfl ?_); refine wpList_load_at rfl 28 _ rfl _ rfl (rd cs p b l) _ (by assumption) 19 (rd_size hl p b l) _ Try.underlying28 rfl (by kernel_rfl) ?_))
    refine (ValidRoad_any cs p b l hl hc hp hb hla _).mono ?_
    rintro e w1 ⟨rfl, hb1⟩
    go_wp2_with fail
    go_ret2
    exact ⟨rfl, bthen (b0 _ _) hb1⟩
  · have ok := OkR.of hl h
    by_cases c : 0 ≤ k ∧ k ≤ 15
    · obtain ⟨n, rfl⟩ := Int.eq_ofNat_of_zero_le c.1
      have hn : n < 16 := by omega
      rw [vSendsAt_yes h hn]
      clear c
      go_enter Try.func11, Try.ntmps11
      go_wp2_with (((with_reducible refine is_load 28 _ rfl ?_); refine wpList_load_at rfl 28 _ rfl _ rfl (rd cs p b l) _ (by assumption) 19 (rd_size hl p b l) _ Try.underlying28 rfl (by kernel_rfl) ?_))
      refine (ValidRoad_any cs p b l hl hc hp hb hla _).mono ?_
      rintro e w1 ⟨rfl, hb1⟩
      have A1 := A0.step hb1
      go_wp2_with fail
      refine (isCell_any n _).mono ?_
      rw [decide_eq_true (by omega : 0 ≤ (n : Int) ∧ (n : Int) < 16)]
      rintro e w2 ⟨rfl, n2, rfl⟩
      have A2 := A1.drewN n2
      go_wp2_with (((with_reducible refine is_load 28 _ rfl ?_); refine wpList_load_at rfl 28 _ rfl _ rfl (rd cs p b l) _ (by assumption) 19 (rd_size hl p b l) _ Try.underlying28 rfl (by kernel_rfl) ?_))
      refine (sendsAt_any n (by omega) cs p b l ok _).mono ?_
      rintro e w2 ⟨rfl, hb2⟩
      go_wp2_with fail
      go_ret2
      exact ⟨rfl, bthen (bthen (b0 _ _) hb1) (Below.trans (Below.drewN0 _ _) hb2)⟩
    · rw [vSendsAt_bad h c]
      go_enter Try.func11, Try.ntmps11
      go_wp2_with (((with_reducible refine is_load 28 _ rfl ?_); refine wpList_load_at rfl 28 _ rfl _ rfl (rd cs p b l) _ (by assumption) 19 (rd_size hl p b l) _ Try.underlying28 rfl (by kernel_rfl) ?_))
      refine (ValidRoad_any cs p b l hl hc hp hb hla _).mono ?_
      rintro e w1 ⟨rfl, hb1⟩
      go_wp2_with fail
      refine (isCell_any k _).mono ?_
      rw [decide_eq_false (by omega : ¬ (0 ≤ k ∧ k < 16))]
      rintro e w2 ⟨rfl, n2, rfl⟩
      go_wp2_with fail
      go_ret2
      exact ⟨rfl, bdrew (bthen (b0 _ _) hb1) _⟩

theorem vSendsAt_good {cs : List Nat} (hl : cs.length = 16) (p b l : Nat) (k : Int) : (vSendsAt cs p b l k).1 < 4294967296 ∧ nanB (vSendsAt cs p b l k).1 = false := by
  cases h : okB cs p b l
  · rw [vSendsAt_no h]; exact ⟨by decide, by decide⟩
  · have ok := OkR.of hl h
    by_cases c : 0 ≤ k ∧ k ≤ 15
    · obtain ⟨n, rfl⟩ := Int.eq_ofNat_of_zero_le c.1
      rw [vSendsAt_yes h (by omega)]
      exact nan_le (sendsW_le ok.pace (ok.car n)) (by omega)
    · rw [vSendsAt_bad h c]; exact ⟨by decide, by decide⟩
end Go.Proofs.Ytcnbccjkcaoflaa
