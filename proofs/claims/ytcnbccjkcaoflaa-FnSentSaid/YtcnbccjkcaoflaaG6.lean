/-
  SEVERAL TEXTS IN ONE.
-/
import Derived.Test.YtcnbccjkcaoflaaTakes
import Derived.Test.YtcnbccjkcaoflaaSentQ
import Derived.Test.YtcnbccjkcaoflaaMergeL
import Derived.WalkKit
import Derived.Deep.LoopGhost
import Derived.IntWalk

/-
  CONTRACTS: FlowBetween.
-/
namespace Go.Proofs.Ytcnbccjkcaoflaa
open Go Go.RowKit

def vFlowBetween (cs : List Nat) (p b l : Nat) (k : Int) : Nat × Int := if okB cs p b l then (if 0 ≤ k ∧ k ≤ 14 then (flowW p b cs k.toNat, 0) else (0, 2)) else (0, 1)

theorem vFlowBetween_yes {cs : List Nat} {p b l k : Nat} (h : okB cs p b l = true) (hk : k < 15) : vFlowBetween cs p b l k = (flowW p b cs k, 0) := by unfold vFlowBetween; rw [if_pos h, if_pos (by omega), Int.toNat_natCast]

theorem vFlowBetween_no {cs : List Nat} {p b l : Nat} {k : Int} (h : okB cs p b l = false) : vFlowBetween cs p b l k = (0, 1) := by unfold vFlowBetween; rw [h]; rfl

theorem vFlowBetween_bad {cs : List Nat} {p b l : Nat} {k : Int} (h : okB cs p b l = true) (hk : ¬ (0 ≤ k ∧ k ≤ 14)) : vFlowBetween cs p b l k = (0, 2) := by unfold vFlowBetween; rw [if_pos h, if_neg hk]

theorem FlowBetween_any (cs : List Nat) (p b l : Nat) (hl : cs.length = 16) (hc : ∀ x ∈ cs, x < 4294967296) (hp : p < 4294967296) (hb : b < 4294967296) (hla : l < 4294967296) (k : Int) (_hk : -9223372036854775808 ≤ k ∧ k ≤ 9223372036854775807) (w : World) :
    Calls Try.prog 16 #[.agg (rd cs p b l), .int .i64 k] w fun e w' => e = .returned (.tuple #[.float .f32 (vFlowBetween cs p b l k).1, .int .i64 (vFlowBetween cs p b l k).2]) ∧ Below w.heap.size w w' := by
  have A0 := At.new w (rd cs p b l) 28
  clear _hk
  cases h : okB cs p b l
  · rw [vFlowBetween_no h]
    go_enter Try.func16, Try.ntmps16
    go_wp2_with (((with_reducible refine is_load 28 _ rfl ?_); refine wpList_load_at rfl 28 _ rfl _ rfl (rd cs p b l) _ (by assumption) 19 (rd_size hl p b l) _ Try.underlying28 rfl (by kernel_rfl) ?_))
    refine (ValidRoad_any cs p b l hl hc hp hb hla _).mono ?_
    rintro e w1 ⟨rfl, hb1⟩
    go_wp2_with fail
    go_ret2
    exact ⟨rfl, bthen (b0 _ _) hb1⟩
  · have ok := OkR.of hl h
    by_cases c : 0 ≤ k ∧ k ≤ 14
    · obtain ⟨n, rfl⟩ := Int.eq_ofNat_of_zero_le c.1
      have hn : n < 15 := by omega
      rw [vFlowBetween_yes h hn]
      clear c
      go_enter Try.func16, Try.ntmps16
      go_wp2_with (((with_reducible refine is_load 28 _ rfl ?_); refine wpList_load_at rfl 28 _ rfl _ rfl (rd cs p b l) _ (by assumption) 19 (rd_size hl p b l) _ Try.underlying28 rfl (by kernel_rfl) ?_))
      refine (ValidRoad_any cs p b l hl hc hp hb hla _).mono ?_
      rintro e w1 ⟨rfl, hb1⟩
      have A1 := A0.step hb1
      have hne : ((n : Int) == 15) = false := by simp; omega
      go_wp2_with fail
      refine (isCell_any n _).mono ?_
      rw [decide_eq_true (by omega : 0 ≤ (n : Int) ∧ (n : Int) < 16)]
      rintro e w2 ⟨rfl, n2, rfl⟩
      have A2 := A1.drewN n2
      go_wp2_with (((with_reducible refine is_load 28 _ rfl ?_); refine wpList_load_at rfl 28 _ rfl _ rfl (rd cs p b l) _ (by assumption) 19 (rd_size hl p b l) _ Try.underlying28 rfl (by kernel_rfl) ?_))
      refine (flowBetween_any n (by omega) cs p b l ok _).mono ?_
      rintro e w2 ⟨rfl, hb2⟩
      go_wp2_with fail
      go_ret2
      exact ⟨rfl, bthen (bthen (b0 _ _) hb1) (Below.trans (Below.drewN0 _ _) hb2)⟩
    · rw [vFlowBetween_bad h c]
      go_enter Try.func16, Try.ntmps16
      go_wp2_with (((with_reducible refine is_load 28 _ rfl ?_); refine wpList_load_at rfl 28 _ rfl _ rfl (rd cs p b l) _ (by assumption) 19 (rd_size hl p b l) _ Try.underlying28 rfl (by kernel_rfl) ?_))
      refine (ValidRoad_any cs p b l hl hc hp hb hla _).mono ?_
      rintro e w1 ⟨rfl, hb1⟩
      by_cases c2 : 0 ≤ k ∧ k < 16
      · obtain rfl : k = 15 := by omega
        go_wp2_with fail
        refine (isCell_any 15 _).mono ?_
        rw [decide_eq_true c2]
        rintro e w2 ⟨rfl, n2, rfl⟩
        clear c2 c
        go_wp2_with fail
        go_ret2
        exact ⟨rfl, bdrew (bthen (b0 _ _) hb1) _⟩
      go_wp2_with fail
      refine (isCell_any k _).mono ?_
      rw [decide_eq_false c2]
      rintro e w2 ⟨rfl, n2, rfl⟩
      clear c2 c
      go_wp2_with fail
      go_ret2
      exact ⟨rfl, bdrew (bthen (b0 _ _) hb1) _⟩

theorem vFlowBetween_good {cs : List Nat} (hl : cs.length = 16) (p b l : Nat) (k : Int) : (vFlowBetween cs p b l k).1 < 4294967296 ∧ nanB (vFlowBetween cs p b l k).1 = false := by
  cases h : okB cs p b l
  · rw [vFlowBetween_no h]; exact ⟨by decide, by decide⟩
  · have ok := OkR.of hl h
    by_cases c : 0 ≤ k ∧ k ≤ 14
    · obtain ⟨n, rfl⟩ := Int.eq_ofNat_of_zero_le c.1
      rw [vFlowBetween_yes h (by omega)]
      exact nan_le (flowW_le ok) (by omega)
    · rw [vFlowBetween_bad h c]; exact ⟨by decide, by decide⟩
end Go.Proofs.Ytcnbccjkcaoflaa

/-
  CONTRACTS: two amounts, the first at most the second, that lie within a ten thousandth.
-/
namespace Go.Proofs.Ytcnbccjkcaoflaa
open Go Go.RowKit
set_option maxRecDepth 100000

theorem a2Near_yes (t u : Nat) (h : t ≤ u) (hu : u < 2139095040) (hs : subB u t ≤ 953267991) (w : World) : Calls Try.prog 15 #[.float .f32 t, .float .f32 u, .float .f32 953267991] w fun e w' => e = .returned (.bool true) ∧ w' = w := by
  have h1 := fun ty w => run_float_arith (P := Try.prog) w .sub ty .f32 _ _ _ (sub_any (t := t) (b := u) (by omega) hu)
  have h2 := fun ty w => run_float_arith (P := Try.prog) w .sub ty .f32 _ _ _ (sub_any (t := u) (b := t) hu (by omega))
  unfold dW at h1 h2
  simp only [if_pos h] at h2
  have g2 : (FloatKind.f32.format.order (subB u t) 953267991 == some .lt || FloatKind.f32.format.order (subB u t) 953267991 == some .eq) = true := by
    rw [le_amt (by omega) (by omega)]; exact decide_eq_true hs
  by_cases c : u ≤ t
  · obtain rfl : t = u := by omega
    simp only [if_pos h] at h1
    clear c h hs hu
    go_enter Try.func15, Try.ntmps15
    go_wp2
    go_ret
    exact ⟨rfl, rfl⟩
  · simp only [if_neg c] at h1
    obtain ⟨p0, p1⟩ := sub_pos hu (show t < u by omega)
    have g1 : (FloatKind.f32.format.order (2147483648 + subB u t) 953267991 == some .lt || FloatKind.f32.format.order (2147483648 + subB u t) 953267991 == some .eq) = true := by
      rw [order_neg (Nat.le_of_lt p1) p0 (by omega)]; rfl
    clear c h hs hu p0 p1
    go_enter Try.func15, Try.ntmps15
    go_wp2
    go_ret
    exact ⟨rfl, rfl⟩

end Go.Proofs.Ytcnbccjkcaoflaa
