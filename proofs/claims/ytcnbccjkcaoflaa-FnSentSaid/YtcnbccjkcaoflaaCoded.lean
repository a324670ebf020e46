/-
  CONTRACTS: the program's and the model's functions from a road to a number and a code.
-/
import Derived.Test.YtcnbccjkcaoflaaFlow
import Derived.Test.YtcnbccjkcaoflaaEq
namespace Go.Proofs.Ytcnbccjkcaoflaa
open Go Go.RowKit

def vBestShare (cs : List Nat) (p b l : Nat) : Nat × Int := if okB cs p b l then (bestW p b, 0) else (0, 1)

theorem vBestShare_yes {cs : List Nat} {p b l : Nat} (h : okB cs p b l = true) : vBestShare cs p b l = (bestW p b, 0) := by unfold vBestShare; rw [if_pos h]

theorem vBestShare_no {cs : List Nat} {p b l : Nat} (h : okB cs p b l = false) : vBestShare cs p b l = (0, 1) := by unfold vBestShare; rw [h]; rfl

theorem BestShare_any (cs : List Nat) (p b l : Nat) (hl : cs.length = 16) (hc : ∀ x ∈ cs, x < 4294967296) (hp : p < 4294967296) (hb : b < 4294967296) (hla : l < 4294967296) (w : World) :
    Calls Try.prog 6 #[.agg (rd cs p b l)] w fun e w' => e = .returned (.tuple #[.float .f32 (vBestShare cs p b l).1, .int .i64 (vBestShare cs p b l).2]) ∧ Below w.heap.size w w' := by
  have A0 := At.new w (rd cs p b l) 28
  cases h : okB cs p b l
  · rw [vBestShare_no h]
    go_enter Try.func6, Try.ntmps6
    go_wp2_with (((with_reducible refine is_load 28 _ rfl ?_); refine wpList_load_at rfl 28 _ rfl _ rfl (rd cs p b l) _ (by assumption) 19 (rd_size hl p b l) _ Try.underlying28 rfl (by kernel_rfl) ?_))
    refine (ValidRoad_any cs p b l hl hc hp hb hla _).mono ?_
    rintro e w1 ⟨rfl, hb1⟩
    go_wp2_with fail
    go_ret2
    exact ⟨rfl, bthen (b0 _ _) hb1⟩
  · rw [vBestShare_yes h]
    have ok := OkR.of hl h
    go_enter Try.func6, Try.ntmps6
    go_wp2_with (((with_reducible refine is_load 28 _ rfl ?_); refine wpList_load_at rfl 28 _ rfl _ rfl (rd cs p b l) _ (by assumption) 19 (rd_size hl p b l) _ Try.underlying28 rfl (by kernel_rfl) ?_))
    refine (ValidRoad_any cs p b l hl hc hp hb hla _).mono ?_
    rintro e w1 ⟨rfl, hb1⟩
    have A1 := A0.step hb1
    go_wp2_with (((with_reducible refine is_load 28 _ rfl ?_); refine wpList_load_at rfl 28 _ rfl _ rfl (rd cs p b l) _ (by assumption) 19 (rd_size hl p b l) _ Try.underlying28 rfl (by kernel_rfl) ?_))
    refine (bestShare_any cs p b l ok _).mono ?_
    rintro e w2 ⟨rfl, hb2⟩
    go_wp2_with fail
    go_ret2
    exact ⟨rfl, bthen (bthen (b0 _ _) hb1) hb2⟩

def vMostFlow (cs : List Nat) (p b l : Nat) : Nat × Int := if okB cs p b l then (mostW p b, 0) else (0, 1)

theorem vMostFlow_yes {cs : List Nat} {p b l : Nat} (h : okB cs p b l = true) : vMostFlow cs p b l = (mostW p b, 0) := by unfold vMostFlow; rw [if_pos h]

theorem vMostFlow_no {cs : List Nat} {p b l : Nat} (h : okB cs p b l = false) : vMostFlow cs p b l = (0, 1) := by unfold vMostFlow; rw [h]; rfl

theorem MostFlow_any (cs : List Nat) (p b l : Nat) (hl : cs.length = 16) (hc : ∀ x ∈ cs, x < 4294967296) (hp : p < 4294967296) (hb : b < 4294967296) (hla : l < 4294967296) (w : World) :
    Calls Try.prog 7 #[.agg (rd cs p b l)] w fun e w' => e = .returned (.tuple #[.float .f32 (vMostFlow cs p b l).1, .int .i64 (vMostFlow cs p b l).2]) ∧ Below w.heap.size w w' := by
  have A0 := At.new w (rd cs p b l) 28
  cases h : okB cs p b l
  · rw [vMostFlow_no h]
    go_enter Try.func7, Try.ntmps7
    go_wp2_with (((with_reducible refine is_load 28 _ rfl ?_); refine wpList_load_at rfl 28 _ rfl _ rfl (rd cs p b l) _ (by assumption) 19 (rd_size hl p b l) _ Try.underlying28 rfl (by kernel_rfl) ?_))
    refine (ValidRoad_any cs p b l hl hc hp hb hla _).mono ?_
    rintro e w1 ⟨rfl, hb1⟩
    go_wp2_with fail
    go_ret2
    exact ⟨rfl, bthen (b0 _ _) hb1⟩
  · rw [vMostFlow_yes h]
    have ok := OkR.of hl h
    go_enter Try.func7, Try.ntmps7
    go_wp2_with (((with_reducible refine is_load 28 _ rfl ?_); refine wpList_load_at rfl 28 _ rfl _ rfl (rd cs p b l) _ (by assumption) 19 (rd_size hl p b l) _ Try.underlying28 rfl (by kernel_rfl) ?_))
    refine (ValidRoad_any cs p b l hl hc hp hb hla _).mono ?_
    rintro e w1 ⟨rfl, hb1⟩
    have A1 := A0.step hb1
    go_wp2_with (((with_reducible refine is_load 28 _ rfl ?_); refine wpList_load_at rfl 28 _ rfl _ rfl (rd cs p b l) _ (by assumption) 19 (rd_size hl p b l) _ Try.underlying28 rfl (by kernel_rfl) ?_))
    refine (mostFlow_any cs p b l ok _).mono ?_
    rintro e w2 ⟨rfl, hb2⟩
    go_wp2_with fail
    go_ret2
    exact ⟨rfl, bthen (bthen (b0 _ _) hb1) hb2⟩

theorem vBestShare_good {cs : List Nat} (hl : cs.length = 16) (p b l : Nat) : (vBestShare cs p b l).1 < 4294967296 ∧ nanB (vBestShare cs p b l).1 = false := by
  cases h : okB cs p b l
  · rw [vBestShare_no h]; exact ⟨by decide, by decide⟩
  · rw [vBestShare_yes h]; have ok := OkR.of hl h; exact nan_le (bestW_le ok.pace ok.back) (by omega)

theorem vMostFlow_good {cs : List Nat} (hl : cs.length = 16) (p b l : Nat) : (vMostFlow cs p b l).1 < 4294967296 ∧ nanB (vMostFlow cs p b l).1 = false := by
  cases h : okB cs p b l
  · rw [vMostFlow_no h]; exact ⟨by decide, by decide⟩
  · rw [vMostFlow_yes h]; have ok := OkR.of hl h; exact nan_le (mostW_le ok.pace ok.back) (by omega)
end Go.Proofs.Ytcnbccjkcaoflaa
