/-
  CONTRACTS: WatchRoad: values; the floor.
-/
import Derived.Test.YtcfoghckdloknaaWatchN
import Derived.Test.YtcfoghckdloknaaCntC
import Derived.Test.YtcfoghckdloknaaVDet
import Derived.Test.YtcfoghckdloknaaTakes
import Derived.Test.YtcfoghckdloknaaFlow
namespace Go.Proofs.Ytcfoghckdloknaa
open Go Go.ChangeShapes Go.WideShapes Go.ChangeAt Go.RowKit
set_option maxRecDepth 100000

theorem fl_run (b : Nat) (w : World) : (callFunc 53 #[.float .f64 b]).run Try.prog w = (do let v ← Go.Extern.MathFloor.toIntegral "math.archFloor" .down #[.float .f64 b]; pure (Next.value v) : Sem Next).run Try.prog w := by kernel_rfl

theorem call_floor {a : Nat} (ha : a ≤ 1098907648) (w : World) :
    (callFunc 53 #[.float .f64 (S64.word false (wideR a))]).run Try.prog w = .ok (.value (.float .f64 (wIk 1074 (flo a)))) w := by
  rw [fl_run]
  have h := wideR_lt (r := a) (by omega)
  have h1 := integral_down (k := 1074) h rfl
  obtain ⟨m, i, h2, -, -⟩ := read_fin S64 false (r := wideR a) (by rw [d_inf]; exact h)
  rw [h2] at h1
  rw [flo_wide ha] at h1
  rw [rte_number _ _ h2, h1, write_word false _ 1074 rfl]
  have h3 := (whole_ops ⟨flo a, by have := flo_le ha; omega⟩).2.2
  rw [Nat.min_eq_left (Nat.le_of_lt h3)]
  rfl

theorem floor_any {a : Nat} (ha : a ≤ 1098907648) (w : World) : Calls Try.prog 27 #[.float .f64 (S64.word false (wideR a))] w (Rd (.float .f64 (wIk 1074 (flo a))) w) := by
  have hc := call_floor ha
  generalize S64.word false (wideR a) = V at *
  generalize wIk 1074 (flo a) = U at *
  go_enter Try.func27, Try.ntmps27
  go_wp2
  go_ret
  exact Rd.mk0

/-- a detector behind a tick on a road -/
def vWR (c : Int) (y : Nat) (n : Int) (f : Nat) (t : Int) (cs : List Nat) (p b l : Nat) : Int × Nat × Int × Nat × Int × Int :=
  if okD c y n f t && okB cs p b l then (if t = 1000000 then (0, 0, 0, 0, 0, 4) else (c, car (addB y (mulB (flowW p b cs c.toNat) l)), ((min (n.toNat + flo (addB y (mulB (flowW p b cs c.toNat) l))) 32767 : Nat) : Int), addB f (nth cs c.toNat), t + 1, 0)) else (0, 0, 0, 0, 0, 1)

section
variable {c : Int} {y : Nat} {n : Int} {f : Nat} {t : Int} {cs : List Nat} {p b l : Nat}
theorem vWR_1 (h : (okD c y n f t && okB cs p b l) = false) : vWR c y n f t cs p b l = (0, 0, 0, 0, 0, 1) := by unfold vWR; rw [h]; rfl

theorem vWR_4 (h : (okD c y n f t && okB cs p b l) = true) (ht : t = 1000000) : vWR c y n f t cs p b l = (0, 0, 0, 0, 0, 4) := by unfold vWR; rw [if_pos h, if_pos ht]

theorem vWR_0 (h : (okD c y n f t && okB cs p b l) = true) (ht : t ≠ 1000000) : vWR c y n f t cs p b l = (c, car (addB y (mulB (flowW p b cs c.toNat) l)), ((min (n.toNat + flo (addB y (mulB (flowW p b cs c.toNat) l))) 32767 : Nat) : Int), addB f (nth cs c.toNat), t + 1, 0) := by unfold vWR; rw [if_pos h, if_neg ht]

/-- what holds at a step that is made -/
theorem wr_facts (hl : cs.length = 16) (h : (okD c y n f t && okB cs p b l) = true) : OkR cs p b l ∧ (0 ≤ c ∧ c ≤ 14) ∧ (0 ≤ n) ∧ (0 ≤ t ∧ t ≤ 1000000) ∧ f < 2139095040 ∧ y < 1065353216 ∧ flowW p b cs c.toNat ≤ 1065353216 ∧ (addB y (mulB (flowW p b cs c.toNat) l)) ≤ 1098907648 ∧
    floatBits .mul .f32 (flowW p b cs c.toNat) l = some (mulB (flowW p b cs c.toNat) l) ∧ floatBits .add .f32 y (mulB (flowW p b cs c.toNat) l) = some (addB y (mulB (flowW p b cs c.toNat) l)) ∧ nth cs c.toNat ≤ 1065353216 := by
  rw [Bool.and_eq_true] at h
  have ok := OkR.of hl h.2
  obtain ⟨h0, h1, h2, h3, h4⟩ := okD_of h.1
  have hf := flowW_le (k := c.toNat) ok
  obtain ⟨g1, g2, g3⟩ := pass_ok h1 hf ok.lanes.2
  exact ⟨ok, h0, h2, h4, h3, h1, hf, g3, g1, g2, ok.car _⟩

theorem vWR_good (hl : cs.length = 16) : ((vWR c y n f t cs p b l).2.1 < 4294967296 ∧ nanB (vWR c y n f t cs p b l).2.1 = false) ∧ ((vWR c y n f t cs p b l).2.2.2.1 < 4294967296 ∧ nanB (vWR c y n f t cs p b l).2.2.2.1 = false) := by
  cases h : (okD c y n f t && okB cs p b l)
  · rw [vWR_1 h]; decide
  · by_cases ht : t = 1000000
    · rw [vWR_4 h ht]; decide
    · rw [vWR_0 h ht]
      obtain ⟨ok, h0, h2, h4, h3, h1, hf, ha, -, -, hs⟩ := wr_facts hl h
      have e1 := (car_ok ha).2
      have e2 := (full_ok h3 hs).2
      exact ⟨nan_le (c := 1065353216) (by show car _ ≤ _; omega) (by omega), nan_le (c := 2139095040) (by show addB _ _ ≤ _; omega) (by omega)⟩
end

end Go.Proofs.Ytcfoghckdloknaa
