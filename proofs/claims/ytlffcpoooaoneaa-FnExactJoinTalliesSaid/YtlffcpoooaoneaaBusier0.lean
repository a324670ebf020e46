/-
  CONTRACTS: the first of two numbers that is not zero.
-/
import Derived.Test.YtlffcpoooaoneaaJoinS
import Derived.Test.YtlffcpoooaoneaaCmpI
namespace Go.Proofs.Ytlffcpoooaoneaa
open Go Go.ChangeShapes Go.WideShapes Go.ChangeAt Go.RowKit
set_option maxRecDepth 100000

theorem turnOf_any (t c f : Int) (w : World) : Calls Try.prog 75 #[.agg (t1 t c f)] w fun e w' => e = .returned (.int .i64 t) ∧ Below w.heap.size w w' := by
  have A0 := At.new w (t1 t c f) 111
  have c0 := A0.cell (t1_0 t c f)
  have B0 := Lib.hid (b0 w (.cells (t1 t c f) 111))
  clear A0
  generalize t1 t c f = row at *
  go_enter Try.func75, Try.ntmps75
  go_wp2_with fail
  go_ret
  exact ⟨rfl, B0.out⟩

/-- the first of two numbers that is not zero -/
def or2 (x y : Int) : Int := if x = 0 then y else x
set_option maxHeartbeats 1000000 in
theorem cmpOr_any (g cap : Nat) (x y : Int) (T : TypeId) (w : World) (h0 : At w g #[.int .i64 x, .int .i64 y] T) :
    Calls Try.prog 140 #[.slice (some ⟨g, 0, none⟩) 2 cap] w fun e w' => e = .returned (.int .i64 (or2 x y)) ∧ Below w.heap.size w w' := by
  have HX := Lib.hid h0
  clear h0
  go_enter Try.func140, Try.ntmps140
  go_wp2
  go_loopw [8] (fun i wr => ∃ k : Nat, k ≤ 2 ∧ i = .int .i64 (k : Int) ∧ At wr g #[.int .i64 x, .int .i64 y] T ∧ Hid (Below w.heap.size w wr) ∧ (0 < k → x = 0) ∧ (1 < k → y = 0)) (fun i _ => 2 - (intOf i).toNat)
  case atStart => exact ⟨0, by omega, rfl, HX.out, Lib.hid (Below.refl _ _), by omega, by omega⟩
  case round =>
    obtain ⟨k, hk, rfl, A1, B1, hx, hy⟩ := hrel
    match k, hk with
    | 0, _ =>
      have c0 := A1.cell (k := 0) rfl
      clear hx hy
      by_cases z : x = 0
      · have z1 : (x != 0) = false := by simpa using z
        have z2 : decide (x = 0) = true := decide_eq_true z
        have z3 : (x == 0) = true := by simpa using z
        have hz := Lib.hid z
        clear z
        go_wp2_with fail
        exact ⟨⟨1, by omega, by go_num, A1, B1, fun _ => hz.out, by omega⟩, by simp [intOf]⟩
      · have z1 : (x != 0) = true := by simpa using z
        have z2 : decide (x = 0) = false := decide_eq_false z
        have z3 : (x == 0) = false := by simpa using z
        have hv := Lib.hid (show or2 x y = x from if_neg z)
        clear z
        go_wp2_with fail
        go_ret
        exact ⟨by rw [hv.out]; rfl, B1.out⟩
    | 1, _ =>
      have c1 := A1.cell (k := 1) rfl
      have hx0 := Lib.hid (hx (by omega))
      clear hx hy
      have hv := Lib.hid (show or2 x y = y from if_pos hx0.out)
      by_cases z : y = 0
      · have z1 : (y != 0) = false := by simpa using z
        have z2 : decide (y = 0) = true := decide_eq_true z
        have z3 : (y == 0) = true := by simpa using z
        have hz := Lib.hid z
        clear z
        go_wp2_with fail
        exact ⟨⟨2, by omega, by go_num, A1, B1, fun _ => hx0.out, fun _ => hz.out⟩, by simp [intOf]⟩
      · have z1 : (y != 0) = true := by simpa using z
        have z2 : decide (y = 0) = false := decide_eq_false z
        have z3 : (y == 0) = false := by simpa using z
        clear z
        go_wp2_with fail
        go_ret
        exact ⟨by rw [hv.out]; rfl, B1.out⟩
    | 2, _ =>
      have hx0 := hx (by omega)
      have hy0 := hy (by omega)
      have hv := Lib.hid (show or2 x y = 0 from by unfold or2; rw [if_pos hx0, hy0])
      clear hx hy hx0 hy0
      go_wp2_with fail
      go_ret
      exact ⟨by rw [hv.out]; rfl, B1.out⟩

end Go.Proofs.Ytlffcpoooaoneaa
