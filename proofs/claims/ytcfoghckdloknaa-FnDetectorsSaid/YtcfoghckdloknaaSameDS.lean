/-
  CONTRACTS: are two detectors the same, as the model asks it.
-/
import Derived.Test.YtcfoghckdloknaaG5
import Derived.Test.YtcfoghckdloknaaNum
namespace Go.Proofs.Ytcfoghckdloknaa
open Go Go.ChangeShapes Go.WideShapes Go.ChangeAt Go.RowKit
set_option maxRecDepth 100000

def sameD (c : Int) (y : Nat) (n : Int) (f : Nat) (t : Int) (c2 : Int) (y2 : Nat) (n2 : Int) (f2 : Nat) (t2 : Int) : Bool := (((decide (c = c2) && sameB y y2) && decide (n = n2)) && sameB f f2) && decide (t = t2)
section
variable {c : Int} {y : Nat} {n : Int} {f : Nat} {t : Int} {c2 : Int} {y2 : Nat} {n2 : Int} {f2 : Nat} {t2 : Int}
theorem sameD_0 (h : ¬ c = c2) : sameD c y n f t c2 y2 n2 f2 t2 = false := by unfold sameD; rw [decide_eq_false h]; rfl
theorem sameD_1 (h : sameB y y2 = false) : sameD c y n f t c2 y2 n2 f2 t2 = false := by unfold sameD; rw [h, Bool.and_false]; rfl
theorem sameD_2 (h : ¬ n = n2) : sameD c y n f t c2 y2 n2 f2 t2 = false := by unfold sameD; rw [decide_eq_false h, Bool.and_false]; rfl
theorem sameD_3 (h : sameB f f2 = false) : sameD c y n f t c2 y2 n2 f2 t2 = false := by unfold sameD; rw [h, Bool.and_false]; rfl
theorem sameD_4 (h : ¬ t = t2) : sameD c y n f t c2 y2 n2 f2 t2 = false := by unfold sameD; rw [decide_eq_false h, Bool.and_false]
theorem sameD_yes (h0 : c = c2) (h1 : sameB y y2 = true) (h2 : n = n2) (h3 : sameB f f2 = true) (h4 : t = t2) : sameD c y n f t c2 y2 n2 f2 t2 = true := by
  unfold sameD; rw [decide_eq_true h0, h1, decide_eq_true h2, h3, decide_eq_true h4]; rfl
end

set_option maxHeartbeats 1000000 in
theorem sSameDetector_any (c : Int) (y : Nat) (n : Int) (f : Nat) (t : Int) (hy : y < 4294967296) (hf : f < 4294967296) (c2 : Int) (y2 : Nat) (n2 : Int) (f2 : Nat) (t2 : Int) (hy2 : y2 < 4294967296) (hf2 : f2 < 4294967296) (w : World) :
    Calls Try.prog 12 #[.agg (dt c y n f t), .agg (dt c2 y2 n2 f2 t2)] w fun e w' => e = .returned (.bool (sameD c y n f t c2 y2 n2 f2 t2)) ∧ Below w.heap.size w w' := by
  have KY := l01Same_any y y2 hy hy2
  have KF := l01Same_any f f2 hf hf2
  have P0 : At ((w.alloc (.cells (dt c y n f t) 33)).alloc (.cells (dt c2 y2 n2 f2 t2) 33)) w.heap.size (dt c y n f t) 33 := (At.new w _ _).alloc _
  have Q0 : At ((w.alloc (.cells (dt c y n f t) 33)).alloc (.cells (dt c2 y2 n2 f2 t2) 33)) (w.heap.size + 1) (dt c2 y2 n2 f2 t2) 33 := At.last1 w _ _ _
  have B0 := Lib.hid (bnew (b0 w (.cells (dt c y n f t) 33)) (.cells (dt c2 y2 n2 f2 t2) 33))
  by_cases q0 : c = c2
  · have hv0 := Lib.hid q0
    have e0 : (c == c2) = true := by simpa using q0
    clear q0
    cases q1 : sameB y y2
    · rw [q1] at KY
      have hv := Lib.hid (sameD_1 (c := c) (n := n) (f := f) (t := t) (c2 := c2) (n2 := n2) (f2 := f2) (t2 := t2) q1)
      have c00 := P0.cell (dt_0 _ _ _ _ _)
      have d00 := Q0.cell (dt_0 _ _ _ _ _)
      have c01 := P0.cell (dt_1 _ _ _ _ _)
      have d01 := Q0.cell (dt_1 _ _ _ _ _)
      have c02 := P0.cell (dt_2 _ _ _ _ _)
      have d02 := Q0.cell (dt_2 _ _ _ _ _)
      have c03 := P0.cell (dt_3 _ _ _ _ _)
      have d03 := Q0.cell (dt_3 _ _ _ _ _)
      have c04 := P0.cell (dt_4 _ _ _ _ _)
      have d04 := Q0.cell (dt_4 _ _ _ _ _)
      go_enter Try.func12, Try.ntmps12
      go_wp2_with fail
      refine (KY _).mono ?_
      rintro e w1 ⟨rfl, m1, rfl⟩
      have P1 := P0.drewN m1
      have Q1 := Q0.drewN m1
      have c10 := P1.cell (dt_0 _ _ _ _ _)
      have d10 := Q1.cell (dt_0 _ _ _ _ _)
      have c11 := P1.cell (dt_1 _ _ _ _ _)
      have d11 := Q1.cell (dt_1 _ _ _ _ _)
      have c12 := P1.cell (dt_2 _ _ _ _ _)
      have d12 := Q1.cell (dt_2 _ _ _ _ _)
      have c13 := P1.cell (dt_3 _ _ _ _ _)
      have d13 := Q1.cell (dt_3 _ _ _ _ _)
      have c14 := P1.cell (dt_4 _ _ _ _ _)
      have d14 := Q1.cell (dt_4 _ _ _ _ _)
      go_wp2_with fail
      go_ret
      exact ⟨by rw [hv.out]; rfl, (bdrew B0.out _)⟩
    · rw [q1] at KY
      by_cases q2 : n = n2
      · have hv2 := Lib.hid q2
        have e2 : (n == n2) = true := by simpa using q2
        clear q2
        cases q3 : sameB f f2
        · rw [q3] at KF
          have hv := Lib.hid (sameD_3 (c := c) (y := y) (n := n) (t := t) (c2 := c2) (y2 := y2) (n2 := n2) (t2 := t2) q3)
          have c00 := P0.cell (dt_0 _ _ _ _ _)
          have d00 := Q0.cell (dt_0 _ _ _ _ _)
          have c01 := P0.cell (dt_1 _ _ _ _ _)
          have d01 := Q0.cell (dt_1 _ _ _ _ _)
          have c02 := P0.cell (dt_2 _ _ _ _ _)
          have d02 := Q0.cell (dt_2 _ _ _ _ _)
          have c03 := P0.cell (dt_3 _ _ _ _ _)
          have d03 := Q0.cell (dt_3 _ _ _ _ _)
          have c04 := P0.cell (dt_4 _ _ _ _ _)
          have d04 := Q0.cell (dt_4 _ _ _ _ _)
          go_enter Try.func12, Try.ntmps12
          go_wp2_with fail
          refine (KY _).mono ?_
          rintro e w1 ⟨rfl, m1, rfl⟩
          have P1 := P0.drewN m1
          have Q1 := Q0.drewN m1
          have c10 := P1.cell (dt_0 _ _ _ _ _)
          have d10 := Q1.cell (dt_0 _ _ _ _ _)
          have c11 := P1.cell (dt_1 _ _ _ _ _)
          have d11 := Q1.cell (dt_1 _ _ _ _ _)
          have c12 := P1.cell (dt_2 _ _ _ _ _)
          have d12 := Q1.cell (dt_2 _ _ _ _ _)
          have c13 := P1.cell (dt_3 _ _ _ _ _)
          have d13 := Q1.cell (dt_3 _ _ _ _ _)
          have c14 := P1.cell (dt_4 _ _ _ _ _)
          have d14 := Q1.cell (dt_4 _ _ _ _ _)
          go_wp2_with fail
          refine (KF _).mono ?_
          rintro e w2 ⟨rfl, m2, rfl⟩
          have P2 := P1.drewN m2
          have Q2 := Q1.drewN m2
          have c20 := P2.cell (dt_0 _ _ _ _ _)
          have d20 := Q2.cell (dt_0 _ _ _ _ _)
          have c21 := P2.cell (dt_1 _ _ _ _ _)
          have d21 := Q2.cell (dt_1 _ _ _ _ _)
          have c22 := P2.cell (dt_2 _ _ _ _ _)
          have d22 := Q2.cell (dt_2 _ _ _ _ _)
          have c23 := P2.cell (dt_3 _ _ _ _ _)
          have d23 := Q2.cell (dt_3 _ _ _ _ _)
          have c24 := P2.cell (dt_4 _ _ _ _ _)
          have d24 := Q2.cell (dt_4 _ _ _ _ _)
          go_wp2_with fail
          go_ret
          exact ⟨by rw [hv.out]; rfl, (bdrew B0.out _)⟩
        · rw [q3] at KF
          by_cases q4 : t = t2
          · have hv := Lib.hid (sameD_yes hv0.out q1 hv2.out q3 q4)
            have e4 : (t == t2) = true := by simpa using q4
            clear q4
            have c00 := P0.cell (dt_0 _ _ _ _ _)
            have d00 := Q0.cell (dt_0 _ _ _ _ _)
            have c01 := P0.cell (dt_1 _ _ _ _ _)
            have d01 := Q0.cell (dt_1 _ _ _ _ _)
            have c02 := P0.cell (dt_2 _ _ _ _ _)
            have d02 := Q0.cell (dt_2 _ _ _ _ _)
            have c03 := P0.cell (dt_3 _ _ _ _ _)
            have d03 := Q0.cell (dt_3 _ _ _ _ _)
            have c04 := P0.cell (dt_4 _ _ _ _ _)
            have d04 := Q0.cell (dt_4 _ _ _ _ _)
            go_enter Try.func12, Try.ntmps12
            go_wp2_with fail
            refine (KY _).mono ?_
            rintro e w1 ⟨rfl, m1, rfl⟩
            have P1 := P0.drewN m1
            have Q1 := Q0.drewN m1
            have c10 := P1.cell (dt_0 _ _ _ _ _)
            have d10 := Q1.cell (dt_0 _ _ _ _ _)
            have c11 := P1.cell (dt_1 _ _ _ _ _)
            have d11 := Q1.cell (dt_1 _ _ _ _ _)
            have c12 := P1.cell (dt_2 _ _ _ _ _)
            have d12 := Q1.cell (dt_2 _ _ _ _ _)
            have c13 := P1.cell (dt_3 _ _ _ _ _)
            have d13 := Q1.cell (dt_3 _ _ _ _ _)
            have c14 := P1.cell (dt_4 _ _ _ _ _)
            have d14 := Q1.cell (dt_4 _ _ _ _ _)
            go_wp2_with fail
            refine (KF _).mono ?_
            rintro e w2 ⟨rfl, m2, rfl⟩
            have P2 := P1.drewN m2
            have Q2 := Q1.drewN m2
            have c20 := P2.cell (dt_0 _ _ _ _ _)
            have d20 := Q2.cell (dt_0 _ _ _ _ _)
            have c21 := P2.cell (dt_1 _ _ _ _ _)
            have d21 := Q2.cell (dt_1 _ _ _ _ _)
            have c22 := P2.cell (dt_2 _ _ _ _ _)
            have d22 := Q2.cell (dt_2 _ _ _ _ _)
            have c23 := P2.cell (dt_3 _ _ _ _ _)
            have d23 := Q2.cell (dt_3 _ _ _ _ _)
            have c24 := P2.cell (dt_4 _ _ _ _ _)
            have d24 := Q2.cell (dt_4 _ _ _ _ _)
            go_wp2_with fail
            go_ret
            exact ⟨by rw [hv.out]; rfl, (bdrew B0.out _)⟩
          · have hv := Lib.hid (sameD_4 (c := c) (y := y) (n := n) (f := f) (c2 := c2) (y2 := y2) (n2 := n2) (f2 := f2) q4)
            have e4 : (t == t2) = false := by simpa using q4
            have e4' : decide (t = t2) = false := decide_eq_false q4
            clear q4
            have c00 := P0.cell (dt_0 _ _ _ _ _)
            have d00 := Q0.cell (dt_0 _ _ _ _ _)
            have c01 := P0.cell (dt_1 _ _ _ _ _)
            have d01 := Q0.cell (dt_1 _ _ _ _ _)
            have c02 := P0.cell (dt_2 _ _ _ _ _)
            have d02 := Q0.cell (dt_2 _ _ _ _ _)
            have c03 := P0.cell (dt_3 _ _ _ _ _)
            have d03 := Q0.cell (dt_3 _ _ _ _ _)
            have c04 := P0.cell (dt_4 _ _ _ _ _)
            have d04 := Q0.cell (dt_4 _ _ _ _ _)
            go_enter Try.func12, Try.ntmps12
            go_wp2_with fail
            refine (KY _).mono ?_
            rintro e w1 ⟨rfl, m1, rfl⟩
            have P1 := P0.drewN m1
            have Q1 := Q0.drewN m1
            have c10 := P1.cell (dt_0 _ _ _ _ _)
            have d10 := Q1.cell (dt_0 _ _ _ _ _)
            have c11 := P1.cell (dt_1 _ _ _ _ _)
            have d11 := Q1.cell (dt_1 _ _ _ _ _)
            have c12 := P1.cell (dt_2 _ _ _ _ _)
            have d12 := Q1.cell (dt_2 _ _ _ _ _)
            have c13 := P1.cell (dt_3 _ _ _ _ _)
            have d13 := Q1.cell (dt_3 _ _ _ _ _)
            have c14 := P1.cell (dt_4 _ _ _ _ _)
            have d14 := Q1.cell (dt_4 _ _ _ _ _)
            go_wp2_with fail
            refine (KF _).mono ?_
            rintro e w2 ⟨rfl, m2, rfl⟩
            have P2 := P1.drewN m2
            have Q2 := Q1.drewN m2
            have c20 := P2.cell (dt_0 _ _ _ _ _)
            have d20 := Q2.cell (dt_0 _ _ _ _ _)
            have c21 := P2.cell (dt_1 _ _ _ _ _)
            have d21 := Q2.cell (dt_1 _ _ _ _ _)
            have c22 := P2.cell (dt_2 _ _ _ _ _)
            have d22 := Q2.cell (dt_2 _ _ _ _ _)
            have c23 := P2.cell (dt_3 _ _ _ _ _)
            have d23 := Q2.cell (dt_3 _ _ _ _ _)
            have c24 := P2.cell (dt_4 _ _ _ _ _)
            have d24 := Q2.cell (dt_4 _ _ _ _ _)
            go_wp2_with fail
            go_ret
            exact ⟨by rw [hv.out]; rfl, (bdrew B0.out _)⟩
      · have hv := Lib.hid (sameD_2 (c := c) (y := y) (f := f) (t := t) (c2 := c2) (y2 := y2) (f2 := f2) (t2 := t2) q2)
        have e2 : (n == n2) = false := by simpa using q2
        have e2' : decide (n = n2) = false := decide_eq_false q2
        clear q2
        have c00 := P0.cell (dt_0 _ _ _ _ _)
        have d00 := Q0.cell (dt_0 _ _ _ _ _)
        have c01 := P0.cell (dt_1 _ _ _ _ _)
        have d01 := Q0.cell (dt_1 _ _ _ _ _)
        have c02 := P0.cell (dt_2 _ _ _ _ _)
        have d02 := Q0.cell (dt_2 _ _ _ _ _)
        have c03 := P0.cell (dt_3 _ _ _ _ _)
        have d03 := Q0.cell (dt_3 _ _ _ _ _)
        have c04 := P0.cell (dt_4 _ _ _ _ _)
        have d04 := Q0.cell (dt_4 _ _ _ _ _)
        go_enter Try.func12, Try.ntmps12
        go_wp2_with fail
        refine (KY _).mono ?_
        rintro e w1 ⟨rfl, m1, rfl⟩
        have P1 := P0.drewN m1
        have Q1 := Q0.drewN m1
        have c10 := P1.cell (dt_0 _ _ _ _ _)
        have d10 := Q1.cell (dt_0 _ _ _ _ _)
        have c11 := P1.cell (dt_1 _ _ _ _ _)
        have d11 := Q1.cell (dt_1 _ _ _ _ _)
        have c12 := P1.cell (dt_2 _ _ _ _ _)
        have d12 := Q1.cell (dt_2 _ _ _ _ _)
        have c13 := P1.cell (dt_3 _ _ _ _ _)
        have d13 := Q1.cell (dt_3 _ _ _ _ _)
        have c14 := P1.cell (dt_4 _ _ _ _ _)
        have d14 := Q1.cell (dt_4 _ _ _ _ _)
        go_wp2_with fail
        go_ret
        exact ⟨by rw [hv.out]; rfl, (bdrew B0.out _)⟩
  · have hv := Lib.hid (sameD_0 (y := y) (n := n) (f := f) (t := t) (y2 := y2) (n2 := n2) (f2 := f2) (t2 := t2) q0)
    have e0 : (c == c2) = false := by simpa using q0
    have e0' : decide (c = c2) = false := decide_eq_false q0
    clear q0
    have c00 := P0.cell (dt_0 _ _ _ _ _)
    have d00 := Q0.cell (dt_0 _ _ _ _ _)
    have c01 := P0.cell (dt_1 _ _ _ _ _)
    have d01 := Q0.cell (dt_1 _ _ _ _ _)
    have c02 := P0.cell (dt_2 _ _ _ _ _)
    have d02 := Q0.cell (dt_2 _ _ _ _ _)
    have c03 := P0.cell (dt_3 _ _ _ _ _)
    have d03 := Q0.cell (dt_3 _ _ _ _ _)
    have c04 := P0.cell (dt_4 _ _ _ _ _)
    have d04 := Q0.cell (dt_4 _ _ _ _ _)
    go_enter Try.func12, Try.ntmps12
    go_wp2_with fail
    go_ret
    exact ⟨by rw [hv.out]; rfl, B0.out⟩

end Go.Proofs.Ytcfoghckdloknaa
