/-
  CONTRACTS: valid detectors, on both sides.
-/
import Derived.Test.YtcfoghckdloknaaG4
import Derived.Test.YtcfoghckdloknaaG5
import Derived.Test.YtcfoghckdloknaaNum
namespace Go.Proofs.Ytcfoghckdloknaa
open Go Go.ChangeShapes Go.WideShapes Go.ChangeAt Go.RowKit
set_option maxRecDepth 100000

/-- is it a valid detector -/
def okD (c : Int) (y : Nat) (n : Int) (f : Nat) (t : Int) : Bool := ((((inB 0 14 c && amtB y) && decide (y < 1065353216)) && decide (0 ≤ n)) && amtB f) && inB 0 1000000 t
section
variable {c : Int} {y : Nat} {n : Int} {f : Nat} {t : Int}
theorem okD_0 (h : inB 0 14 c = false) : okD c y n f t = false := by unfold okD; rw [h]; rfl
theorem okD_1 (h : amtB y = false) : okD c y n f t = false := by unfold okD; rw [h, Bool.and_false]; rfl
theorem okD_2 (h : ¬ y < 1065353216) : okD c y n f t = false := by unfold okD; rw [decide_eq_false h, Bool.and_false]; rfl
theorem okD_3 (h : ¬ 0 ≤ n) : okD c y n f t = false := by unfold okD; rw [decide_eq_false h, Bool.and_false]; rfl
theorem okD_4 (h : amtB f = false) : okD c y n f t = false := by unfold okD; rw [h, Bool.and_false]; rfl
theorem okD_5 (h : inB 0 1000000 t = false) : okD c y n f t = false := by unfold okD; rw [h, Bool.and_false]
theorem okD_yes (h0 : inB 0 14 c = true) (h1 : amtB y = true) (h2 : y < 1065353216) (h3 : 0 ≤ n) (h4 : amtB f = true) (h5 : inB 0 1000000 t = true) : okD c y n f t = true := by
  unfold okD; rw [h0, h1, decide_eq_true h2, decide_eq_true h3, h4, h5]; rfl
theorem okD_of (h : okD c y n f t = true) : (0 ≤ c ∧ c ≤ 14) ∧ y < 1065353216 ∧ 0 ≤ n ∧ f < 2139095040 ∧ (0 ≤ t ∧ t ≤ 1000000) := by
  unfold okD inB amtB at h
  simp only [Bool.and_eq_true, decide_eq_true_eq] at h
  exact ⟨h.1.1.1.1.1, h.1.1.1.2, h.1.1.2, h.1.2, h.2⟩
end

set_option maxHeartbeats 1000000 in
theorem l05Ok_any (c : Int) (y : Nat) (n : Int) (f : Nat) (t : Int) (hy : y < 4294967296) (hf : f < 4294967296) (g : Nat) (T : TypeId) (w : World) (h0 : At w g (dt c y n f t) T) :
    Calls Try.prog 28 #[.pointer (some ⟨g, 0, none⟩)] w fun e w' => e = .returned (.bool (okD c y n f t)) ∧ Below w.heap.size w w' := by
  have P0 := h0
  have B0 := Lib.hid (Below.refl w.heap.size w)
  have c00 := P0.cell (dt_0 _ _ _ _ _)
  have c01 := P0.cell (dt_1 _ _ _ _ _)
  have c02 := P0.cell (dt_2 _ _ _ _ _)
  have c03 := P0.cell (dt_3 _ _ _ _ _)
  have c04 := P0.cell (dt_4 _ _ _ _ _)
  have K0 := l05Cell_b c
  have K1 := l01Amount_any y hy
  have K4 := l01Amount_any f hf
  have K5 := l00In_b t 0 1000000
  cases q0 : inB 0 14 c
  · have hv := Lib.hid (okD_0 q0 (c := c) (y := y) (n := n) (f := f) (t := t))
    rw [q0] at K0
    go_enter Try.func28, Try.ntmps28
    go_wp2_with fail
    refine (K0 _).mono ?_
    rintro e w1 ⟨rfl, n1, rfl⟩
    have P1 := P0.drewN n1
    have c10 := P1.cell (dt_0 _ _ _ _ _)
    have c11 := P1.cell (dt_1 _ _ _ _ _)
    have c12 := P1.cell (dt_2 _ _ _ _ _)
    have c13 := P1.cell (dt_3 _ _ _ _ _)
    have c14 := P1.cell (dt_4 _ _ _ _ _)
    go_wp2_with fail
    go_ret
    exact ⟨by rw [hv.out]; rfl, (bdrew B0.out _)⟩
  · rw [q0] at K0
    cases q1 : amtB y
    · have hv := Lib.hid (okD_1 q1 (c := c) (y := y) (n := n) (f := f) (t := t))
      rw [q1] at K1
      go_enter Try.func28, Try.ntmps28
      go_wp2_with fail
      refine (K0 _).mono ?_
      rintro e w1 ⟨rfl, n1, rfl⟩
      have P1 := P0.drewN n1
      have c10 := P1.cell (dt_0 _ _ _ _ _)
      have c11 := P1.cell (dt_1 _ _ _ _ _)
      have c12 := P1.cell (dt_2 _ _ _ _ _)
      have c13 := P1.cell (dt_3 _ _ _ _ _)
      have c14 := P1.cell (dt_4 _ _ _ _ _)
      go_wp2_with fail
      refine (K1 _).mono ?_
      rintro e w2 ⟨rfl, n2, rfl⟩
      have P2 := P1.drewN n2
      have c20 := P2.cell (dt_0 _ _ _ _ _)
      have c21 := P2.cell (dt_1 _ _ _ _ _)
      have c22 := P2.cell (dt_2 _ _ _ _ _)
      have c23 := P2.cell (dt_3 _ _ _ _ _)
      have c24 := P2.cell (dt_4 _ _ _ _ _)
      go_wp2_with fail
      go_ret
      exact ⟨by rw [hv.out]; rfl, (bdrew B0.out _)⟩
    · rw [q1] at K1
      have o1 := lt_amt (x := y) (y := 1065353216) (by have := of_decide_eq_true q1; omega) (by omega)
      by_cases q2 : y < 1065353216
      · rw [decide_eq_true q2] at o1
        by_cases q3 : 0 ≤ n
        · have z3 : decide (0 ≤ n) = true := decide_eq_true q3
          cases q4 : amtB f
          · have hv := Lib.hid (okD_4 q4 (c := c) (y := y) (n := n) (f := f) (t := t))
            rw [q4] at K4
            go_enter Try.func28, Try.ntmps28
            go_wp2_with fail
            refine (K0 _).mono ?_
            rintro e w1 ⟨rfl, n1, rfl⟩
            have P1 := P0.drewN n1
            have c10 := P1.cell (dt_0 _ _ _ _ _)
            have c11 := P1.cell (dt_1 _ _ _ _ _)
            have c12 := P1.cell (dt_2 _ _ _ _ _)
            have c13 := P1.cell (dt_3 _ _ _ _ _)
            have c14 := P1.cell (dt_4 _ _ _ _ _)
            go_wp2_with fail
            refine (K1 _).mono ?_
            rintro e w2 ⟨rfl, n2, rfl⟩
            have P2 := P1.drewN n2
            have c20 := P2.cell (dt_0 _ _ _ _ _)
            have c21 := P2.cell (dt_1 _ _ _ _ _)
            have c22 := P2.cell (dt_2 _ _ _ _ _)
            have c23 := P2.cell (dt_3 _ _ _ _ _)
            have c24 := P2.cell (dt_4 _ _ _ _ _)
            go_wp2_with fail
            refine (K4 _).mono ?_
            rintro e w3 ⟨rfl, n3, rfl⟩
            have P3 := P2.drewN n3
            have c30 := P3.cell (dt_0 _ _ _ _ _)
            have c31 := P3.cell (dt_1 _ _ _ _ _)
            have c32 := P3.cell (dt_2 _ _ _ _ _)
            have c33 := P3.cell (dt_3 _ _ _ _ _)
            have c34 := P3.cell (dt_4 _ _ _ _ _)
            go_wp2_with fail
            go_ret
            exact ⟨by rw [hv.out]; rfl, (bdrew B0.out _)⟩
          · rw [q4] at K4
            cases q5 : inB 0 1000000 t
            · have hv := Lib.hid (okD_5 q5 (c := c) (y := y) (n := n) (f := f) (t := t))
              rw [q5] at K5
              go_enter Try.func28, Try.ntmps28
              go_wp2_with fail
              refine (K0 _).mono ?_
              rintro e w1 ⟨rfl, n1, rfl⟩
              have P1 := P0.drewN n1
              have c10 := P1.cell (dt_0 _ _ _ _ _)
              have c11 := P1.cell (dt_1 _ _ _ _ _)
              have c12 := P1.cell (dt_2 _ _ _ _ _)
              have c13 := P1.cell (dt_3 _ _ _ _ _)
              have c14 := P1.cell (dt_4 _ _ _ _ _)
              go_wp2_with fail
              refine (K1 _).mono ?_
              rintro e w2 ⟨rfl, n2, rfl⟩
              have P2 := P1.drewN n2
              have c20 := P2.cell (dt_0 _ _ _ _ _)
              have c21 := P2.cell (dt_1 _ _ _ _ _)
              have c22 := P2.cell (dt_2 _ _ _ _ _)
              have c23 := P2.cell (dt_3 _ _ _ _ _)
              have c24 := P2.cell (dt_4 _ _ _ _ _)
              go_wp2_with fail
              refine (K4 _).mono ?_
              rintro e w3 ⟨rfl, n3, rfl⟩
              have P3 := P2.drewN n3
              have c30 := P3.cell (dt_0 _ _ _ _ _)
              have c31 := P3.cell (dt_1 _ _ _ _ _)
              have c32 := P3.cell (dt_2 _ _ _ _ _)
              have c33 := P3.cell (dt_3 _ _ _ _ _)
              have c34 := P3.cell (dt_4 _ _ _ _ _)
              go_wp2_with fail
              refine (K5 _).mono ?_
              rintro e w4 ⟨rfl, n4, rfl⟩
              have P4 := P3.drewN n4
              have c40 := P4.cell (dt_0 _ _ _ _ _)
              have c41 := P4.cell (dt_1 _ _ _ _ _)
              have c42 := P4.cell (dt_2 _ _ _ _ _)
              have c43 := P4.cell (dt_3 _ _ _ _ _)
              have c44 := P4.cell (dt_4 _ _ _ _ _)
              go_wp2_with fail
              go_ret
              exact ⟨by rw [hv.out]; rfl, (bdrew B0.out _)⟩
            · rw [q5] at K5
              have hv := Lib.hid (okD_yes q0 q1 q2 q3 q4 q5)
              go_enter Try.func28, Try.ntmps28
              go_wp2_with fail
              refine (K0 _).mono ?_
              rintro e w1 ⟨rfl, n1, rfl⟩
              have P1 := P0.drewN n1
              have c10 := P1.cell (dt_0 _ _ _ _ _)
              have c11 := P1.cell (dt_1 _ _ _ _ _)
              have c12 := P1.cell (dt_2 _ _ _ _ _)
              have c13 := P1.cell (dt_3 _ _ _ _ _)
              have c14 := P1.cell (dt_4 _ _ _ _ _)
              go_wp2_with fail
              refine (K1 _).mono ?_
              rintro e w2 ⟨rfl, n2, rfl⟩
              have P2 := P1.drewN n2
              have c20 := P2.cell (dt_0 _ _ _ _ _)
              have c21 := P2.cell (dt_1 _ _ _ _ _)
              have c22 := P2.cell (dt_2 _ _ _ _ _)
              have c23 := P2.cell (dt_3 _ _ _ _ _)
              have c24 := P2.cell (dt_4 _ _ _ _ _)
              go_wp2_with fail
              refine (K4 _).mono ?_
              rintro e w3 ⟨rfl, n3, rfl⟩
              have P3 := P2.drewN n3
              have c30 := P3.cell (dt_0 _ _ _ _ _)
              have c31 := P3.cell (dt_1 _ _ _ _ _)
              have c32 := P3.cell (dt_2 _ _ _ _ _)
              have c33 := P3.cell (dt_3 _ _ _ _ _)
              have c34 := P3.cell (dt_4 _ _ _ _ _)
              go_wp2_with fail
              refine (K5 _).mono ?_
              rintro e w4 ⟨rfl, n4, rfl⟩
              have P4 := P3.drewN n4
              have c40 := P4.cell (dt_0 _ _ _ _ _)
              have c41 := P4.cell (dt_1 _ _ _ _ _)
              have c42 := P4.cell (dt_2 _ _ _ _ _)
              have c43 := P4.cell (dt_3 _ _ _ _ _)
              have c44 := P4.cell (dt_4 _ _ _ _ _)
              go_wp2_with fail
              go_ret
              exact ⟨by rw [hv.out]; rfl, (bdrew B0.out _)⟩
        · have z3 : decide (0 ≤ n) = false := decide_eq_false q3
          have hv := Lib.hid (okD_3 q3 (c := c) (y := y) (f := f) (t := t))
          go_enter Try.func28, Try.ntmps28
          go_wp2_with fail
          refine (K0 _).mono ?_
          rintro e w1 ⟨rfl, n1, rfl⟩
          have P1 := P0.drewN n1
          have c10 := P1.cell (dt_0 _ _ _ _ _)
          have c11 := P1.cell (dt_1 _ _ _ _ _)
          have c12 := P1.cell (dt_2 _ _ _ _ _)
          have c13 := P1.cell (dt_3 _ _ _ _ _)
          have c14 := P1.cell (dt_4 _ _ _ _ _)
          go_wp2_with fail
          refine (K1 _).mono ?_
          rintro e w2 ⟨rfl, n2, rfl⟩
          have P2 := P1.drewN n2
          have c20 := P2.cell (dt_0 _ _ _ _ _)
          have c21 := P2.cell (dt_1 _ _ _ _ _)
          have c22 := P2.cell (dt_2 _ _ _ _ _)
          have c23 := P2.cell (dt_3 _ _ _ _ _)
          have c24 := P2.cell (dt_4 _ _ _ _ _)
          go_wp2_with fail
          go_ret
          exact ⟨by rw [hv.out]; rfl, (bdrew B0.out _)⟩
      · rw [decide_eq_false q2] at o1
        have hv := Lib.hid (okD_2 q2 (c := c) (n := n) (f := f) (t := t))
        go_enter Try.func28, Try.ntmps28
        go_wp2_with fail
        refine (K0 _).mono ?_
        rintro e w1 ⟨rfl, n1, rfl⟩
        have P1 := P0.drewN n1
        have c10 := P1.cell (dt_0 _ _ _ _ _)
        have c11 := P1.cell (dt_1 _ _ _ _ _)
        have c12 := P1.cell (dt_2 _ _ _ _ _)
        have c13 := P1.cell (dt_3 _ _ _ _ _)
        have c14 := P1.cell (dt_4 _ _ _ _ _)
        go_wp2_with fail
        refine (K1 _).mono ?_
        rintro e w2 ⟨rfl, n2, rfl⟩
        have P2 := P1.drewN n2
        have c20 := P2.cell (dt_0 _ _ _ _ _)
        have c21 := P2.cell (dt_1 _ _ _ _ _)
        have c22 := P2.cell (dt_2 _ _ _ _ _)
        have c23 := P2.cell (dt_3 _ _ _ _ _)
        have c24 := P2.cell (dt_4 _ _ _ _ _)
        go_wp2_with fail
        go_ret
        exact ⟨by rw [hv.out]; rfl, (bdrew B0.out _)⟩

set_option maxHeartbeats 1000000 in
theorem ValidDetector_any (c : Int) (y : Nat) (n : Int) (f : Nat) (t : Int) (hy : y < 4294967296) (hf : f < 4294967296) (w : World) :
    Calls Try.prog 8 #[.agg (dt c y n f t)] w fun e w' => e = .returned (.bool (okD c y n f t)) ∧ Below w.heap.size w w' := by
  have P0 := At.new w (dt c y n f t) 33
  have B0 := Lib.hid (b0 w (.cells (dt c y n f t) 33))
  have c00 := P0.cell (dt_0 _ _ _ _ _)
  have c01 := P0.cell (dt_1 _ _ _ _ _)
  have c02 := P0.cell (dt_2 _ _ _ _ _)
  have c03 := P0.cell (dt_3 _ _ _ _ _)
  have c04 := P0.cell (dt_4 _ _ _ _ _)
  have K0 := isDetectorCell_b c
  have K1 := IsAmount_any y hy
  have K4 := IsAmount_any f hf
  cases q0 : inB 0 14 c
  · have hv := Lib.hid (okD_0 q0 (c := c) (y := y) (n := n) (f := f) (t := t))
    rw [q0] at K0
    go_enter Try.func8, Try.ntmps8
    go_wp2_with fail
    refine (K0 _).mono ?_
    rintro e w1 ⟨rfl, n1, rfl⟩
    have P1 := P0.drewN n1
    have c10 := P1.cell (dt_0 _ _ _ _ _)
    have c11 := P1.cell (dt_1 _ _ _ _ _)
    have c12 := P1.cell (dt_2 _ _ _ _ _)
    have c13 := P1.cell (dt_3 _ _ _ _ _)
    have c14 := P1.cell (dt_4 _ _ _ _ _)
    go_wp2_with fail
    go_ret
    exact ⟨by rw [hv.out]; rfl, (bdrew B0.out _)⟩
  · rw [q0] at K0
    cases q1 : amtB y
    · have hv := Lib.hid (okD_1 q1 (c := c) (y := y) (n := n) (f := f) (t := t))
      rw [q1] at K1
      go_enter Try.func8, Try.ntmps8
      go_wp2_with fail
      refine (K0 _).mono ?_
      rintro e w1 ⟨rfl, n1, rfl⟩
      have P1 := P0.drewN n1
      have c10 := P1.cell (dt_0 _ _ _ _ _)
      have c11 := P1.cell (dt_1 _ _ _ _ _)
      have c12 := P1.cell (dt_2 _ _ _ _ _)
      have c13 := P1.cell (dt_3 _ _ _ _ _)
      have c14 := P1.cell (dt_4 _ _ _ _ _)
      go_wp2_with fail
      refine (K1 _).mono ?_
      rintro e w2 ⟨rfl, n2, rfl⟩
      have P2 := P1.drewN n2
      have c20 := P2.cell (dt_0 _ _ _ _ _)
      have c21 := P2.cell (dt_1 _ _ _ _ _)
      have c22 := P2.cell (dt_2 _ _ _ _ _)
      have c23 := P2.cell (dt_3 _ _ _ _ _)
      have c24 := P2.cell (dt_4 _ _ _ _ _)
      go_wp2_with fail
      go_ret
      exact ⟨by rw [hv.out]; rfl, (bdrew B0.out _)⟩
    · rw [q1] at K1
      have o1 := lt_amt (x := y) (y := 1065353216) (by have := of_decide_eq_true q1; omega) (by omega)
      by_cases q2 : y < 1065353216
      · rw [decide_eq_true q2] at o1
        by_cases q3 : 0 ≤ n
        · have z3 : decide (0 ≤ n) = true := decide_eq_true q3
          cases q4 : amtB f
          · have hv := Lib.hid (okD_4 q4 (c := c) (y := y) (n := n) (f := f) (t := t))
            rw [q4] at K4
            go_enter Try.func8, Try.ntmps8
            go_wp2_with fail
            refine (K0 _).mono ?_
            rintro e w1 ⟨rfl, n1, rfl⟩
            have P1 := P0.drewN n1
            have c10 := P1.cell (dt_0 _ _ _ _ _)
            have c11 := P1.cell (dt_1 _ _ _ _ _)
            have c12 := P1.cell (dt_2 _ _ _ _ _)
            have c13 := P1.cell (dt_3 _ _ _ _ _)
            have c14 := P1.cell (dt_4 _ _ _ _ _)
            go_wp2_with fail
            refine (K1 _).mono ?_
            rintro e w2 ⟨rfl, n2, rfl⟩
            have P2 := P1.drewN n2
            have c20 := P2.cell (dt_0 _ _ _ _ _)
            have c21 := P2.cell (dt_1 _ _ _ _ _)
            have c22 := P2.cell (dt_2 _ _ _ _ _)
            have c23 := P2.cell (dt_3 _ _ _ _ _)
            have c24 := P2.cell (dt_4 _ _ _ _ _)
            go_wp2_with fail
            refine (K4 _).mono ?_
            rintro e w3 ⟨rfl, n3, rfl⟩
            have P3 := P2.drewN n3
            have c30 := P3.cell (dt_0 _ _ _ _ _)
            have c31 := P3.cell (dt_1 _ _ _ _ _)
            have c32 := P3.cell (dt_2 _ _ _ _ _)
            have c33 := P3.cell (dt_3 _ _ _ _ _)
            have c34 := P3.cell (dt_4 _ _ _ _ _)
            go_wp2_with fail
            go_ret
            exact ⟨by rw [hv.out]; rfl, (bdrew B0.out _)⟩
          · rw [q4] at K4
            by_cases t1 : 0 ≤ t
            · by_cases t2 : t ≤ 1000000
              · have q5 : inB 0 1000000 t = true := decide_eq_true ⟨t1, t2⟩
                have t2' : decide (t ≤ 1000000) = true := decide_eq_true t2
                have hv := Lib.hid (okD_yes q0 q1 q2 q3 q4 q5)
                go_enter Try.func8, Try.ntmps8
                go_wp2_with fail
                refine (K0 _).mono ?_
                rintro e w1 ⟨rfl, n1, rfl⟩
                have P1 := P0.drewN n1
                have c10 := P1.cell (dt_0 _ _ _ _ _)
                have c11 := P1.cell (dt_1 _ _ _ _ _)
                have c12 := P1.cell (dt_2 _ _ _ _ _)
                have c13 := P1.cell (dt_3 _ _ _ _ _)
                have c14 := P1.cell (dt_4 _ _ _ _ _)
                go_wp2_with fail
                refine (K1 _).mono ?_
                rintro e w2 ⟨rfl, n2, rfl⟩
                have P2 := P1.drewN n2
                have c20 := P2.cell (dt_0 _ _ _ _ _)
                have c21 := P2.cell (dt_1 _ _ _ _ _)
                have c22 := P2.cell (dt_2 _ _ _ _ _)
                have c23 := P2.cell (dt_3 _ _ _ _ _)
                have c24 := P2.cell (dt_4 _ _ _ _ _)
                go_wp2_with fail
                refine (K4 _).mono ?_
                rintro e w3 ⟨rfl, n3, rfl⟩
                have P3 := P2.drewN n3
                have c30 := P3.cell (dt_0 _ _ _ _ _)
                have c31 := P3.cell (dt_1 _ _ _ _ _)
                have c32 := P3.cell (dt_2 _ _ _ _ _)
                have c33 := P3.cell (dt_3 _ _ _ _ _)
                have c34 := P3.cell (dt_4 _ _ _ _ _)
                go_wp2_with fail
                go_ret
                exact ⟨by rw [hv.out]; rfl, (bdrew B0.out _)⟩
              · have q5 : inB 0 1000000 t = false := decide_eq_false (by omega)
                have t2' : decide (t ≤ 1000000) = false := decide_eq_false t2
                have hv := Lib.hid (okD_5 q5 (c := c) (y := y) (n := n) (f := f))
                go_enter Try.func8, Try.ntmps8
                go_wp2_with fail
                refine (K0 _).mono ?_
                rintro e w1 ⟨rfl, n1, rfl⟩
                have P1 := P0.drewN n1
                have c10 := P1.cell (dt_0 _ _ _ _ _)
                have c11 := P1.cell (dt_1 _ _ _ _ _)
                have c12 := P1.cell (dt_2 _ _ _ _ _)
                have c13 := P1.cell (dt_3 _ _ _ _ _)
                have c14 := P1.cell (dt_4 _ _ _ _ _)
                go_wp2_with fail
                refine (K1 _).mono ?_
                rintro e w2 ⟨rfl, n2, rfl⟩
                have P2 := P1.drewN n2
                have c20 := P2.cell (dt_0 _ _ _ _ _)
                have c21 := P2.cell (dt_1 _ _ _ _ _)
                have c22 := P2.cell (dt_2 _ _ _ _ _)
                have c23 := P2.cell (dt_3 _ _ _ _ _)
                have c24 := P2.cell (dt_4 _ _ _ _ _)
                go_wp2_with fail
                refine (K4 _).mono ?_
                rintro e w3 ⟨rfl, n3, rfl⟩
                have P3 := P2.drewN n3
                have c30 := P3.cell (dt_0 _ _ _ _ _)
                have c31 := P3.cell (dt_1 _ _ _ _ _)
                have c32 := P3.cell (dt_2 _ _ _ _ _)
                have c33 := P3.cell (dt_3 _ _ _ _ _)
                have c34 := P3.cell (dt_4 _ _ _ _ _)
                go_wp2_with fail
                go_ret
                exact ⟨by rw [hv.out]; rfl, (bdrew B0.out _)⟩
            · have q5 : inB 0 1000000 t = false := decide_eq_false (by omega)
              have t1' : decide (0 ≤ t) = false := decide_eq_false t1
              have hv := Lib.hid (okD_5 q5 (c := c) (y := y) (n := n) (f := f))
              go_enter Try.func8, Try.ntmps8
              go_wp2_with fail
              refine (K0 _).mono ?_
              rintro e w1 ⟨rfl, n1, rfl⟩
              have P1 := P0.drewN n1
              have c10 := P1.cell (dt_0 _ _ _ _ _)
              have c11 := P1.cell (dt_1 _ _ _ _ _)
              have c12 := P1.cell (dt_2 _ _ _ _ _)
              have c13 := P1.cell (dt_3 _ _ _ _ _)
              have c14 := P1.cell (dt_4 _ _ _ _ _)
              go_wp2_with fail
              refine (K1 _).mono ?_
              rintro e w2 ⟨rfl, n2, rfl⟩
              have P2 := P1.drewN n2
              have c20 := P2.cell (dt_0 _ _ _ _ _)
              have c21 := P2.cell (dt_1 _ _ _ _ _)
              have c22 := P2.cell (dt_2 _ _ _ _ _)
              have c23 := P2.cell (dt_3 _ _ _ _ _)
              have c24 := P2.cell (dt_4 _ _ _ _ _)
              go_wp2_with fail
              refine (K4 _).mono ?_
              rintro e w3 ⟨rfl, n3, rfl⟩
              have P3 := P2.drewN n3
              have c30 := P3.cell (dt_0 _ _ _ _ _)
              have c31 := P3.cell (dt_1 _ _ _ _ _)
              have c32 := P3.cell (dt_2 _ _ _ _ _)
              have c33 := P3.cell (dt_3 _ _ _ _ _)
              have c34 := P3.cell (dt_4 _ _ _ _ _)
              go_wp2_with fail
              go_ret
              exact ⟨by rw [hv.out]; rfl, (bdrew B0.out _)⟩
        · have z3 : decide (0 ≤ n) = false := decide_eq_false q3
          have hv := Lib.hid (okD_3 q3 (c := c) (y := y) (f := f) (t := t))
          go_enter Try.func8, Try.ntmps8
          go_wp2_with fail
          refine (K0 _).mono ?_
          rintro e w1 ⟨rfl, n1, rfl⟩
          have P1 := P0.drewN n1
          have c10 := P1.cell (dt_0 _ _ _ _ _)
          have c11 := P1.cell (dt_1 _ _ _ _ _)
          have c12 := P1.cell (dt_2 _ _ _ _ _)
          have c13 := P1.cell (dt_3 _ _ _ _ _)
          have c14 := P1.cell (dt_4 _ _ _ _ _)
          go_wp2_with fail
          refine (K1 _).mono ?_
          rintro e w2 ⟨rfl, n2, rfl⟩
          have P2 := P1.drewN n2
          have c20 := P2.cell (dt_0 _ _ _ _ _)
          have c21 := P2.cell (dt_1 _ _ _ _ _)
          have c22 := P2.cell (dt_2 _ _ _ _ _)
          have c23 := P2.cell (dt_3 _ _ _ _ _)
          have c24 := P2.cell (dt_4 _ _ _ _ _)
          go_wp2_with fail
          go_ret
          exact ⟨by rw [hv.out]; rfl, (bdrew B0.out _)⟩
      · rw [decide_eq_false q2] at o1
        have hv := Lib.hid (okD_2 q2 (c := c) (n := n) (f := f) (t := t))
        go_enter Try.func8, Try.ntmps8
        go_wp2_with fail
        refine (K0 _).mono ?_
        rintro e w1 ⟨rfl, n1, rfl⟩
        have P1 := P0.drewN n1
        have c10 := P1.cell (dt_0 _ _ _ _ _)
        have c11 := P1.cell (dt_1 _ _ _ _ _)
        have c12 := P1.cell (dt_2 _ _ _ _ _)
        have c13 := P1.cell (dt_3 _ _ _ _ _)
        have c14 := P1.cell (dt_4 _ _ _ _ _)
        go_wp2_with fail
        refine (K1 _).mono ?_
        rintro e w2 ⟨rfl, n2, rfl⟩
        have P2 := P1.drewN n2
        have c20 := P2.cell (dt_0 _ _ _ _ _)
        have c21 := P2.cell (dt_1 _ _ _ _ _)
        have c22 := P2.cell (dt_2 _ _ _ _ _)
        have c23 := P2.cell (dt_3 _ _ _ _ _)
        have c24 := P2.cell (dt_4 _ _ _ _ _)
        go_wp2_with fail
        go_ret
        exact ⟨by rw [hv.out]; rfl, (bdrew B0.out _)⟩

end Go.Proofs.Ytcfoghckdloknaa
