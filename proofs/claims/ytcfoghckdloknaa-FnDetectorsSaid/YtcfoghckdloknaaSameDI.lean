/-
  CONTRACTS: are two detectors the same, as the program asks it.
-/
import Derived.Test.YtcfoghckdloknaaSameDS
import Derived.Laws.StructEq
namespace Go.Proofs.Ytcfoghckdloknaa
open Go Go.ChangeShapes Go.WideShapes Go.ChangeAt Go.RowKit
set_option maxRecDepth 100000

theorem run_equalIn_fz {P : Program} (w : World) (d : Nat) (t : TypeId) (h : P.underlying t = some (.float .f32)) : (Op.equalIn (d + 1) t (.float .f32 0) (.float .f32 0)).run P w = .ok true w := by
  have ho : Op.floatEq .f32 0 0 = true := by decide +kernel
  simp [Op.equalIn, run_underlying h, ho]
theorem eq_zeroF (w : World) : (Op.equalIn 9999 24 (.float .f32 0) (.float .f32 0)).run Try.prog w = .ok true w := run_equalIn_fz w 9998 _ Try.underlying24
set_option maxHeartbeats 1000000 in
theorem SameDetector_any (c : Int) (y : Nat) (n : Int) (f : Nat) (t : Int) (hy : y < 4294967296) (hf : f < 4294967296) (c2 : Int) (y2 : Nat) (n2 : Int) (f2 : Nat) (t2 : Int) (hy2 : y2 < 4294967296) (hf2 : f2 < 4294967296) (w : World) :
    Calls Try.prog 13 #[.agg (dt c y n f t), .agg (dt c2 y2 n2 f2 t2)] w fun e w' => e = .returned (.bool (sameD c y n f t c2 y2 n2 f2 t2)) ∧ Below w.heap.size w w' := by
  have KY := SameNumber_any y y2 hy hy2
  have KF := SameNumber_any f f2 hf hf2
  have hz := eq_zeroF
  have P0 : At ((w.alloc (.cells (dt c y n f t) 33)).alloc (.cells (dt c2 y2 n2 f2 t2) 33)) w.heap.size (dt c y n f t) 33 := (At.new w _ _).alloc _
  have Q0 : At ((w.alloc (.cells (dt c y n f t) 33)).alloc (.cells (dt c2 y2 n2 f2 t2) 33)) (w.heap.size + 1) (dt c2 y2 n2 f2 t2) 33 := At.last1 w _ _ _
  have B0 := Lib.hid (bnew (b0 w (.cells (dt c y n f t) 33)) (.cells (dt c2 y2 n2 f2 t2) 33))
  cases q1 : sameB y y2
  · rw [q1] at KY
    have hv := Lib.hid (sameD_1 (c := c) (n := n) (f := f) (t := t) (c2 := c2) (n2 := n2) (f2 := f2) (t2 := t2) q1)
    have c00 := P0.cell (dt_0 _ _ _ _ _)
    have d00 := Q0.cell (dt_0 _ _ _ _ _)
    have c01 := P0.cell (dt_1 _ _ _ _ _)
    have d01 := Q0.cell (dt_1 _ _ _ _ _)
    have c02 := P0.cell (dt_2 _ _ _ _ _)
    have d02 := Q0.cell (dt_2 _ _ _ _ _)
    have c03 := P0.cell (dt_3 _ _ _ _ _)
    have d03 := Q0.cell (dt_3 _ _ _ _ _)
    have c04 := P0.cell (dt_4 _ _ _ _ _)
    have d04 := Q0.cell (dt_4 _ _ _ _ _)
    go_enter Try.func13, Try.ntmps13
    go_wp2_with fail
    refine (KY _).mono ?_
    rintro e w1 ⟨rfl, m1, rfl⟩
    have P1 := P0.drewN m1
    have Q1 := Q0.drewN m1
    have B1 := Lib.hid (bdrew B0.out m1)
    generalize World.drewN _ m1 = w1 at P1 Q1 B1 ⊢
    clear c00 d00 c01 d01 c02 d02 c03 d03 c04 d04
    have hne : w.heap.size ≠ w.heap.size + 1 := by omega
    have P3 := P1.setRow (dt c 0 n f t)
    have Q3 := Q1.setRow_other (k := w.heap.size) (by omega) (dt c 0 n f t)
    have B3 := Lib.hid (bset B1.out (g := w.heap.size) (Nat.le_refl _) (dt c 0 n f t))
    have P4 := P3.setRow (dt c 0 n 0 t)
    have Q4 := Q3.setRow_other (k := w.heap.size) (by omega) (dt c 0 n 0 t)
    have B4 := Lib.hid (bset B3.out (g := w.heap.size) (Nat.le_refl _) (dt c 0 n 0 t))
    have Q5 := Q4.setRow (dt c2 0 n2 f2 t2)
    have P5 := P4.setRow_other (k := w.heap.size + 1) (by omega) (dt c2 0 n2 f2 t2)
    have B5 := Lib.hid (bset B4.out (g := w.heap.size + 1) (by omega) (dt c2 0 n2 f2 t2))
    have Q6 := Q5.setRow (dt c2 0 n2 0 t2)
    have P6 := P5.setRow_other (k := w.heap.size + 1) (by omega) (dt c2 0 n2 0 t2)
    have B6 := Lib.hid (bset B5.out (g := w.heap.size + 1) (by omega) (dt c2 0 n2 0 t2))
    have c60 := P6.cell (dt_0 _ _ _ _ _)
    have d60 := Q6.cell (dt_0 _ _ _ _ _)
    have c61 := P6.cell (dt_1 _ _ _ _ _)
    have d61 := Q6.cell (dt_1 _ _ _ _ _)
    have c62 := P6.cell (dt_2 _ _ _ _ _)
    have d62 := Q6.cell (dt_2 _ _ _ _ _)
    have c63 := P6.cell (dt_3 _ _ _ _ _)
    have d63 := Q6.cell (dt_3 _ _ _ _ _)
    have c64 := P6.cell (dt_4 _ _ _ _ _)
    have d64 := Q6.cell (dt_4 _ _ _ _ _)
    clear P6 Q6 B3 B4 B5
    go_wp2_with (first | ((with_reducible refine is_store 24 _ _ rfl ?_); refine wpList_store_cell rfl 24 _ _ rfl _ 1 rfl (.float .f32 0) rfl ((dt c y n f t)) _ (by with_reducible assumption) (by rw [dt_size]; omega) (by kernel_rfl) rfl ((dt c 0 n f t)) (dt_s1 _ _ _ _ _ _) ?_) | ((with_reducible refine is_store 24 _ _ rfl ?_); refine wpList_store_cell rfl 24 _ _ rfl _ 3 rfl (.float .f32 0) rfl ((dt c 0 n f t)) _ (by with_reducible assumption) (by rw [dt_size]; omega) (by kernel_rfl) rfl ((dt c 0 n 0 t)) (dt_s3 _ _ _ _ _ _) ?_) | ((with_reducible refine is_store 24 _ _ rfl ?_); refine wpList_store_cell rfl 24 _ _ rfl _ 1 rfl (.float .f32 0) rfl ((dt c2 y2 n2 f2 t2)) _ (by with_reducible assumption) (by rw [dt_size]; omega) (by kernel_rfl) rfl ((dt c2 0 n2 f2 t2)) (dt_s1 _ _ _ _ _ _) ?_) | ((with_reducible refine is_store 24 _ _ rfl ?_); refine wpList_store_cell rfl 24 _ _ rfl _ 3 rfl (.float .f32 0) rfl ((dt c2 0 n2 f2 t2)) _ (by with_reducible assumption) (by rw [dt_size]; omega) (by kernel_rfl) rfl ((dt c2 0 n2 0 t2)) (dt_s3 _ _ _ _ _ _) ?_) | (simp only [hz]))
    go_ret
    exact ⟨by rw [hv.out]; rfl, B6.out⟩
  · rw [q1] at KY
    cases q3 : sameB f f2
    · rw [q3] at KF
      have hv := Lib.hid (sameD_3 (c := c) (y := y) (n := n) (t := t) (c2 := c2) (y2 := y2) (n2 := n2) (t2 := t2) q3)
      have c00 := P0.cell (dt_0 _ _ _ _ _)
      have d00 := Q0.cell (dt_0 _ _ _ _ _)
      have c01 := P0.cell (dt_1 _ _ _ _ _)
      have d01 := Q0.cell (dt_1 _ _ _ _ _)
      have c02 := P0.cell (dt_2 _ _ _ _ _)
      have d02 := Q0.cell (dt_2 _ _ _ _ _)
      have c03 := P0.cell (dt_3 _ _ _ _ _)
      have d03 := Q0.cell (dt_3 _ _ _ _ _)
      have c04 := P0.cell (dt_4 _ _ _ _ _)
      have d04 := Q0.cell (dt_4 _ _ _ _ _)
      go_enter Try.func13, Try.ntmps13
      go_wp2_with fail
      refine (KY _).mono ?_
      rintro e w1 ⟨rfl, m1, rfl⟩
      have P1 := P0.drewN m1
      have Q1 := Q0.drewN m1
      have B1 := Lib.hid (bdrew B0.out m1)
      generalize World.drewN _ m1 = w1 at P1 Q1 B1 ⊢
      clear c00 d00 c01 d01 c02 d02 c03 d03 c04 d04
      have c10 := P1.cell (dt_0 _ _ _ _ _)
      have d10 := Q1.cell (dt_0 _ _ _ _ _)
      have c11 := P1.cell (dt_1 _ _ _ _ _)
      have d11 := Q1.cell (dt_1 _ _ _ _ _)
      have c12 := P1.cell (dt_2 _ _ _ _ _)
      have d12 := Q1.cell (dt_2 _ _ _ _ _)
      have c13 := P1.cell (dt_3 _ _ _ _ _)
      have d13 := Q1.cell (dt_3 _ _ _ _ _)
      have c14 := P1.cell (dt_4 _ _ _ _ _)
      have d14 := Q1.cell (dt_4 _ _ _ _ _)
      go_wp2_with fail
      refine (KF _).mono ?_
      rintro e w2 ⟨rfl, m2, rfl⟩
      have P2 := P1.drewN m2
      have Q2 := Q1.drewN m2
      have B2 := Lib.hid (bdrew B1.out m2)
      generalize World.drewN _ m2 = w2 at P2 Q2 B2 ⊢
      clear c10 d10 c11 d11 c12 d12 c13 d13 c14 d14
      have hne : w.heap.size ≠ w.heap.size + 1 := by omega
      have P3 := P2.setRow (dt c 0 n f t)
      have Q3 := Q2.setRow_other (k := w.heap.size) (by omega) (dt c 0 n f t)
      have B3 := Lib.hid (bset B2.out (g := w.heap.size) (Nat.le_refl _) (dt c 0 n f t))
      have P4 := P3.setRow (dt c 0 n 0 t)
      have Q4 := Q3.setRow_other (k := w.heap.size) (by omega) (dt c 0 n 0 t)
      have B4 := Lib.hid (bset B3.out (g := w.heap.size) (Nat.le_refl _) (dt c 0 n 0 t))
      have Q5 := Q4.setRow (dt c2 0 n2 f2 t2)
      have P5 := P4.setRow_other (k := w.heap.size + 1) (by omega) (dt c2 0 n2 f2 t2)
      have B5 := Lib.hid (bset B4.out (g := w.heap.size + 1) (by omega) (dt c2 0 n2 f2 t2))
      have Q6 := Q5.setRow (dt c2 0 n2 0 t2)
      have P6 := P5.setRow_other (k := w.heap.size + 1) (by omega) (dt c2 0 n2 0 t2)
      have B6 := Lib.hid (bset B5.out (g := w.heap.size + 1) (by omega) (dt c2 0 n2 0 t2))
      have c60 := P6.cell (dt_0 _ _ _ _ _)
      have d60 := Q6.cell (dt_0 _ _ _ _ _)
      have c61 := P6.cell (dt_1 _ _ _ _ _)
      have d61 := Q6.cell (dt_1 _ _ _ _ _)
      have c62 := P6.cell (dt_2 _ _ _ _ _)
      have d62 := Q6.cell (dt_2 _ _ _ _ _)
      have c63 := P6.cell (dt_3 _ _ _ _ _)
      have d63 := Q6.cell (dt_3 _ _ _ _ _)
      have c64 := P6.cell (dt_4 _ _ _ _ _)
      have d64 := Q6.cell (dt_4 _ _ _ _ _)
      clear P6 Q6 B3 B4 B5
      go_wp2_with (first | ((with_reducible refine is_store 24 _ _ rfl ?_); refine wpList_store_cell rfl 24 _ _ rfl _ 1 rfl (.float .f32 0) rfl ((dt c y n f t)) _ (by with_reducible assumption) (by rw [dt_size]; omega) (by kernel_rfl) rfl ((dt c 0 n f t)) (dt_s1 _ _ _ _ _ _) ?_) | ((with_reducible refine is_store 24 _ _ rfl ?_); refine wpList_store_cell rfl 24 _ _ rfl _ 3 rfl (.float .f32 0) rfl ((dt c 0 n f t)) _ (by with_reducible assumption) (by rw [dt_size]; omega) (by kernel_rfl) rfl ((dt c 0 n 0 t)) (dt_s3 _ _ _ _ _ _) ?_) | ((with_reducible refine is_store 24 _ _ rfl ?_); refine wpList_store_cell rfl 24 _ _ rfl _ 1 rfl (.float .f32 0) rfl ((dt c2 y2 n2 f2 t2)) _ (by with_reducible assumption) (by rw [dt_size]; omega) (by kernel_rfl) rfl ((dt c2 0 n2 f2 t2)) (dt_s1 _ _ _ _ _ _) ?_) | ((with_reducible refine is_store 24 _ _ rfl ?_); refine wpList_store_cell rfl 24 _ _ rfl _ 3 rfl (.float .f32 0) rfl ((dt c2 0 n2 f2 t2)) _ (by with_reducible assumption) (by rw [dt_size]; omega) (by kernel_rfl) rfl ((dt c2 0 n2 0 t2)) (dt_s3 _ _ _ _ _ _) ?_) | (simp only [hz]))
      go_ret
      exact ⟨by rw [hv.out]; rfl, B6.out⟩
    · rw [q3] at KF
      by_cases q0 : c = c2
      · have hv0 := Lib.hid q0
        have e0 : (c == c2) = true := by simpa using q0
        clear q0
        by_cases q2 : n = n2
        · have hv2 := Lib.hid q2
          have e2 : (n == n2) = true := by simpa using q2
          clear q2
          by_cases q4 : t = t2
          · have hv := Lib.hid (sameD_yes hv0.out q1 hv2.out q3 q4)
            have e4 : (t == t2) = true := by simpa using q4
            clear q4
            have c00 := P0.cell (dt_0 _ _ _ _ _)
            have d00 := Q0.cell (dt_0 _ _ _ _ _)
            have c01 := P0.cell (dt_1 _ _ _ _ _)
            have d01 := Q0.cell (dt_1 _ _ _ _ _)
            have c02 := P0.cell (dt_2 _ _ _ _ _)
            have d02 := Q0.cell (dt_2 _ _ _ _ _)
            have c03 := P0.cell (dt_3 _ _ _ _ _)
            have d03 := Q0.cell (dt_3 _ _ _ _ _)
            have c04 := P0.cell (dt_4 _ _ _ _ _)
            have d04 := Q0.cell (dt_4 _ _ _ _ _)
            go_enter Try.func13, Try.ntmps13
            go_wp2_with fail
            refine (KY _).mono ?_
            rintro e w1 ⟨rfl, m1, rfl⟩
            have P1 := P0.drewN m1
            have Q1 := Q0.drewN m1
            have B1 := Lib.hid (bdrew B0.out m1)
            generalize World.drewN _ m1 = w1 at P1 Q1 B1 ⊢
            clear c00 d00 c01 d01 c02 d02 c03 d03 c04 d04
            have c10 := P1.cell (dt_0 _ _ _ _ _)
            have d10 := Q1.cell (dt_0 _ _ _ _ _)
            have c11 := P1.cell (dt_1 _ _ _ _ _)
            have d11 := Q1.cell (dt_1 _ _ _ _ _)
            have c12 := P1.cell (dt_2 _ _ _ _ _)
            have d12 := Q1.cell (dt_2 _ _ _ _ _)
            have c13 := P1.cell (dt_3 _ _ _ _ _)
            have d13 := Q1.cell (dt_3 _ _ _ _ _)
            have c14 := P1.cell (dt_4 _ _ _ _ _)
            have d14 := Q1.cell (dt_4 _ _ _ _ _)
            go_wp2_with fail
            refine (KF _).mono ?_
            rintro e w2 ⟨rfl, m2, rfl⟩
            have P2 := P1.drewN m2
            have Q2 := Q1.drewN m2
            have B2 := Lib.hid (bdrew B1.out m2)
            generalize World.drewN _ m2 = w2 at P2 Q2 B2 ⊢
            clear c10 d10 c11 d11 c12 d12 c13 d13 c14 d14
            have hne : w.heap.size ≠ w.heap.size + 1 := by omega
            have P3 := P2.setRow (dt c 0 n f t)
            have Q3 := Q2.setRow_other (k := w.heap.size) (by omega) (dt c 0 n f t)
            have B3 := Lib.hid (bset B2.out (g := w.heap.size) (Nat.le_refl _) (dt c 0 n f t))
            have P4 := P3.setRow (dt c 0 n 0 t)
            have Q4 := Q3.setRow_other (k := w.heap.size) (by omega) (dt c 0 n 0 t)
            have B4 := Lib.hid (bset B3.out (g := w.heap.size) (Nat.le_refl _) (dt c 0 n 0 t))
            have Q5 := Q4.setRow (dt c2 0 n2 f2 t2)
            have P5 := P4.setRow_other (k := w.heap.size + 1) (by omega) (dt c2 0 n2 f2 t2)
            have B5 := Lib.hid (bset B4.out (g := w.heap.size + 1) (by omega) (dt c2 0 n2 f2 t2))
            have Q6 := Q5.setRow (dt c2 0 n2 0 t2)
            have P6 := P5.setRow_other (k := w.heap.size + 1) (by omega) (dt c2 0 n2 0 t2)
            have B6 := Lib.hid (bset B5.out (g := w.heap.size + 1) (by omega) (dt c2 0 n2 0 t2))
            have c60 := P6.cell (dt_0 _ _ _ _ _)
            have d60 := Q6.cell (dt_0 _ _ _ _ _)
            have c61 := P6.cell (dt_1 _ _ _ _ _)
            have d61 := Q6.cell (dt_1 _ _ _ _ _)
            have c62 := P6.cell (dt_2 _ _ _ _ _)
            have d62 := Q6.cell (dt_2 _ _ _ _ _)
            have c63 := P6.cell (dt_3 _ _ _ _ _)
            have d63 := Q6.cell (dt_3 _ _ _ _ _)
            have c64 := P6.cell (dt_4 _ _ _ _ _)
            have d64 := Q6.cell (dt_4 _ _ _ _ _)
            clear P6 Q6 B3 B4 B5
            go_wp2_with (first | ((with_reducible refine is_store 24 _ _ rfl ?_); refine wpList_store_cell rfl 24 _ _ rfl _ 1 rfl (.float .f32 0) rfl ((dt c y n f t)) _ (by with_reducible assumption) (by rw [dt_size]; omega) (by kernel_rfl) rfl ((dt c 0 n f t)) (dt_s1 _ _ _ _ _ _) ?_) | ((with_reducible refine is_store 24 _ _ rfl ?_); refine wpList_store_cell rfl 24 _ _ rfl _ 3 rfl (.float .f32 0) rfl ((dt c 0 n f t)) _ (by with_reducible assumption) (by rw [dt_size]; omega) (by kernel_rfl) rfl ((dt c 0 n 0 t)) (dt_s3 _ _ _ _ _ _) ?_) | ((with_reducible refine is_store 24 _ _ rfl ?_); refine wpList_store_cell rfl 24 _ _ rfl _ 1 rfl (.float .f32 0) rfl ((dt c2 y2 n2 f2 t2)) _ (by with_reducible assumption) (by rw [dt_size]; omega) (by kernel_rfl) rfl ((dt c2 0 n2 f2 t2)) (dt_s1 _ _ _ _ _ _) ?_) | ((with_reducible refine is_store 24 _ _ rfl ?_); refine wpList_store_cell rfl 24 _ _ rfl _ 3 rfl (.float .f32 0) rfl ((dt c2 0 n2 f2 t2)) _ (by with_reducible assumption) (by rw [dt_size]; omega) (by kernel_rfl) rfl ((dt c2 0 n2 0 t2)) (dt_s3 _ _ _ _ _ _) ?_) | (simp only [hz]))
            go_ret
            exact ⟨by rw [hv.out]; rfl, B6.out⟩
          · have hv := Lib.hid (sameD_4 (c := c) (y := y) (n := n) (f := f) (c2 := c2) (y2 := y2) (n2 := n2) (f2 := f2) q4)
            have e4 : (t == t2) = false := by simpa using q4
            have e4' : decide (t = t2) = false := decide_eq_false q4
            clear q4
            have c00 := P0.cell (dt_0 _ _ _ _ _)
            have d00 := Q0.cell (dt_0 _ _ _ _ _)
            have c01 := P0.cell (dt_1 _ _ _ _ _)
            have d01 := Q0.cell (dt_1 _ _ _ _ _)
            have c02 := P0.cell (dt_2 _ _ _ _ _)
            have d02 := Q0.cell (dt_2 _ _ _ _ _)
            have c03 := P0.cell (dt_3 _ _ _ _ _)
            have d03 := Q0.cell (dt_3 _ _ _ _ _)
            have c04 := P0.cell (dt_4 _ _ _ _ _)
            have d04 := Q0.cell (dt_4 _ _ _ _ _)
            go_enter Try.func13, Try.ntmps13
            go_wp2_with fail
            refine (KY _).mono ?_
            rintro e w1 ⟨rfl, m1, rfl⟩
            have P1 := P0.drewN m1
            have Q1 := Q0.drewN m1
            have B1 := Lib.hid (bdrew B0.out m1)
            generalize World.drewN _ m1 = w1 at P1 Q1 B1 ⊢
            clear c00 d00 c01 d01 c02 d02 c03 d03 c04 d04
            have c10 := P1.cell (dt_0 _ _ _ _ _)
            have d10 := Q1.cell (dt_0 _ _ _ _ _)
            have c11 := P1.cell (dt_1 _ _ _ _ _)
            have d11 := Q1.cell (dt_1 _ _ _ _ _)
            have c12 := P1.cell (dt_2 _ _ _ _ _)
            have d12 := Q1.cell (dt_2 _ _ _ _ _)
            have c13 := P1.cell (dt_3 _ _ _ _ _)
            have d13 := Q1.cell (dt_3 _ _ _ _ _)
            have c14 := P1.cell (dt_4 _ _ _ _ _)
            have d14 := Q1.cell (dt_4 _ _ _ _ _)
            go_wp2_with fail
            refine (KF _).mono ?_
            rintro e w2 ⟨rfl, m2, rfl⟩
            have P2 := P1.drewN m2
            have Q2 := Q1.drewN m2
            have B2 := Lib.hid (bdrew B1.out m2)
            generalize World.drewN _ m2 = w2 at P2 Q2 B2 ⊢
            clear c10 d10 c11 d11 c12 d12 c13 d13 c14 d14
            have hne : w.heap.size ≠ w.heap.size + 1 := by omega
            have P3 := P2.setRow (dt c 0 n f t)
            have Q3 := Q2.setRow_other (k := w.heap.size) (by omega) (dt c 0 n f t)
            have B3 := Lib.hid (bset B2.out (g := w.heap.size) (Nat.le_refl _) (dt c 0 n f t))
            have P4 := P3.setRow (dt c 0 n 0 t)
            have Q4 := Q3.setRow_other (k := w.heap.size) (by omega) (dt c 0 n 0 t)
            have B4 := Lib.hid (bset B3.out (g := w.heap.size) (Nat.le_refl _) (dt c 0 n 0 t))
            have Q5 := Q4.setRow (dt c2 0 n2 f2 t2)
            have P5 := P4.setRow_other (k := w.heap.size + 1) (by omega) (dt c2 0 n2 f2 t2)
            have B5 := Lib.hid (bset B4.out (g := w.heap.size + 1) (by omega) (dt c2 0 n2 f2 t2))
            have Q6 := Q5.setRow (dt c2 0 n2 0 t2)
            have P6 := P5.setRow_other (k := w.heap.size + 1) (by omega) (dt c2 0 n2 0 t2)
            have B6 := Lib.hid (bset B5.out (g := w.heap.size + 1) (by omega) (dt c2 0 n2 0 t2))
            have c60 := P6.cell (dt_0 _ _ _ _ _)
            have d60 := Q6.cell (dt_0 _ _ _ _ _)
            have c61 := P6.cell (dt_1 _ _ _ _ _)
            have d61 := Q6.cell (dt_1 _ _ _ _ _)
            have c62 := P6.cell (dt_2 _ _ _ _ _)
            have d62 := Q6.cell (dt_2 _ _ _ _ _)
            have c63 := P6.cell (dt_3 _ _ _ _ _)
            have d63 := Q6.cell (dt_3 _ _ _ _ _)
            have c64 := P6.cell (dt_4 _ _ _ _ _)
            have d64 := Q6.cell (dt_4 _ _ _ _ _)
            clear P6 Q6 B3 B4 B5
            go_wp2_with (first | ((with_reducible refine is_store 24 _ _ rfl ?_); refine wpList_store_cell rfl 24 _ _ rfl _ 1 rfl (.float .f32 0) rfl ((dt c y n f t)) _ (by with_reducible assumption) (by rw [dt_size]; omega) (by kernel_rfl) rfl ((dt c 0 n f t)) (dt_s1 _ _ _ _ _ _) ?_) | ((with_reducible refine is_store 24 _ _ rfl ?_); refine wpList_store_cell rfl 24 _ _ rfl _ 3 rfl (.float .f32 0) rfl ((dt c 0 n f t)) _ (by with_reducible assumption) (by rw [dt_size]; omega) (by kernel_rfl) rfl ((dt c 0 n 0 t)) (dt_s3 _ _ _ _ _ _) ?_) | ((with_reducible refine is_store 24 _ _ rfl ?_); refine wpList_store_cell rfl 24 _ _ rfl _ 1 rfl (.float .f32 0) rfl ((dt c2 y2 n2 f2 t2)) _ (by with_reducible assumption) (by rw [dt_size]; omega) (by kernel_rfl) rfl ((dt c2 0 n2 f2 t2)) (dt_s1 _ _ _ _ _ _) ?_) | ((with_reducible refine is_store 24 _ _ rfl ?_); refine wpList_store_cell rfl 24 _ _ rfl _ 3 rfl (.float .f32 0) rfl ((dt c2 0 n2 f2 t2)) _ (by with_reducible assumption) (by rw [dt_size]; omega) (by kernel_rfl) rfl ((dt c2 0 n2 0 t2)) (dt_s3 _ _ _ _ _ _) ?_) | (simp only [hz]))
            go_ret
            exact ⟨by rw [hv.out]; rfl, B6.out⟩
        · have hv := Lib.hid (sameD_2 (c := c) (y := y) (f := f) (t := t) (c2 := c2) (y2 := y2) (f2 := f2) (t2 := t2) q2)
          have e2 : (n == n2) = false := by simpa using q2
          have e2' : decide (n = n2) = false := decide_eq_false q2
          clear q2
          have c00 := P0.cell (dt_0 _ _ _ _ _)
          have d00 := Q0.cell (dt_0 _ _ _ _ _)
          have c01 := P0.cell (dt_1 _ _ _ _ _)
          have d01 := Q0.cell (dt_1 _ _ _ _ _)
          have c02 := P0.cell (dt_2 _ _ _ _ _)
          have d02 := Q0.cell (dt_2 _ _ _ _ _)
          have c03 := P0.cell (dt_3 _ _ _ _ _)
          have d03 := Q0.cell (dt_3 _ _ _ _ _)
          have c04 := P0.cell (dt_4 _ _ _ _ _)
          have d04 := Q0.cell (dt_4 _ _ _ _ _)
          go_enter Try.func13, Try.ntmps13
          go_wp2_with fail
          refine (KY _).mono ?_
          rintro e w1 ⟨rfl, m1, rfl⟩
          have P1 := P0.drewN m1
          have Q1 := Q0.drewN m1
          have B1 := Lib.hid (bdrew B0.out m1)
          generalize World.drewN _ m1 = w1 at P1 Q1 B1 ⊢
          clear c00 d00 c01 d01 c02 d02 c03 d03 c04 d04
          have c10 := P1.cell (dt_0 _ _ _ _ _)
          have d10 := Q1.cell (dt_0 _ _ _ _ _)
          have c11 := P1.cell (dt_1 _ _ _ _ _)
          have d11 := Q1.cell (dt_1 _ _ _ _ _)
          have c12 := P1.cell (dt_2 _ _ _ _ _)
          have d12 := Q1.cell (dt_2 _ _ _ _ _)
          have c13 := P1.cell (dt_3 _ _ _ _ _)
          have d13 := Q1.cell (dt_3 _ _ _ _ _)
          have c14 := P1.cell (dt_4 _ _ _ _ _)
          have d14 := Q1.cell (dt_4 _ _ _ _ _)
          go_wp2_with fail
          refine (KF _).mono ?_
          rintro e w2 ⟨rfl, m2, rfl⟩
          have P2 := P1.drewN m2
          have Q2 := Q1.drewN m2
          have B2 := Lib.hid (bdrew B1.out m2)
          generalize World.drewN _ m2 = w2 at P2 Q2 B2 ⊢
          clear c10 d10 c11 d11 c12 d12 c13 d13 c14 d14
          have hne : w.heap.size ≠ w.heap.size + 1 := by omega
          have P3 := P2.setRow (dt c 0 n f t)
          have Q3 := Q2.setRow_other (k := w.heap.size) (by omega) (dt c 0 n f t)
          have B3 := Lib.hid (bset B2.out (g := w.heap.size) (Nat.le_refl _) (dt c 0 n f t))
          have P4 := P3.setRow (dt c 0 n 0 t)
          have Q4 := Q3.setRow_other (k := w.heap.size) (by omega) (dt c 0 n 0 t)
          have B4 := Lib.hid (bset B3.out (g := w.heap.size) (Nat.le_refl _) (dt c 0 n 0 t))
          have Q5 := Q4.setRow (dt c2 0 n2 f2 t2)
          have P5 := P4.setRow_other (k := w.heap.size + 1) (by omega) (dt c2 0 n2 f2 t2)
          have B5 := Lib.hid (bset B4.out (g := w.heap.size + 1) (by omega) (dt c2 0 n2 f2 t2))
          have Q6 := Q5.setRow (dt c2 0 n2 0 t2)
          have P6 := P5.setRow_other (k := w.heap.size + 1) (by omega) (dt c2 0 n2 0 t2)
          have B6 := Lib.hid (bset B5.out (g := w.heap.size + 1) (by omega) (dt c2 0 n2 0 t2))
          have c60 := P6.cell (dt_0 _ _ _ _ _)
          have d60 := Q6.cell (dt_0 _ _ _ _ _)
          have c61 := P6.cell (dt_1 _ _ _ _ _)
          have d61 := Q6.cell (dt_1 _ _ _ _ _)
          have c62 := P6.cell (dt_2 _ _ _ _ _)
          have d62 := Q6.cell (dt_2 _ _ _ _ _)
          have c63 := P6.cell (dt_3 _ _ _ _ _)
          have d63 := Q6.cell (dt_3 _ _ _ _ _)
          have c64 := P6.cell (dt_4 _ _ _ _ _)
          have d64 := Q6.cell (dt_4 _ _ _ _ _)
          clear P6 Q6 B3 B4 B5
          go_wp2_with (first | ((with_reducible refine is_store 24 _ _ rfl ?_); refine wpList_store_cell rfl 24 _ _ rfl _ 1 rfl (.float .f32 0) rfl ((dt c y n f t)) _ (by with_reducible assumption) (by rw [dt_size]; omega) (by kernel_rfl) rfl ((dt c 0 n f t)) (dt_s1 _ _ _ _ _ _) ?_) | ((with_reducible refine is_store 24 _ _ rfl ?_); refine wpList_store_cell rfl 24 _ _ rfl _ 3 rfl (.float .f32 0) rfl ((dt c 0 n f t)) _ (by with_reducible assumption) (by rw [dt_size]; omega) (by kernel_rfl) rfl ((dt c 0 n 0 t)) (dt_s3 _ _ _ _ _ _) ?_) | ((with_reducible refine is_store 24 _ _ rfl ?_); refine wpList_store_cell rfl 24 _ _ rfl _ 1 rfl (.float .f32 0) rfl ((dt c2 y2 n2 f2 t2)) _ (by with_reducible assumption) (by rw [dt_size]; omega) (by kernel_rfl) rfl ((dt c2 0 n2 f2 t2)) (dt_s1 _ _ _ _ _ _) ?_) | ((with_reducible refine is_store 24 _ _ rfl ?_); refine wpList_store_cell rfl 24 _ _ rfl _ 3 rfl (.float .f32 0) rfl ((dt c2 0 n2 f2 t2)) _ (by with_reducible assumption) (by rw [dt_size]; omega) (by kernel_rfl) rfl ((dt c2 0 n2 0 t2)) (dt_s3 _ _ _ _ _ _) ?_) | (simp only [hz]))
          go_ret
          exact ⟨by rw [hv.out]; rfl, B6.out⟩
      · have hv := Lib.hid (sameD_0 (y := y) (n := n) (f := f) (t := t) (y2 := y2) (n2 := n2) (f2 := f2) (t2 := t2) q0)
        have e0 : (c == c2) = false := by simpa using q0
        have e0' : decide (c = c2) = false := decide_eq_false q0
        clear q0
        have c00 := P0.cell (dt_0 _ _ _ _ _)
        have d00 := Q0.cell (dt_0 _ _ _ _ _)
        have c01 := P0.cell (dt_1 _ _ _ _ _)
        have d01 := Q0.cell (dt_1 _ _ _ _ _)
        have c02 := P0.cell (dt_2 _ _ _ _ _)
        have d02 := Q0.cell (dt_2 _ _ _ _ _)
        have c03 := P0.cell (dt_3 _ _ _ _ _)
        have d03 := Q0.cell (dt_3 _ _ _ _ _)
        have c04 := P0.cell (dt_4 _ _ _ _ _)
        have d04 := Q0.cell (dt_4 _ _ _ _ _)
        go_enter Try.func13, Try.ntmps13
        go_wp2_with fail
        refine (KY _).mono ?_
        rintro e w1 ⟨rfl, m1, rfl⟩
        have P1 := P0.drewN m1
        have Q1 := Q0.drewN m1
        have B1 := Lib.hid (bdrew B0.out m1)
        generalize World.drewN _ m1 = w1 at P1 Q1 B1 ⊢
        clear c00 d00 c01 d01 c02 d02 c03 d03 c04 d04
        have c10 := P1.cell (dt_0 _ _ _ _ _)
        have d10 := Q1.cell (dt_0 _ _ _ _ _)
        have c11 := P1.cell (dt_1 _ _ _ _ _)
        have d11 := Q1.cell (dt_1 _ _ _ _ _)
        have c12 := P1.cell (dt_2 _ _ _ _ _)
        have d12 := Q1.cell (dt_2 _ _ _ _ _)
        have c13 := P1.cell (dt_3 _ _ _ _ _)
        have d13 := Q1.cell (dt_3 _ _ _ _ _)
        have c14 := P1.cell (dt_4 _ _ _ _ _)
        have d14 := Q1.cell (dt_4 _ _ _ _ _)
        go_wp2_with fail
        refine (KF _).mono ?_
        rintro e w2 ⟨rfl, m2, rfl⟩
        have P2 := P1.drewN m2
        have Q2 := Q1.drewN m2
        have B2 := Lib.hid (bdrew B1.out m2)
        generalize World.drewN _ m2 = w2 at P2 Q2 B2 ⊢
        clear c10 d10 c11 d11 c12 d12 c13 d13 c14 d14
        have hne : w.heap.size ≠ w.heap.size + 1 := by omega
        have P3 := P2.setRow (dt c 0 n f t)
        have Q3 := Q2.setRow_other (k := w.heap.size) (by omega) (dt c 0 n f t)
        have B3 := Lib.hid (bset B2.out (g := w.heap.size) (Nat.le_refl _) (dt c 0 n f t))
        have P4 := P3.setRow (dt c 0 n 0 t)
        have Q4 := Q3.setRow_other (k := w.heap.size) (by omega) (dt c 0 n 0 t)
        have B4 := Lib.hid (bset B3.out (g := w.heap.size) (Nat.le_refl _) (dt c 0 n 0 t))
        have Q5 := Q4.setRow (dt c2 0 n2 f2 t2)
        have P5 := P4.setRow_other (k := w.heap.size + 1) (by omega) (dt c2 0 n2 f2 t2)
        have B5 := Lib.hid (bset B4.out (g := w.heap.size + 1) (by omega) (dt c2 0 n2 f2 t2))
        have Q6 := Q5.setRow (dt c2 0 n2 0 t2)
        have P6 := P5.setRow_other (k := w.heap.size + 1) (by omega) (dt c2 0 n2 0 t2)
        have B6 := Lib.hid (bset B5.out (g := w.heap.size + 1) (by omega) (dt c2 0 n2 0 t2))
        have c60 := P6.cell (dt_0 _ _ _ _ _)
        have d60 := Q6.cell (dt_0 _ _ _ _ _)
        have c61 := P6.cell (dt_1 _ _ _ _ _)
        have d61 := Q6.cell (dt_1 _ _ _ _ _)
        have c62 := P6.cell (dt_2 _ _ _ _ _)
        have d62 := Q6.cell (dt_2 _ _ _ _ _)
        have c63 := P6.cell (dt_3 _ _ _ _ _)
        have d63 := Q6.cell (dt_3 _ _ _ _ _)
        have c64 := P6.cell (dt_4 _ _ _ _ _)
        have d64 := Q6.cell (dt_4 _ _ _ _ _)
        clear P6 Q6 B3 B4 B5
        go_wp2_with (first | ((with_reducible refine is_store 24 _ _ rfl ?_); refine wpList_store_cell rfl 24 _ _ rfl _ 1 rfl (.float .f32 0) rfl ((dt c y n f t)) _ (by with_reducible assumption) (by rw [dt_size]; omega) (by kernel_rfl) rfl ((dt c 0 n f t)) (dt_s1 _ _ _ _ _ _) ?_) | ((with_reducible refine is_store 24 _ _ rfl ?_); refine wpList_store_cell rfl 24 _ _ rfl _ 3 rfl (.float .f32 0) rfl ((dt c 0 n f t)) _ (by with_reducible assumption) (by rw [dt_size]; omega) (by kernel_rfl) rfl ((dt c 0 n 0 t)) (dt_s3 _ _ _ _ _ _) ?_) | ((with_reducible refine is_store 24 _ _ rfl ?_); refine wpList_store_cell rfl 24 _ _ rfl _ 1 rfl (.float .f32 0) rfl ((dt c2 y2 n2 f2 t2)) _ (by with_reducible assumption) (by rw [dt_size]; omega) (by kernel_rfl) rfl ((dt c2 0 n2 f2 t2)) (dt_s1 _ _ _ _ _ _) ?_) | ((with_reducible refine is_store 24 _ _ rfl ?_); refine wpList_store_cell rfl 24 _ _ rfl _ 3 rfl (.float .f32 0) rfl ((dt c2 0 n2 f2 t2)) _ (by with_reducible assumption) (by rw [dt_size]; omega) (by kernel_rfl) rfl ((dt c2 0 n2 0 t2)) (dt_s3 _ _ _ _ _ _) ?_) | (simp only [hz]))
        go_ret
        exact ⟨by rw [hv.out]; rfl, B6.out⟩

end Go.Proofs.Ytcfoghckdloknaa
