/-
  SEVERAL TEXTS IN ONE.
-/
import Derived.Test.YtcfoghckdloknaaReadL
import Derived.WalkKit
import Derived.Deep.LoopGhost
import Derived.IntWalk
import Derived.Test.YtcfoghckdloknaaG4
import Derived.Test.YtcfoghckdloknaaG5

/-
  CONTRACTS: nearly the same, at any bound; numbers below 0 too.
-/
namespace Go.Proofs.Ytcfoghckdloknaa
open Go Go.RowKit
set_option maxRecDepth 100000

theorem sub_under {x y : Nat} (hy : y < 2139095040) (hx : x < y) : floatBits .sub .f32 x y = some (2147483648 + subB y x) ∧ 0 < subB y x ∧ subB y x < 2139095040 := by
  have h1 := (sub_eq hy (Nat.le_of_lt hx)).2
  have h2 := sub_le hy (Nat.le_of_lt hx)
  have h3 : 1 ≤ RU 23 (rv 23 y - rv 23 x) 0 := by
    refine le_RU ?_
    have := rv_lt (p := 23) hx
    have e : rv 23 1 = 1 := by decide
    rw [e]
    omega
  refine ⟨?_, by rw [h1]; omega, by omega⟩
  have := sub_fin S32 false false (r := x) (q := y) (by rw [s_inf]; omega) (by rw [s_inf]; omega)
  rw [word_false, word_false] at this
  show S32.sub x y = _
  rw [this, h1]
  congr 1
  unfold roundInt
  have hlt := rv_lt (p := 23) hx
  have e1 : sg false (rv S32.fractionBits x) - sg false (rv S32.fractionBits y) = -((rv 23 y - rv 23 x : Nat) : Int) := by
    show ((rv 23 x : Nat) : Int) - ((rv 23 y : Nat) : Int) = _
    omega
  rw [e1, if_neg (by omega), decide_eq_true (by omega), word_true, s_sw, Int.natAbs_neg, Int.natAbs_natCast, s_inf, s_fb]

theorem flip31 {r : Nat} (h : r < 2147483648) : (2147483648 + r) ^^^ 2147483648 = r := by
  have h2 : r < 2 ^ 31 := h
  show (2 ^ 31 + r) ^^^ 2 ^ 31 = r
  apply Nat.eq_of_testBit_eq
  intro i
  rw [Nat.testBit_xor]
  rcases Nat.lt_trichotomy i 31 with c | c | c
  · rw [Nat.testBit_two_pow_add_gt c, Nat.testBit_two_pow_of_ne (by omega), Bool.xor_false]
  · subst c
    rw [Nat.testBit_two_pow_add_eq, Nat.testBit_two_pow_self, Nat.testBit_lt_two_pow h2]; rfl
  · have p : (2 : Nat) ^ 32 ≤ 2 ^ i := Nat.pow_le_pow_right (by decide) c
    have p32 : (2 : Nat) ^ 32 = 4294967296 := by decide
    have p31 : (2 : Nat) ^ 31 = 2147483648 := by decide
    rw [Nat.testBit_lt_two_pow (show 2 ^ 31 + r < 2 ^ i by omega), Nat.testBit_two_pow_of_ne (by omega), Nat.testBit_lt_two_pow (show r < 2 ^ i by omega)]; rfl

theorem FarOf_up (d : Nat) (h : d ≤ 2139095040) (w : World) : Calls Try.prog 37 #[.float .f32 d] w fun e w' => e = .returned (.float .f32 d) ∧ w' = w := by
  have hl : (FloatKind.f32.format.order d 0 == some .lt) = false := by rw [lt_amt h (by omega)]; exact decide_eq_false (by omega)
  go_enter Try.func37, Try.ntmps37
  go_wp2
  go_ret
  exact ⟨rfl, rfl⟩

theorem FarOf_dn (r : Nat) (h0 : 0 < r) (h : r < 2139095040) (w : World) : Calls Try.prog 37 #[.float .f32 (2147483648 + r)] w fun e w' => e = .returned (.float .f32 r) ∧ w' = w := by
  have hl : (FloatKind.f32.format.order (2147483648 + r) 0 == some .lt) = true := by rw [order_neg (Nat.le_of_lt h) h0 (by omega)]; rfl
  have hn : ∀ W, (Op.unary .neg (.float .f32 (2147483648 + r))).run Try.prog W = .ok (.float .f32 r) W := fun W => by
    show Result.ok (Value.float .f32 ((2147483648 + r) ^^^ 2147483648)) W = _
    rw [flip31 (by omega)]
  go_enter Try.func37, Try.ntmps37
  go_wp2
  go_ret
  exact ⟨rfl, rfl⟩

theorem f6near_up (x y b d : Nat) (hs : floatBits .sub .f32 x y = some d) (hd : d ≤ b) (hb : b ≤ 2139095040) (w : World) : Calls Try.prog 16 #[.float .f32 x, .float .f32 y, .float .f32 b] w fun e w' => e = .returned (.bool true) ∧ w' = w := by
  have hs := fun t w => run_float_arith (P := Try.prog) w .sub t .f32 _ _ _ hs
  have hle : (FloatKind.f32.format.order d b == some .lt || FloatKind.f32.format.order d b == some .eq) = true := by rw [le_amt (by omega) hb]; exact decide_eq_true hd
  have K := fun w => FarOf_up d (by omega) w
  clear hd hb
  go_enter Try.func16, Try.ntmps16
  go_wp2_with fail
  refine (K _).mono ?_
  rintro e w1 ⟨rfl, rfl⟩
  go_wp2_with fail
  go_ret
  exact ⟨rfl, rfl⟩

theorem f6near_dn (x y b r : Nat) (hs : floatBits .sub .f32 x y = some (2147483648 + r)) (h0 : 0 < r) (hr : r < 2139095040) (hd : r ≤ b) (hb : b ≤ 2139095040) (w : World) : Calls Try.prog 16 #[.float .f32 x, .float .f32 y, .float .f32 b] w fun e w' => e = .returned (.bool true) ∧ w' = w := by
  have hs := fun t w => run_float_arith (P := Try.prog) w .sub t .f32 _ _ _ hs
  have hle : (FloatKind.f32.format.order r b == some .lt || FloatKind.f32.format.order r b == some .eq) = true := by rw [le_amt (by omega) hb]; exact decide_eq_true hd
  have K := fun w => FarOf_dn r h0 hr w
  clear hd hb h0 hr
  go_enter Try.func16, Try.ntmps16
  go_wp2_with fail
  refine (K _).mono ?_
  rintro e w1 ⟨rfl, rfl⟩
  go_wp2_with fail
  go_ret
  exact ⟨rfl, rfl⟩

theorem sub_bound {u v b : Nat} (hu : u < 2139095040) (hv : v ≤ u) (h : rv 23 u ≤ rv 23 v + rv 23 b) : subB u v ≤ b := by
  have e := (sub_eq hu hv).2
  have h2 : RU 23 (rv 23 u - rv 23 v) 0 ≤ b := RU_le (by rw [Nat.pow_zero, Nat.mul_one]; omega)
  rw [e]
  exact Nat.le_trans (Nat.min_le_left _ _) h2

/-- two amounts whose values lie within a bound -/
theorem f6near_yes (x y b : Nat) (hx : x < 2139095040) (hy : y < 2139095040) (hb : b < 2139095040) (h1 : rv 23 x ≤ rv 23 y + rv 23 b) (h2 : rv 23 y ≤ rv 23 x + rv 23 b) (w : World) : Calls Try.prog 16 #[.float .f32 x, .float .f32 y, .float .f32 b] w fun e w' => e = .returned (.bool true) ∧ w' = w := by
  rcases Nat.lt_or_ge x y with c | c
  · obtain ⟨e1, e2, e3⟩ := sub_under hy c
    exact f6near_dn x y b _ e1 e2 e3 (sub_bound hy (Nat.le_of_lt c) h2) (by omega) w
  · exact f6near_up x y b _ (sub_eq hx c).1 (sub_bound hx c h1) (by omega) w

end Go.Proofs.Ytcfoghckdloknaa

/-
  CONTRACTS: a new detector, on both sides.
-/
namespace Go.Proofs.Ytcfoghckdloknaa
open Go Go.ChangeShapes Go.WideShapes Go.ChangeAt Go.RowKit
set_option maxRecDepth 100000

def vPlaceD (c : Int) : Int × Int := if inB 0 14 c then (c, 0) else (0, 2)
theorem vPlaceD_yes {c : Int} (h : inB 0 14 c = true) : vPlaceD c = (c, 0) := by unfold vPlaceD; rw [if_pos h]
theorem vPlaceD_no {c : Int} (h : inB 0 14 c = false) : vPlaceD c = (0, 2) := by unfold vPlaceD; rw [h]; rfl

theorem PlaceDetector_any (c : Int) (w : World) :
    Calls Try.prog 7 #[.int .i64 c] w fun e w' => e = .returned (.tuple #[.agg (dt (vPlaceD c).1 0 0 0 0), .int .i64 (vPlaceD c).2]) ∧ Below w.heap.size w w' := by
  have K := isDetectorCell_b c
  have R0 := At.new w #[.int .i64 0, .float .f32 0, .int .i16 0, .float .f32 0, .int .i64 0] 33
  have B0 := Lib.hid (b0 w (.cells #[.int .i64 0, .float .f32 0, .int .i16 0, .float .f32 0, .int .i64 0] 33))
  cases h : inB 0 14 c
  · rw [vPlaceD_no h]
    rw [h] at K
    go_enter Try.func7, Try.ntmps7
    go_wp2_with fail
    refine (K _).mono ?_
    rintro e w1 ⟨rfl, n1, rfl⟩
    have R1 := R0.drewN n1
    have R9 := R1.setRow (dt 0 0 0 0 0)
    have B9 := Lib.hid (bset (bdrew B0.out n1) (g := w.heap.size) (Nat.le_refl _) (dt 0 0 0 0 0))
    go_wp2_with (((with_reducible refine is_store 33 _ _ rfl ?_); refine wpList_store_at rfl 33 _ _ rfl _ rfl ((dt 0 0 0 0 0)) rfl (#[.int .i64 0, .float .f32 0, .int .i16 0, .float .f32 0, .int .i64 0]) _ (by with_reducible assumption) 5 (dt_size _ _ _ _ _) (rfl) (by kernel_rfl) (dt_one _ _ _ _ _) ?_))
    exact bodyPost_ret (v := .tuple #[.agg (dt 0 0 0 0 0), .int .i64 2]) (results_at_tmp (p := 2) (ty := 33) rfl _ _ _ (dt 0 0 0 0 0) _ (.int .i64 2) rfl rfl R9 _ Try.underlying33 rfl 5 (dt_size _ _ _ _ _) (by kernel_rfl)) rfl ⟨rfl, B9.out⟩
  · rw [vPlaceD_yes h]
    rw [h] at K
    go_enter Try.func7, Try.ntmps7
    go_wp2_with fail
    refine (K _).mono ?_
    rintro e w1 ⟨rfl, n1, rfl⟩
    have R1 := R0.drewN n1
    have R9 := R1.setRow (dt c 0 0 0 0)
    have B9 := Lib.hid (bset (bdrew B0.out n1) (g := w.heap.size) (Nat.le_refl _) (dt c 0 0 0 0))
    go_wp2_with (((with_reducible refine is_store 33 _ _ rfl ?_); refine wpList_store_at rfl 33 _ _ rfl _ rfl ((dt c 0 0 0 0)) rfl (#[.int .i64 0, .float .f32 0, .int .i16 0, .float .f32 0, .int .i64 0]) _ (by with_reducible assumption) 5 (dt_size _ _ _ _ _) (rfl) (by kernel_rfl) (dt_one _ _ _ _ _) ?_))
    exact bodyPost_ret (v := .tuple #[.agg (dt c 0 0 0 0), .int .i64 0]) (results_at_tmp (p := 2) (ty := 33) rfl _ _ _ (dt c 0 0 0 0) _ (.int .i64 0) rfl rfl R9 _ Try.underlying33 rfl 5 (dt_size _ _ _ _ _) (by kernel_rfl)) rfl ⟨rfl, B9.out⟩

end Go.Proofs.Ytcfoghckdloknaa
