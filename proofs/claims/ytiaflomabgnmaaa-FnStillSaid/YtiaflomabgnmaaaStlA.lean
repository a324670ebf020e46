/-
  CONTRACTS: numbers nearly the same at a bound that is open; waves held against pace and back.
-/
import Derived.Test.YtiaflomabgnmaaaStlS
import Derived.WalkKit
namespace Go.Proofs.Ytiaflomabgnmaaa
open Go Go.RowKit
set_option maxRecDepth 100000

theorem gap_sub {x y c : Nat} (hx : x < 2139095040) (hy : y ≤ x) (h : rv 23 x ≤ rv 23 y + rv 23 c) : subB x y ≤ c := by
  have e := (sub_eq hx hy).2
  have : RU 23 (rv 23 x - rv 23 y) 0 ≤ c := RU_le (by rw [Nat.pow_zero, Nat.mul_one]; omega)
  omega

theorem a2Near_to (t u c : Nat) (h : t ≤ u) (hu : u < 2139095040) (hc : c < 2139095040) (hs : subB u t ≤ c) (w : World) : Calls Try.prog 12 #[.float .f32 t, .float .f32 u, .float .f32 c] w fun e w' => e = .returned (.bool true) ∧ w' = w := by
  have h1 := fun ty w => run_float_arith (P := Try.prog) w .sub ty .f32 _ _ _ (dif_eq (x := t) (y := u) (by omega) hu)
  have h2 := fun ty w => run_float_arith (P := Try.prog) w .sub ty .f32 _ _ _ (dif_eq (x := u) (y := t) hu (by omega))
  unfold difB at h1 h2
  simp only [if_pos h] at h2
  have g2 : (FloatKind.f32.format.order (subB u t) c == some .lt || FloatKind.f32.format.order (subB u t) c == some .eq) = true := by
    rw [le_amt (by omega) (by omega)]; exact decide_eq_true hs
  by_cases cc : u ≤ t
  · obtain rfl : t = u := by omega
    simp only [if_pos h] at h1
    clear cc h hs hu hc
    go_enter Try.func12, Try.ntmps12
    go_wp2
    go_ret
    exact ⟨rfl, rfl⟩
  · simp only [if_neg cc] at h1
    have p0 := sub_pos hu (show t < u by omega)
    have p1 := sub_le hu h
    have g1 : (FloatKind.f32.format.order (2147483648 + subB u t) c == some .lt || FloatKind.f32.format.order (2147483648 + subB u t) c == some .eq) = true := by
      rw [order_neg (by omega) p0 (by omega)]; rfl
    clear cc h hs hu hc p0 p1
    go_enter Try.func12, Try.ntmps12
    go_wp2
    go_ret
    exact ⟨rfl, rfl⟩

theorem a2Near_back (t u c : Nat) (h : u < t) (ht : t < 2139095040) (hc : c < 2139095040) (hs : subB t u ≤ c) (w : World) : Calls Try.prog 12 #[.float .f32 t, .float .f32 u, .float .f32 c] w fun e w' => e = .returned (.bool true) ∧ w' = w := by
  have h1 := fun ty w => run_float_arith (P := Try.prog) w .sub ty .f32 _ _ _ (dif_eq (x := t) (y := u) ht (by omega))
  have h2 := fun ty w => run_float_arith (P := Try.prog) w .sub ty .f32 _ _ _ (dif_eq (x := u) (y := t) (by omega) ht)
  unfold difB at h1 h2
  simp only [if_pos (Nat.le_of_lt h)] at h1
  simp only [if_neg (show ¬ t ≤ u by omega)] at h2
  have g2 : (FloatKind.f32.format.order (subB t u) c == some .lt || FloatKind.f32.format.order (subB t u) c == some .eq) = true := by
    rw [le_amt (by omega) (by omega)]; exact decide_eq_true hs
  have p0 := sub_pos ht h
  have p1 := sub_le ht (Nat.le_of_lt h)
  have g1 : (FloatKind.f32.format.order (2147483648 + subB t u) c == some .lt || FloatKind.f32.format.order (2147483648 + subB t u) c == some .eq) = true := by
    rw [order_neg (by omega) p0 (by omega)]; rfl
  clear h hs ht hc p0 p1
  go_enter Try.func12, Try.ntmps12
  go_wp2
  go_ret
  exact ⟨rfl, rfl⟩

/-- two amounts that lie within a bound -/
theorem a2Near_gap (t u c : Nat) (ht : t < 2139095040) (hu : u < 2139095040) (hc : c < 2139095040) (h1 : rv 23 t ≤ rv 23 u + rv 23 c) (h2 : rv 23 u ≤ rv 23 t + rv 23 c) (w : World) : Calls Try.prog 12 #[.float .f32 t, .float .f32 u, .float .f32 c] w fun e w' => e = .returned (.bool true) ∧ w' = w := by
  rcases Nat.lt_or_ge u t with k | k
  · exact a2Near_back t u c k ht hc (gap_sub ht (Nat.le_of_lt k) h1) w
  · exact a2Near_to t u c k hu hc (gap_sub hu k h2) w

theorem sub_word0 {r : Nat} (h0 : 0 < r) (hr : r < 2139095040) : floatBits .sub .f32 (2147483648 + r) 0 = some (2147483648 + r) ∧ floatBits .sub .f32 0 (2147483648 + r) = some r := by
  have hp := rv_lt (p := 23) h0
  rw [rv_zero] at hp
  have k1 := sub_fin S32 true false (r := r) (q := 0) (by rw [s_inf]; omega) (by rw [s_inf]; omega)
  have k2 := sub_fin S32 false true (r := 0) (q := r) (by rw [s_inf]; omega) (by rw [s_inf]; omega)
  rw [word_true, s_sw, word_false, s_fb] at k1 k2
  have e1 : sg true (rv 23 r) - sg false (rv 23 0) = -((rv 23 r : Nat) : Int) := by rw [rv_zero]; show -((rv 23 r : Nat) : Int) - ((0 : Nat) : Int) = _; omega
  have e2 : sg false (rv 23 0) - sg true (rv 23 r) = ((rv 23 r : Nat) : Int) := by rw [rv_zero]; show ((0 : Nat) : Int) - -((rv 23 r : Nat) : Int) = _; omega
  rw [e1] at k1
  rw [e2] at k2
  constructor
  · show S32.sub _ _ = _
    rw [k1]
    congr 1
    unfold roundInt
    rw [if_neg (by omega), decide_eq_true (by omega), word_true, s_sw, Int.natAbs_neg, Int.natAbs_natCast, s_inf, s_fb, RU_rv0, Nat.min_eq_left (by omega)]
  · show S32.sub _ _ = _
    rw [k2]
    congr 1
    unfold roundInt
    rw [if_neg (by omega), decide_eq_false (by omega), word_false, Int.natAbs_natCast, s_inf, s_fb, RU_rv0, Nat.min_eq_left (by omega)]

theorem neg0 : floatBits .sub .f32 2147483648 0 = some 2147483648 ∧ floatBits .sub .f32 0 2147483648 = some 0 := by decide +kernel

/-- a wave that is nearly no wave -/
theorem a2Near_word (s : Bool) (r c : Nat) (hr : r ≤ c) (hc : c < 2139095040) (w : World) : Calls Try.prog 12 #[.float .f32 (S32.word s r), .float .f32 0, .float .f32 c] w fun e w' => e = .returned (.bool true) ∧ w' = w := by
  cases s
  · rw [word_false]
    refine a2Near_gap r 0 c (by omega) (by omega) hc ?_ ?_ w
    · rw [rv_zero]; have := rv_le (p := 23) hr; omega
    · rw [rv_zero]; exact Nat.zero_le _
  · rw [word_true, s_sw]
    rcases Nat.eq_zero_or_pos r with k | k
    · subst k
      obtain ⟨n1, n2⟩ := neg0
      have h1 := fun ty w => run_float_arith (P := Try.prog) w .sub ty .f32 _ _ _ n1
      have h2 := fun ty w => run_float_arith (P := Try.prog) w .sub ty .f32 _ _ _ n2
      have g1 : (FloatKind.f32.format.order 2147483648 c == some .lt || FloatKind.f32.format.order 2147483648 c == some .eq) = true := by
        rw [order_negzero (by omega)]
        rcases Nat.eq_zero_or_pos c with q | q
        · subst q; rw [Nat.compare_eq_eq.2 rfl]; rfl
        · rw [Nat.compare_eq_lt.2 q]; rfl
      have g2 : (FloatKind.f32.format.order 0 c == some .lt || FloatKind.f32.format.order 0 c == some .eq) = true := by
        rw [le_amt (by omega) (by omega)]; exact decide_eq_true (by omega)
      show Calls Try.prog 12 #[.float .f32 2147483648, .float .f32 0, .float .f32 c] w _
      clear n1 n2 hr hc
      go_enter Try.func12, Try.ntmps12
      go_wp2
      go_ret
      exact ⟨rfl, rfl⟩
    · obtain ⟨n1, n2⟩ := sub_word0 k (by omega)
      have h1 := fun ty w => run_float_arith (P := Try.prog) w .sub ty .f32 _ _ _ n1
      have h2 := fun ty w => run_float_arith (P := Try.prog) w .sub ty .f32 _ _ _ n2
      have g1 : (FloatKind.f32.format.order (2147483648 + r) c == some .lt || FloatKind.f32.format.order (2147483648 + r) c == some .eq) = true := by
        rw [order_neg (by omega) k (by omega)]; rfl
      have g2 : (FloatKind.f32.format.order r c == some .lt || FloatKind.f32.format.order r c == some .eq) = true := by
        rw [le_amt (by omega) (by omega)]; exact decide_eq_true hr
      clear n1 n2 hr hc k
      go_enter Try.func12, Try.ntmps12
      go_wp2
      go_ret
      exact ⟨rfl, rfl⟩

theorem rv_sg (s : Bool) : sg s (rv 23 0) = 0 := by rw [rv_zero]; cases s <;> rfl

/-- a wave told both ways is the same number -/
theorem word_same {s t : Bool} {r : Nat} (hr : r < 2139095040) (h : r = 0 ∨ s = t) : FloatKind.f32.format.order (S32.word s r) (S32.word t r) = some .eq := by
  have k := order_fin S32 s t (r := r) (q := r) (by rw [s_inf]; omega) (by rw [s_inf]; omega)
  rw [s_fb] at k
  show S32.order _ _ = _
  rw [k]
  rcases h with rfl | rfl
  · rw [rv_sg, rv_sg]; rfl
  · rw [Int.compare_eq_eq.2 rfl]

theorem word_le {s : Bool} {r M : Nat} (hr : r < 2139095040) (hM : M < 2139095040) (h : s = false → r ≤ M) : (FloatKind.f32.format.order (S32.word s r) M == some .lt || FloatKind.f32.format.order (S32.word s r) M == some .eq) = true := by
  have k := order_fin S32 s false (r := r) (q := M) (by rw [s_inf]; omega) (by rw [s_inf]; omega)
  rw [s_fb, word_false] at k
  show (S32.order _ _ == some .lt || S32.order _ _ == some .eq) = true
  rw [k]
  have hle : sg s (rv 23 r) ≤ sg false (rv 23 M) := by
    cases s
    · show ((rv 23 r : Nat) : Int) ≤ ((rv 23 M : Nat) : Int)
      have := rv_le (p := 23) (h rfl); omega
    · show -((rv 23 r : Nat) : Int) ≤ ((rv 23 M : Nat) : Int); omega
  rcases Int.lt_or_eq_of_le hle with c | c
  · rw [Int.compare_eq_lt.2 c]; rfl
  · rw [Int.compare_eq_eq.2 c]; rfl

theorem word_ge {s : Bool} {r M : Nat} (hr : r < 2139095040) (hM : M < 2139095040) (h : s = true → r ≤ M) : (FloatKind.f32.format.order (S32.word s r) (2147483648 + M) == some .gt || FloatKind.f32.format.order (S32.word s r) (2147483648 + M) == some .eq) = true := by
  have k := order_fin S32 s true (r := r) (q := M) (by rw [s_inf]; omega) (by rw [s_inf]; omega)
  rw [s_fb, word_true S32 M, s_sw] at k
  show (S32.order _ _ == some .gt || S32.order _ _ == some .eq) = true
  rw [k]
  have hle : sg true (rv 23 M) ≤ sg s (rv 23 r) := by
    cases s
    · show -((rv 23 M : Nat) : Int) ≤ ((rv 23 r : Nat) : Int); omega
    · show -((rv 23 M : Nat) : Int) ≤ -((rv 23 r : Nat) : Int)
      have := rv_le (p := 23) (h rfl); omega
  rcases Int.lt_or_eq_of_le hle with c | c
  · rw [Int.compare_eq_gt.2 c]; rfl
  · rw [Int.compare_eq_eq.2 c.symm]; rfl

theorem flip31 {r : Nat} (h : r < 2147483648) : r ^^^ 2147483648 = 2147483648 + r := by
  have h2 : r < 2 ^ 31 := h
  show r ^^^ 2 ^ 31 = 2 ^ 31 + r
  apply Nat.eq_of_testBit_eq
  intro i
  rw [Nat.testBit_xor]
  rcases Nat.lt_trichotomy i 31 with c | c | c
  · rw [Nat.testBit_two_pow_add_gt c, Nat.testBit_two_pow_of_ne (by omega), Bool.xor_false]
  · subst c
    rw [Nat.testBit_two_pow_add_eq, Nat.testBit_two_pow_self, Nat.testBit_lt_two_pow h2]; rfl
  · have p : (2 : Nat) ^ 32 ≤ 2 ^ i := Nat.pow_le_pow_right (by decide) c
    have p32 : (2 : Nat) ^ 32 = 4294967296 := by decide
    have p31 : (2 : Nat) ^ 31 = 2147483648 := by decide
    rw [Nat.testBit_lt_two_pow (show 2 ^ 31 + r < 2 ^ i by omega), Nat.testBit_two_pow_of_ne (by omega), Nat.testBit_lt_two_pow (show r < 2 ^ i by omega)]; rfl

theorem run_negF {P : Program} {r : Nat} (h : r < 2147483648) (W : World) : (Op.unary .neg (.float .f32 r)).run P W = .ok (.float .f32 (2147483648 + r)) W := by
  show Result.ok (Value.float .f32 (r ^^^ 2147483648)) W = _
  rw [flip31 h]

/-- a number below 0, less one more -/
theorem sub_negF {b c : Nat} (hb : b < 2139095040) (hc : c < 2139095040) (h0 : 0 < b) : floatBits .sub .f32 (2147483648 + b) c = some (2147483648 + addB b c) := by
  have k1 := sub_fin S32 true false (r := b) (q := c) (by rw [s_inf]; omega) (by rw [s_inf]; omega)
  rw [word_true, s_sw, word_false, s_fb] at k1
  have hp := rv_lt (p := 23) h0
  rw [rv_zero] at hp
  have e1 : sg true (rv 23 b) - sg false (rv 23 c) = -((rv 23 b + rv 23 c : Nat) : Int) := by show -((rv 23 b : Nat) : Int) - ((rv 23 c : Nat) : Int) = _; omega
  rw [e1] at k1
  show S32.sub _ _ = _
  rw [k1, (add_eq hb hc).2]
  congr 1
  unfold roundInt
  rw [if_neg (by omega), decide_eq_true (by omega), word_true, s_sw, Int.natAbs_neg, Int.natAbs_natCast, s_inf, s_fb]

end Go.Proofs.Ytiaflomabgnmaaa
