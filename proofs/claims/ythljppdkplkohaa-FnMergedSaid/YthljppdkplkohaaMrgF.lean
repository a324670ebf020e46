/-
  CONTRACTS: how far two amounts are apart; nearly the same.
-/
import Derived.Test.YthljppdkplkohaaMrgS
import Derived.Test.YthljppdkplkohaaMix
import Derived.WalkKit
import Derived.Deep.LoopGhost
import Derived.IntWalk
namespace Go.Proofs.Ythljppdkplkohaa
open Go Go.RowKit
set_option maxRecDepth 100000

theorem flip31 {r : Nat} (h : r < 2147483648) : (2147483648 + r) ^^^ 2147483648 = r := by
  have h2 : r < 2 ^ 31 := h
  show (2 ^ 31 + r) ^^^ 2 ^ 31 = r
  apply Nat.eq_of_testBit_eq
  intro i
  rw [Nat.testBit_xor]
  rcases Nat.lt_trichotomy i 31 with c | c | c
  · rw [Nat.testBit_two_pow_add_gt c, Nat.testBit_two_pow_of_ne (by omega), Bool.xor_false]
  · subst c
    rw [Nat.testBit_two_pow_add_eq, Nat.testBit_two_pow_self, Nat.testBit_lt_two_pow h2]; rfl
  · have p : (2 : Nat) ^ 32 ≤ 2 ^ i := Nat.pow_le_pow_right (by decide) c
    have p32 : (2 : Nat) ^ 32 = 4294967296 := by decide
    have p31 : (2 : Nat) ^ 31 = 2147483648 := by decide
    rw [Nat.testBit_lt_two_pow (show 2 ^ 31 + r < 2 ^ i by omega), Nat.testBit_two_pow_of_ne (by omega), Nat.testBit_lt_two_pow (show r < 2 ^ i by omega)]; rfl

theorem FarOf_up (d : Nat) (h : d ≤ 2139095040) (w : World) : Calls Try.prog 25 #[.float .f32 d] w fun e w' => e = .returned (.float .f32 d) ∧ w' = w := by
  have hl : (FloatKind.f32.format.order d 0 == some .lt) = false := by rw [lt_amt h (by omega)]; exact decide_eq_false (by omega)
  go_enter Try.func25, Try.ntmps25
  go_wp2
  go_ret
  exact ⟨rfl, rfl⟩

theorem FarOf_dn (r : Nat) (h0 : 0 < r) (h : r < 2139095040) (w : World) : Calls Try.prog 25 #[.float .f32 (2147483648 + r)] w fun e w' => e = .returned (.float .f32 r) ∧ w' = w := by
  have hl : (FloatKind.f32.format.order (2147483648 + r) 0 == some .lt) = true := by rw [order_neg (Nat.le_of_lt h) h0 (by omega)]; rfl
  have hn : ∀ W, (Op.unary .neg (.float .f32 (2147483648 + r))).run Try.prog W = .ok (.float .f32 r) W := fun W => by
    show Result.ok (Value.float .f32 ((2147483648 + r) ^^^ 2147483648)) W = _
    rw [flip31 (by omega)]
  go_enter Try.func25, Try.ntmps25
  go_wp2
  go_ret
  exact ⟨rfl, rfl⟩

theorem f6near_any (x y : Nat) (hx : x < 2139095040) (hy : y < 2139095040) (w : World) : Calls Try.prog 8 #[.float .f32 x, .float .f32 y, .float .f32 981668463] w fun e w' => e = .returned (.bool (nearB x y)) ∧ w' = w := by
  have hs := fun t w => run_float_arith (P := Try.prog) w .sub t .f32 _ _ _ (sub_any hx hy)
  unfold nearB farB
  unfold dW at hs
  by_cases c : y ≤ x
  · rw [if_pos c]
    simp only [if_pos c] at hs
    have hd : subB x y ≤ 2139095040 := Nat.le_trans (sub_le hx c) (Nat.le_of_lt hx)
    have hle := le_amt (x := subB x y) (y := 981668463) hd (by omega)
    have K := fun w => FarOf_up (subB x y) hd w
    clear c hd hx hy
    go_enter Try.func8, Try.ntmps8
    go_wp2_with fail
    refine (K _).mono ?_
    rintro e w1 ⟨rfl, rfl⟩
    go_wp2_with fail
    go_ret
    exact ⟨rfl, rfl⟩
  · rw [if_neg c]
    simp only [if_neg c] at hs
    obtain ⟨p0, p1⟩ := sub_pos hy (show x < y by omega)
    have hle := le_amt (x := subB y x) (y := 981668463) (Nat.le_of_lt p1) (by omega)
    have K := fun w => FarOf_dn (subB y x) p0 p1 w
    clear c p0 p1 hx hy
    go_enter Try.func8, Try.ntmps8
    go_wp2_with fail
    refine (K _).mono ?_
    rintro e w1 ⟨rfl, rfl⟩
    go_wp2_with fail
    go_ret
    exact ⟨rfl, rfl⟩

end Go.Proofs.Ythljppdkplkohaa
