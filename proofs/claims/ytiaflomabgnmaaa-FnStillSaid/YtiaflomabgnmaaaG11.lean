/-
  SEVERAL TEXTS IN ONE.
-/
import Derived.Test.YtiaflomabgnmaaaG10
import Derived.Test.YtiaflomabgnmaaaArith
import Derived.Test.YtiaflomabgnmaaaRefuse

/-
  CONTRACTS: the flows of a step, the model's.
-/
namespace Go.Proofs.Ytiaflomabgnmaaa
open Go Go.RowKit
set_option maxRecDepth 100000

end Go.Proofs.Ytiaflomabgnmaaa

/-
  NARROW FLOATS: differences of either sign, numbers held between 0 and 1, halves and quarters of shares.
  No Go text in it. Conditions: those of each theorem.
-/
namespace Go.Proofs.Ytiaflomabgnmaaa
open Go

theorem rv_1 : rv 23 1 = 1 := by decide

/-- a number that is no NaN, and no -0 -/
def Sgn (v : Nat) : Prop := v ≤ 2139095040 ∨ ∃ r, v = 2147483648 + r ∧ 0 < r ∧ r ≤ 2139095040
theorem Sgn.amt {v : Nat} (h : v ≤ 2139095040) : Sgn v := .inl h
theorem Sgn.lt {v : Nat} (h : Sgn v) : v < 4294967296 := by rcases h with h | ⟨r, rfl, h1, h2⟩ <;> omega
theorem Sgn.nan {v : Nat} (h : Sgn v) : nanB v = false := by
  unfold nanB
  rcases h with h | ⟨r, rfl, h1, h2⟩
  · exact decide_eq_false (by omega)
  · exact decide_eq_false (by omega)
theorem Sgn.lt0 {v : Nat} (h : Sgn v) : (FloatKind.f32.format.order v 0 == some .lt) = decide (2147483648 ≤ v) := by
  rcases h with h | ⟨r, rfl, h1, h2⟩
  · rw [lt_amt h (by omega)]; rw [decide_eq_false (by omega), decide_eq_false (by omega)]
  · rw [order_neg h2 h1 (by omega), decide_eq_true (by omega)]; rfl
theorem Sgn.gt1 {v : Nat} (h : Sgn v) : (FloatKind.f32.format.order v 1065353216 == some .gt) = decide (1065353216 < v ∧ v < 2147483648) := by
  rcases h with h | ⟨r, rfl, h1, h2⟩
  · rw [gt_amt h (by omega)]
    by_cases c : 1065353216 < v
    · rw [decide_eq_true c, decide_eq_true (by omega)]
    · rw [decide_eq_false c, decide_eq_false (by omega)]
  · rw [order_neg h2 h1 (by omega), decide_eq_false (by omega)]; rfl

/-- a number, held from below at 0 -/
def posB (v : Nat) : Nat := if 2147483648 ≤ v then 0 else v
/-- a number, held between 0 and 1 -/
def holdB (v : Nat) : Nat := min (posB v) 1065353216
theorem posB_le {v : Nat} (h : Sgn v) : posB v ≤ 2139095040 := by
  unfold posB
  rcases h with h | ⟨r, rfl, h1, h2⟩
  · rw [if_neg (by omega)]; exact h
  · rw [if_pos (by omega)]; omega
theorem holdB_le (v : Nat) : holdB v ≤ 1065353216 := Nat.min_le_right _ _

/-- max of a number and 0 -/
theorem run_max0 {P : Program} (w : World) (ts : Array TypeId) (t : TypeId) {v : Nat} (h : Sgn v) :
    (Builtin.max_ ts t #[.float .f32 v, .float .f32 0]).run P w = .ok (.float .f32 (posB v)) w := by
  unfold posB
  rcases h with h | ⟨r, rfl, h1, h2⟩
  · have ho := order_amt h (show 0 ≤ 2139095040 by omega)
    rw [if_neg (by omega)]
    rcases Nat.eq_zero_or_pos v with e | e
    · subst e
      rw [Nat.compare_eq_eq.2 rfl] at ho
      simp [Builtin.max_, Builtin.max2, ho]
    · rw [Nat.compare_eq_gt.2 e] at ho
      simp [Builtin.max_, Builtin.max2, ho]
  · have ho := order_neg h2 h1 (show 0 ≤ 2139095040 by omega)
    rw [if_pos (by omega)]
    simp [Builtin.max_, Builtin.max2, ho]

/-- a difference of finite amounts, of either sign -/
def difB (x y : Nat) : Nat := if y ≤ x then subB x y else 2147483648 + subB y x
theorem sub_pos {x y : Nat} (hx : x < 2139095040) (h : y < x) : 0 < subB x y := by
  rw [(sub_eq hx (Nat.le_of_lt h)).2]
  have h1 := rv_lt (p := 23) h
  have := le_RU (p := 23) (mag := rv 23 x - rv 23 y) (D := 0) (r := 1) (by rw [rv_1]; omega)
  omega
theorem dif_eq {x y : Nat} (hx : x < 2139095040) (hy : y < 2139095040) : floatBits .sub .f32 x y = some (difB x y) := by
  by_cases c : y ≤ x
  · unfold difB; rw [if_pos c]; exact (sub_eq hx c).1
  · have c' : x < y := by omega
    unfold difB; rw [if_neg c]
    have h := sub_fin S32 false false (r := x) (q := y) (by rw [s_inf]; exact hx) (by rw [s_inf]; exact hy)
    rw [word_false, word_false] at h
    have hlt := rv_lt (p := 23) c'
    show S32.sub x y = _
    rw [h, (sub_eq hy (Nat.le_of_lt c')).2]
    unfold roundInt
    rw [s_fb, s_inf]
    have e : sg false (rv 23 x) - sg false (rv 23 y) = -((rv 23 y - rv 23 x : Nat) : Int) := by simp [sg]; omega
    rw [e, if_neg (by omega), decide_eq_true (by omega), word_true, s_sw, Int.natAbs_neg, Int.natAbs_natCast]
theorem dif_sgn {x y : Nat} (hx : x < 2139095040) (hy : y < 2139095040) : Sgn (difB x y) := by
  unfold difB
  by_cases c : y ≤ x
  · rw [if_pos c]; exact .inl (by have := sub_le hx c; omega)
  · rw [if_neg c]
    exact .inr ⟨_, rfl, sub_pos hy (by omega), by have := sub_le hy (show x ≤ y by omega); omega⟩

/-- RU, the same whole number over other powers -/
theorem RU_eq {p m A B A' B' : Nat} (h : A + B' = A' + B) : RU p (m * 2 ^ A) B = RU p (m * 2 ^ A') B' := by
  rcases Nat.le_total A A' with c | c
  · obtain ⟨d, rfl⟩ := Nat.exists_eq_add_of_le c
    obtain rfl : B' = B + d := by omega
    rw [Nat.pow_add, ← Nat.mul_assoc, RU_scale]
  · obtain ⟨d, rfl⟩ := Nat.exists_eq_add_of_le c
    obtain rfl : B = B' + d := by omega
    rw [Nat.pow_add, ← Nat.mul_assoc, RU_scale]

/-- what an amount reads as has few digits -/
theorem read_few {r : Nat} (h : r < 2139095040) : ∃ m a : Nat, S32.read r = .number false m ((a : Int) - 149) ∧ m * 2 ^ a = rv 23 r ∧ m < 16777216 := by
  have hs : r < S32.signWeight := by rw [s_sw]; omega
  obtain ⟨h1, h2⟩ := word_split S32 false hs
  rw [word_false] at h1 h2
  have hb : S32.binade = 8388608 := by decide
  unfold Ieee.Format.read
  simp only [h1, h2]
  rw [s_L, s_inf, hb]
  by_cases c : r < 8388608
  · rw [if_pos c]
    refine ⟨r, 0, by simp, ?_, by omega⟩
    unfold rv; rw [if_pos (by omega)]; omega
  · rw [if_neg c, if_pos h]
    refine ⟨8388608 + r % 8388608, r / 8388608 - 1, ?_, ?_, by omega⟩
    · congr 1
    · unfold rv; rw [if_neg (by omega)]
theorem log2_few {m : Nat} (h : m < 16777216) : m.log2 ≤ 23 := by
  by_cases c : m = 0
  · subst c; decide
  · have := (Nat.log2_lt c (k := 24)).2 (by omega); omega

/-- a quotient by a power of two -/
theorem div_pow {x y k : Nat} (hx : x < 2139095040) (hy : S32.read y = .number false 8388608 ((k : Int) - 23)) :
    floatBits .quo .f32 x y = some (min (RU 23 (rv 23 x) k) 2139095040) := by
  obtain ⟨m, a, h1, h3, hm⟩ := read_few hx
  show S32.div x y = _
  unfold Ieee.Format.div
  rw [h1, hy]
  simp only [Ieee.Datum.quotient]
  rw [if_neg (by decide)]
  simp only [Option.map_some, Bool.xor_self, s_fb, Ieee.Format.write]
  rw [show (8388608 : Nat).log2 = 23 from by decide]
  have hl := log2_few hm
  obtain ⟨N, hN⟩ : ∃ N, 23 + 2 + 23 - m.log2 = N + 23 := ⟨25 - m.log2, by omega⟩
  have hN2 : 2 ≤ N := by omega
  rw [hN, Nat.shiftLeft_eq, Nat.pow_add, show (2 : Nat) ^ 23 = 8388608 from rfl, ← Nat.mul_assoc, Nat.mul_div_cancel _ (by omega), Nat.mul_mod_left]
  rw [nearest_eq, word_false, s_inf, s_L, s_fb]
  refine congrArg some (congrArg (fun z => min z 2139095040) ?_)
  rw [← h3, show (2 * (m * 2 ^ N) + ((0 : Nat) != 0).toNat) = m * 2 ^ (N + 1) from by rw [show ((0 : Nat) != 0).toNat = 0 from rfl, Nat.pow_succ]; ac_rfl, Nat.mul_assoc, ← Nat.pow_add]
  exact RU_eq (by omega)

theorem mul_pow {x q k : Nat} (hx : x < 2139095040) (hq : q < 2139095040) (hk : k ≤ 149) (h : rv 23 q = 2 ^ (149 - k)) : mulB q x = min (RU 23 (rv 23 x) k) 2139095040 := by
  rw [(mul_eq hq hx).2, h]
  refine congrArg (fun z => min z 2139095040) ?_
  have := RU_eq (p := 23) (m := rv 23 x) (A := 149 - k) (B := 149) (A' := 0) (B' := k) (by omega)
  rw [Nat.pow_zero, Nat.mul_one] at this
  rw [Nat.mul_comm]; exact this

/-- a quarter, and a half, as quotient and as product -/
theorem quarter {x : Nat} (hx : x < 2139095040) : floatBits .quo .f32 x 1082130432 = some (mulB 1048576000 x) := by
  rw [div_pow (k := 2) hx (by decide), mul_pow (k := 2) hx (by omega) (by omega) (by decide)]
theorem half {x : Nat} (hx : x < 2139095040) : floatBits .quo .f32 x 1073741824 = some (mulB 1056964608 x) := by
  rw [div_pow (k := 1) hx (by decide), mul_pow (k := 1) hx (by omega) (by omega) (by decide)]
end Go.Proofs.Ytiaflomabgnmaaa

/-
  CONTRACTS: numbers that are held between 0 and 1.
-/
namespace Go.Proofs.Ytiaflomabgnmaaa
open Go Go.RowKit
set_option maxRecDepth 100000

/-- the two bounds, in new blocks -/
def boundsW (w : World) : World := (w.alloc (.cells #[.float .f32 0] 24)).alloc (.cells #[.float .f32 1065353216] 24)

theorem boundsW_below (w : World) : Below w.heap.size w (boundsW w) := bnew (b0 w _) _

theorem boundsW_0 (w : World) : At (boundsW w) w.heap.size #[.float .f32 0] 24 := (At.new w _ _).alloc _

theorem boundsW_1 (w : World) : At (boundsW w) (w.heap.size + 1) #[.float .f32 1065353216] 24 := At.last1 w _ _ _

theorem holdBetween_any (w : World) :
    Calls Try.prog 20 #[.float .f32 0, .float .f32 1065353216] w fun e w' => e = .returned (.func (.func 36) #[] #[.pointer (some ⟨w.heap.size, 0, none⟩), .pointer (some ⟨(w.heap.size + 1), 0, none⟩)]) ∧ w' = boundsW w := by
  have hmf : ∀ (fn : Fn) (first cap : Array Value) (w : World), (Instr.makeFunc fn first cap).run Try.prog w = .ok (.func fn first cap) w := fun _ _ _ _ => rfl
  go_enter Try.func20, Try.ntmps20
  go_wp2
  go_ret
  exact ⟨rfl, rfl⟩

theorem hold_any (g0 g1 : Nat) (v : Nat) (hv : Sgn v) (w : World) (A0 : At w g0 #[.float .f32 0] 24) (A1 : At w g1 #[.float .f32 1065353216] 24) :
    Calls Try.prog 36 #[.float .f32 v, .pointer (some ⟨g0, 0, none⟩), .pointer (some ⟨g1, 0, none⟩)] w fun e w' => e = .returned (.float .f32 (holdB v)) ∧ w' = w := by
  have c0 := A0.cell (k := 0) (v := .float .f32 0) rfl
  have c1 := A1.cell (k := 0) (v := .float .f32 1065353216) rfl
  have m0 : ∀ ts t w, (Builtin.max_ ts t #[.float .f32 v, .float .f32 0]).run Try.prog w = .ok (.float .f32 (posB v)) w := fun ts t w => run_max0 w ts t hv
  have m1 : ∀ ts t w, (Builtin.min_ ts t #[.float .f32 (posB v), .float .f32 1065353216]).run Try.prog w = .ok (.float .f32 (holdB v)) w := fun ts t w => run_min_amt w ts t (posB_le hv) (by omega)
  go_enter Try.func36, Try.ntmps36
  go_wp2
  go_ret
  exact ⟨rfl, rfl⟩

end Go.Proofs.Ytiaflomabgnmaaa
