/-
  SEVERAL TEXTS IN ONE.
-/
import Derived.Test.YtchcikfjbpcalaaRampChk
import Derived.Test.YtchcikfjbpcalaaRamp
import Derived.Test.YtchcikfjbpcalaaG9
import Derived.Test.YtchcikfjbpcalaaNear
import Derived.Test.YtchcikfjbpcalaaFluxesOf
import Derived.Test.YtchcikfjbpcalaaSmoothRoad
import Derived.Test.YtchcikfjbpcalaaArith

/-
  WHAT JOINS: at most what wants to, and it fits, nearly; with nothing that wants to join a step is a step.
-/
namespace Go.Proofs.Ytchcikfjbpcalaa
open Go Go.RowKit
set_option maxRecDepth 100000

theorem flux_takes {cs : List Nat} {p b : Nat} (o m : Nat) {k : Nat} (hk : k < 16) : nth (fluxL p b cs o m) k ≤ takesW p b (nth cs k) := by
  cases k with
  | zero => rw [fluxL_0]; omega
  | succ k => rw [fluxL_mid p b cs o m (by omega)]; unfold flowW; omega

theorem join_zero (p b : Nat) (cs : List Nat) (o m k : Nat) : joinW p b cs o m 0 k = 0 := by unfold joinW; omega
theorem join_le (p b : Nat) (cs : List Nat) (o m j k : Nat) : joinW p b cs o m j k ≤ j := by unfold joinW; omega

theorem join_near {cs : List Nat} {p b l : Nat} (ok : OkR cs p b l) (o m j : Nat) {k : Nat} (hk : k < 16) :
    floatBits .add .f32 (nth (fluxL p b cs o m) k) (joinW p b cs o m j k) = some (addB (nth (fluxL p b cs o m) k) (joinW p b cs o m j k)) ∧
    floatBits .add .f32 (takesW p b (nth cs k)) 953267991 = some (addB (takesW p b (nth cs k)) 953267991) ∧
    (FloatKind.f32.format.order (addB (nth (fluxL p b cs o m) k) (joinW p b cs o m j k)) (addB (takesW p b (nth cs k)) 953267991) == some .gt) = false := by
  have hf := flux_takes (cs := cs) (p := p) (b := b) o m hk
  have ht : takesW p b (nth cs k) ≤ 1065353216 := takesW_le ok.pace ok.back
  have hj : joinW p b cs o m j k ≤ posB (difB (takesW p b (nth cs k)) (nth (fluxL p b cs o m) k)) := by unfold joinW; omega
  have hd : posB (difB (takesW p b (nth cs k)) (nth (fluxL p b cs o m) k)) = subB (takesW p b (nth cs k)) (nth (fluxL p b cs o m) k) := by
    have := sub_le (x := takesW p b (nth cs k)) (y := nth (fluxL p b cs o m) k) (by omega) hf
    unfold posB difB
    rw [if_pos hf, if_neg (by omega)]
  exact join_core ht hf (hd ▸ hj)

theorem add_zeroB {x : Nat} (hx : x < 2139095040) : addB x 0 = x := by
  rw [(add_eq hx (by omega)).2, rv_zero, Nat.add_zero]
  have := RU_rv 23 x 0
  rw [Nat.pow_zero, Nat.mul_one] at this
  rw [this]
  omega
theorem set_nth_self (xs : List Nat) (k : Nat) (h : k < xs.length) : xs.set k (nth xs k) = xs := by
  apply List.ext_getElem (by simp)
  intro i h1 h2
  rw [List.getElem_set]
  split
  · rename_i e
    subst e
    unfold nth
    rw [List.getD_eq_getElem?_getD, List.getElem?_eq_getElem h]
    rfl
  · rfl
/-- with nothing that wants to join, what flows into the cells is as it was -/
theorem ramp_zero {cs : List Nat} {p b l : Nat} (ok : OkR cs p b l) (o m : Nat) {k : Nat} (hk : k < 16) : rampIn p b cs o m 0 k = intoL (fluxL p b cs o m) := by
  have hl := intoL_len (fluxL_len p b cs o m)
  have := intoL_le ok o m (nth (intoL (fluxL p b cs o m)) k) (nth_mem (by omega))
  unfold rampIn
  rw [join_zero, add_zeroB (by omega)]
  exact set_nth_self _ _ (by omega)

theorem ramp_val {cs : List Nat} {p b l : Nat} (_ok : OkR cs p b l) (hok : okB cs p b l = true) (o j : Nat) (ho : o ≤ 1065353216) (hj : j ≤ 1065353216) {k : Nat} (hk : k < 16) :
    vRampStep cs p b l (k : Int) o 1065353216 j = (stepL cs (rampIn p b cs o 1065353216 j k) (outL (fluxL p b cs o 1065353216)), p, b, l, nth (fluxL p b cs o 1065353216) 0, nth (fluxL p b cs o 1065353216) 16, joinW p b cs o 1065353216 j k, 0) := by
  have h : rampC (okB cs p b l) (k : Int) o 1065353216 j = 0 := by
    unfold rampC amtC
    rw [hok, if_pos rfl, if_pos (by omega), if_pos]
    show (decide (o < 2139095040) && (decide (1065353216 < 2139095040) && (decide (j < 2139095040) && true))) = true
    rw [decide_eq_true (show o < 2139095040 by omega), decide_eq_true (show j < 2139095040 by omega)]
    rfl
  unfold vRampStep
  rw [if_pos h, Int.toNat_natCast]

theorem given_ok {o : Nat} (ho : o ≤ 1065353216) : givenC true o 1065353216 = 0 := by
  unfold givenC amtB
  rw [if_pos rfl, if_pos]
  rw [decide_eq_true (show o < 2139095040 by omega)]
  rfl

theorem step_val {cs : List Nat} {p b l : Nat} (_ok : OkR cs p b l) (hok : okB cs p b l = true) (o : Nat) (ho : o ≤ 1065353216) :
    vStepRoad cs p b l o 1065353216 = (nextL p b cs o 1065353216, p, b, l, nth (fluxL p b cs o 1065353216) 0, nth (fluxL p b cs o 1065353216) 16, 0) := by
  unfold vStepRoad
  rw [hok, if_pos (given_ok ho)]

theorem flux_val {cs : List Nat} {p b l : Nat} (_ok : OkR cs p b l) (hok : okB cs p b l = true) (o : Nat) (ho : o ≤ 1065353216) :
    vFluxesOf cs p b l o 1065353216 = (fluxL p b cs o 1065353216, 0) := by
  unfold vFluxesOf
  rw [hok, if_pos (given_ok ho)]

theorem vSmooth_val {cs : List Nat} {p b l : Nat} (hok : okB cs p b l = true) : vSmoothRoad cs p b l = (smoothL cs, p, b, l, 0) := by
  unfold vSmoothRoad
  rw [hok, if_pos rfl]

theorem smooth_end (cs : List Nat) : nth (smoothL cs) 0 = nth cs 0 ∧ nth (smoothL cs) 15 = nth cs 15 := by
  unfold smoothL
  rw [rowOf_nth 16 _ (by omega), rowOf_nth 16 _ (by omega)]
  exact ⟨rfl, rfl⟩
end Go.Proofs.Ytchcikfjbpcalaa

/-
  THE LEAST AND THE GREATEST OF THREE AMOUNTS.
-/
namespace Go.Proofs.Ytchcikfjbpcalaa
open Go Go.RowKit
theorem run_min3 {P : Program} (w : World) (ts : Array TypeId) (t : TypeId) {x y z : Nat} (hx : x ≤ 2139095040) (hy : y ≤ 2139095040) (hz : z ≤ 2139095040) :
    (Builtin.min_ ts t #[.float .f32 x, .float .f32 y, .float .f32 z]).run P w = .ok (.float .f32 (min (min x y) z)) w := by
  have ho := order_amt hx hy
  have hz1 := order_amt hx hz
  have hz2 := order_amt hy hz
  rcases Nat.lt_trichotomy x y with h | h | h
  · rw [Nat.compare_eq_lt.2 h] at ho
    rw [Nat.min_eq_left (Nat.le_of_lt h)]
    rcases Nat.lt_trichotomy x z with c | c | c
    · rw [Nat.compare_eq_lt.2 c] at hz1
      simp [Builtin.min_, Builtin.min2, ho, hz1, Nat.min_eq_left (Nat.le_of_lt c)]
    · subst c
      rw [Nat.compare_eq_eq.2 rfl] at hz1
      simp [Builtin.min_, Builtin.min2, ho, hz1]
    · rw [Nat.compare_eq_gt.2 c] at hz1
      simp [Builtin.min_, Builtin.min2, ho, hz1, Nat.min_eq_right (Nat.le_of_lt c)]
  · subst h
    rw [Nat.compare_eq_eq.2 rfl] at ho
    rw [Nat.min_self]
    rcases Nat.lt_trichotomy x z with c | c | c
    · rw [Nat.compare_eq_lt.2 c] at hz1
      simp [Builtin.min_, Builtin.min2, ho, hz1, Nat.min_eq_left (Nat.le_of_lt c)]
    · subst c
      rw [Nat.compare_eq_eq.2 rfl] at hz1
      simp [Builtin.min_, Builtin.min2, ho]
    · rw [Nat.compare_eq_gt.2 c] at hz1
      simp [Builtin.min_, Builtin.min2, ho, hz1, Nat.min_eq_right (Nat.le_of_lt c)]
  · rw [Nat.compare_eq_gt.2 h] at ho
    rw [Nat.min_eq_right (Nat.le_of_lt h)]
    rcases Nat.lt_trichotomy y z with c | c | c
    · rw [Nat.compare_eq_lt.2 c] at hz2
      simp [Builtin.min_, Builtin.min2, ho, hz2, Nat.min_eq_left (Nat.le_of_lt c)]
    · subst c
      rw [Nat.compare_eq_eq.2 rfl] at hz2
      simp [Builtin.min_, Builtin.min2, ho, hz2]
    · rw [Nat.compare_eq_gt.2 c] at hz2
      simp [Builtin.min_, Builtin.min2, ho, hz2, Nat.min_eq_right (Nat.le_of_lt c)]
theorem run_max3 {P : Program} (w : World) (ts : Array TypeId) (t : TypeId) {x y z : Nat} (hx : x ≤ 2139095040) (hy : y ≤ 2139095040) (hz : z ≤ 2139095040) :
    (Builtin.max_ ts t #[.float .f32 x, .float .f32 y, .float .f32 z]).run P w = .ok (.float .f32 (max (max x y) z)) w := by
  have ho := order_amt hx hy
  have hz1 := order_amt hx hz
  have hz2 := order_amt hy hz
  rcases Nat.lt_trichotomy x y with h | h | h
  · rw [Nat.compare_eq_lt.2 h] at ho
    rw [Nat.max_eq_right (Nat.le_of_lt h)]
    rcases Nat.lt_trichotomy y z with c | c | c
    · rw [Nat.compare_eq_lt.2 c] at hz2
      simp [Builtin.max_, Builtin.max2, ho, hz2, Nat.max_eq_right (Nat.le_of_lt c)]
    · subst c
      rw [Nat.compare_eq_eq.2 rfl] at hz2
      simp [Builtin.max_, Builtin.max2, ho, hz2]
    · rw [Nat.compare_eq_gt.2 c] at hz2
      simp [Builtin.max_, Builtin.max2, ho, hz2, Nat.max_eq_left (Nat.le_of_lt c)]
  · subst h
    rw [Nat.compare_eq_eq.2 rfl] at ho
    rw [Nat.max_self]
    rcases Nat.lt_trichotomy x z with c | c | c
    · rw [Nat.compare_eq_lt.2 c] at hz1
      simp [Builtin.max_, Builtin.max2, ho, hz1, Nat.max_eq_right (Nat.le_of_lt c)]
    · subst c
      rw [Nat.compare_eq_eq.2 rfl] at hz1
      simp [Builtin.max_, Builtin.max2, ho]
    · rw [Nat.compare_eq_gt.2 c] at hz1
      simp [Builtin.max_, Builtin.max2, ho, hz1, Nat.max_eq_left (Nat.le_of_lt c)]
  · rw [Nat.compare_eq_gt.2 h] at ho
    rw [Nat.max_eq_left (Nat.le_of_lt h)]
    rcases Nat.lt_trichotomy x z with c | c | c
    · rw [Nat.compare_eq_lt.2 c] at hz1
      simp [Builtin.max_, Builtin.max2, ho, hz1, Nat.max_eq_right (Nat.le_of_lt c)]
    · subst c
      rw [Nat.compare_eq_eq.2 rfl] at hz1
      simp [Builtin.max_, Builtin.max2, ho, hz1]
    · rw [Nat.compare_eq_gt.2 c] at hz1
      simp [Builtin.max_, Builtin.max2, ho, hz1, Nat.max_eq_left (Nat.le_of_lt c)]
end Go.Proofs.Ytchcikfjbpcalaa
