/-
  CONTRACTS: ways at a crossing: places, and ways that meet.
-/
import Derived.Test.YtboahhipobcababG3
import Derived.Test.YtboahhipobcababToTab
namespace Go.Proofs.Ytboahhipobcabab
open Go Go.ChangeShapes Go.WideShapes Go.ChangeAt Go.RowKit
set_option maxRecDepth 100000
theorem rem_a {n : Int} (hn : 0 < n) (a : Int) : (a.tmod n + n).tmod n = a % n := by
  have h1 : -n < a.tmod n := by
    have := Int.lt_tmod_of_pos a hn
    exact this
  rw [Int.tmod_eq_emod_of_nonneg (by omega), Int.add_emod_right, Int.tmod_def, Int.sub_mul_emod_self_left]
theorem modulo_b (a n : Int) (hn : 0 < n ∧ n ≤ 240) (_ha : -4000000000 ≤ a ∧ a ≤ 4000000000) (w : World) : Calls Try.prog 107 #[.int .i64 a, .int .i64 n] w (Rd (.int .i64 (a % n)) w) := by
  have e := rem_a hn.1 a
  have h1 : -n < a.tmod n := Int.lt_tmod_of_pos a hn.1
  have h2 : a.tmod n < n := Int.tmod_lt_of_pos a hn.1
  have h0 : ¬ n = 0 := by omega
  have s0 : IntKind.i64.wrap (a.tmod n) = a.tmod n := IntWalk.i64_in _ (by omega)
  have s1 : IntKind.i64.wrap (a.tmod n + n) = a.tmod n + n := IntWalk.i64_in _ (by omega)
  have h3 := Int.emod_nonneg a (show n ≠ 0 by omega)
  have h4 := Int.emod_lt_of_pos a hn.1
  have s2 : IntKind.i64.wrap ((a.tmod n + n).tmod n) = a % n := by rw [e]; exact IntWalk.i64_in _ (by omega)
  go_enter Try.func107, Try.ntmps107
  go_wp2
  go_ret
  exact Rd.mk0
/-- how many places an arm is behind another -/
def plc (x f : Int) : Int := (x - f) % 4
theorem plc_in (x f : Int) : 0 ≤ plc x f ∧ plc x f < 4 := by unfold plc; omega
def crB (e o t : Int) : Bool := decide (0 < min o t) && (decide (min o t < e) && decide (e < max o t))
def cfW (fa ta fb tb : Int) : Bool := (!decide (fa = fb) && decide (ta = tb)) || crB (plc ta fa) (plc fb fa) (plc tb fa)
def mtB (fa ta fb tb : Int) : Bool := if fa = fb then false else if ta = tb then true else if fb = ta ∨ tb = fa then false else (decide (plc fb fa < plc ta fa) != decide (plc tb fa < plc ta fa))
def wayB (f t : Int) : Bool := decide (0 ≤ f ∧ f < 4) && (decide (0 ≤ t ∧ t < 4) && !decide (f = t))
theorem cf_mt4 : ∀ a b c d : Fin 4, a ≠ b → c ≠ d → cfW a.val b.val c.val d.val = mtB a.val b.val c.val d.val := by decide +kernel
theorem cf_mt {fa ta fb tb : Int} (h1 : wayB fa ta = true) (h2 : wayB fb tb = true) : cfW fa ta fb tb = mtB fa ta fb tb := by
  unfold wayB at h1 h2
  simp only [Bool.and_eq_true, decide_eq_true_eq, Bool.not_eq_true', decide_eq_false_iff_not] at h1 h2
  have := cf_mt4 ⟨fa.toNat, by omega⟩ ⟨ta.toNat, by omega⟩ ⟨fb.toNat, by omega⟩ ⟨tb.toNat, by omega⟩ (by intro h; have := congrArg Fin.val h; simp at this; omega) (by intro h; have := congrArg Fin.val h; simp at this; omega)
  simpa [Int.toNat_of_nonneg h1.1.1, Int.toNat_of_nonneg h1.2.1.1, Int.toNat_of_nonneg h2.1.1, Int.toNat_of_nonneg h2.2.1.1] using this
theorem places_any (f t x : Int) (hf : 0 ≤ f ∧ f < 4) (hx : 0 ≤ x ∧ x < 4) (w : World) :
    Calls Try.prog 149 #[.agg #[.int .i64 f, .int .i64 t], .int .i64 x] w fun e w' => e = .returned (.int .i64 (plc x f)) ∧ Below w.heap.size w w' := by
  have s0 : IntKind.i64.wrap (x - f) = x - f := IntWalk.i64_in _ (by omega)
  go_enter Try.func149, Try.ntmps149
  go_wp2_with fail
  refine (modulo_b (x - f) 4 (by omega) (by omega) _).mono ?_
  rintro e w1 ⟨rfl, n1, rfl⟩
  go_wp2_with fail
  go_ret
  exact ⟨rfl, bdrew (b0 _ _) _⟩
theorem isWay_any (f t : Int) (w : World) : Calls Try.prog 125 #[.agg #[.int .i64 f, .int .i64 t]] w fun e w' => e = .returned (.bool (wayB f t)) ∧ Below w.heap.size w w' := by
  have K1 := isArm_b f 4
  have K2 := isArm_b t 4
  unfold wayB
  cases h1 : decide (0 ≤ f ∧ f < 4)
  · rw [h1] at K1
    clear h1 K2
    go_enter Try.func125, Try.ntmps125
    go_wp2_with fail
    refine (K1 _).mono ?_
    rintro e w1 ⟨rfl, n1, rfl⟩
    go_wp2_with fail
    go_ret
    exact ⟨rfl, bdrew (b0 _ _) _⟩
  · rw [h1] at K1
    clear h1
    cases h2 : decide (0 ≤ t ∧ t < 4)
    · rw [h2] at K2
      clear h2
      go_enter Try.func125, Try.ntmps125
      go_wp2_with fail
      refine (K1 _).mono ?_
      rintro e w1 ⟨rfl, n1, rfl⟩
      go_wp2_with fail
      refine (K2 _).mono ?_
      rintro e w2 ⟨rfl, n2, rfl⟩
      go_wp2_with fail
      go_ret
      exact ⟨rfl, bdrew (b0 _ _) _⟩
    · rw [h2] at K2
      clear h2
      have hv : (f != t) = (true && (true && !decide (f = t))) := by by_cases h : f = t <;> simp [h]
      generalize hr : (true && (true && !decide (f = t))) = r at hv ⊢
      clear hr
      go_enter Try.func125, Try.ntmps125
      go_wp2_with fail
      refine (K1 _).mono ?_
      rintro e w1 ⟨rfl, n1, rfl⟩
      go_wp2_with fail
      refine (K2 _).mono ?_
      rintro e w2 ⟨rfl, n2, rfl⟩
      go_wp2_with fail
      go_ret
      exact ⟨rfl, bdrew (b0 _ _) _⟩

theorem l04Meets_any (fa ta fb tb : Int) (h1 : 0 ≤ fa ∧ fa < 4) (h2 : 0 ≤ ta ∧ ta < 4) (h3 : 0 ≤ fb ∧ fb < 4) (h4 : 0 ≤ tb ∧ tb < 4) (w : World) :
    Calls Try.prog 90 #[.int .i64 fa, .int .i64 ta, .int .i64 fb, .int .i64 tb] w fun e w' => e = .returned (.bool (mtB fa ta fb tb)) ∧ Below w.heap.size w w' := by
  unfold mtB
  by_cases c1 : fa = fb
  · rw [if_pos c1]
    subst c1
    go_enter Try.func90, Try.ntmps90
    go_wp2
    go_ret
    exact ⟨rfl, Below.refl _ _⟩
  · rw [if_neg c1]
    have d1 : (fa == fb) = false := by simpa using c1
    by_cases c2 : ta = tb
    · rw [if_pos c2]
      subst c2
      go_enter Try.func90, Try.ntmps90
      go_wp2
      go_ret
      exact ⟨rfl, Below.refl _ _⟩
    · rw [if_neg c2]
      have d2 : (ta == tb) = false := by simpa using c2
      by_cases c3 : fb = ta
      · rw [if_pos (.inl c3)]
        subst c3
        go_enter Try.func90, Try.ntmps90
        go_wp2
        go_ret
        exact ⟨rfl, Below.refl _ _⟩
      · have d3 : (fb == ta) = false := by simpa using c3
        by_cases c4 : tb = fa
        · rw [if_pos (.inr c4)]
          subst c4
          go_enter Try.func90, Try.ntmps90
          go_wp2
          go_ret
          exact ⟨rfl, Below.refl _ _⟩
        · have d4 : (tb == fa) = false := by simpa using c4
          rw [if_neg (by intro h; exact h.elim c3 c4)]
          have e1 : IntKind.i64.wrap (ta - fa) = ta - fa := IntWalk.i64_in _ (by omega)
          have e2 : IntKind.i64.wrap (ta - fa + 4) = ta - fa + 4 := IntWalk.i64_in _ (by omega)
          have e3 : (ta - fa + 4).tmod 4 = plc ta fa := by unfold plc; rw [Int.tmod_eq_emod_of_nonneg (by omega)]; omega
          have e4 : IntKind.i64.wrap (plc ta fa) = plc ta fa := IntWalk.i64_in _ (by have := plc_in ta fa; omega)
          have f1 : IntKind.i64.wrap (fb - fa) = fb - fa := IntWalk.i64_in _ (by omega)
          have f2 : IntKind.i64.wrap (fb - fa + 4) = fb - fa + 4 := IntWalk.i64_in _ (by omega)
          have f3 : (fb - fa + 4).tmod 4 = plc fb fa := by unfold plc; rw [Int.tmod_eq_emod_of_nonneg (by omega)]; omega
          have f4 : IntKind.i64.wrap (plc fb fa) = plc fb fa := IntWalk.i64_in _ (by have := plc_in fb fa; omega)
          have g1 : IntKind.i64.wrap (tb - fa) = tb - fa := IntWalk.i64_in _ (by omega)
          have g2 : IntKind.i64.wrap (tb - fa + 4) = tb - fa + 4 := IntWalk.i64_in _ (by omega)
          have g3 : (tb - fa + 4).tmod 4 = plc tb fa := by unfold plc; rw [Int.tmod_eq_emod_of_nonneg (by omega)]; omega
          have g4 : IntKind.i64.wrap (plc tb fa) = plc tb fa := IntWalk.i64_in _ (by have := plc_in tb fa; omega)
          clear h1 h2 h3 h4 c1 c2 c3 c4
          go_enter Try.func90, Try.ntmps90
          go_wp2
          go_ret
          exact ⟨rfl, Below.refl _ _⟩

end Go.Proofs.Ytboahhipobcabab
