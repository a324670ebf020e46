/-
  FnSteps' numbers: steps told by constant lists, steps that follow steps, sums that only grow, and the balance of one step.
  No Go text in it but what it imports. Conditions: those of each theorem.
-/
import Derived.Test.YtapnkkbkhifmeaaG12
import Derived.Test.YtapnkkbkhifmeaaG16
import Derived.Test.YtapnkkbkhifmeaaStepListZ
namespace Go.Proofs.Ytapnkkbkhifmeaa
open Go Go.RowKit
set_option maxRecDepth 100000

/-- steps at the same orders are the same steps -/
theorem itL_congr {p b : Nat} {cs : List Nat} {oo mm oo' mm' : Nat → Nat} : ∀ n, (∀ k, k < n → oo k = oo' k ∧ mm k = mm' k) → itL p b cs oo mm n = itL p b cs oo' mm' n
  | 0, _ => rfl
  | n + 1, h => by rw [itL_succ, itL_succ, itL_congr n (fun k hk => h k (by omega)), (h n (by omega)).1, (h n (by omega)).2]

theorem itS_congr {p b : Nat} {cs : List Nat} {oo mm oo' mm' : Nat → Nat} (i : Nat) : ∀ n, (∀ k, k < n → oo k = oo' k ∧ mm k = mm' k) → itS p b cs oo mm i n = itS p b cs oo' mm' i n
  | 0, _ => rfl
  | n + 1, h => by
    rw [itS_succ, itS_succ, itS_congr i n (fun k hk => h k (by omega))]
    unfold itF
    rw [itL_congr n (fun k hk => h k (by omega)), (h n (by omega)).1, (h n (by omega)).2]

/-- n steps and then k more -/
theorem itL_more (p b : Nat) (cs : List Nat) (o m n : Nat) : ∀ k, itL p b (itL p b cs (fun _ => o) (fun _ => m) n) (fun _ => o) (fun _ => m) k = itL p b cs (fun _ => o) (fun _ => m) (n + k)
  | 0 => rfl
  | k + 1 => by rw [itL_succ, itL_more p b cs o m n k, ← Nat.add_assoc, itL_succ]

/-- what has flowed, as a sum of at most sixteen -/
theorem itS_sum {cs : List Nat} {p b l : Nat} (oo mm : Nat → Nat) (i : Nat) : ∀ k, k ≤ 16 → itS p b cs oo mm i k = sumW (rowOf 16 fun j => nth (itF p b cs oo mm j) i) k
  | 0, _ => rfl
  | k + 1, hk => by rw [itS_succ, itS_sum (l := l) oo mm i k (by omega)]; show _ = addB _ _; rw [rowOf_nth 16 (fun j => nth (itF p b cs oo mm j) i) (by omega)]

theorem itS_lt {cs : List Nat} {p b l : Nat} (ok : OkR cs p b l) (oo mm : Nat → Nat) (i k : Nat) (hk : k ≤ 16) : itS p b cs oo mm i k < 2139095040 := by
  rw [itS_sum (l := l) oo mm i k hk]
  have h : ∀ j, nth (rowOf 16 fun j => nth (itF p b cs oo mm j) i) j ≤ 1065353216 := nth_le fun x hx => by
    obtain ⟨j, -, rfl⟩ := rowOf_mem hx
    exact nth_le (itF_le ok oo mm j) i
  have h1 := (sum_near h k hk).1
  have h2 := fN_mono16 k (by omega)
  have h3 := fN_16
  omega

/-- what has flowed only grows -/
theorem itS_grow {cs : List Nat} {p b l : Nat} (ok : OkR cs p b l) (oo mm : Nat → Nat) (i n : Nat) : ∀ k, n + k ≤ 16 → itS p b cs oo mm i n ≤ itS p b cs oo mm i (n + k)
  | 0, _ => Nat.le_refl _
  | k + 1, hk => by
    refine Nat.le_trans (itS_grow ok oo mm i n k (by omega)) ?_
    rw [← Nat.add_assoc, itS_succ]
    have h1 := itS_lt ok oo mm i (n + k) (by omega)
    have h2 := nth_le (itF_le ok oo mm (n + k)) i
    exact le_add h1 (by omega) (by omega) (Nat.le_add_right _ _)

theorem amtC_const {o n : Nat} (ho : o ≤ 1065353216) : amtC (List.replicate n o) = 0 := by
  unfold amtC
  rw [if_pos]
  rw [List.all_eq_true]
  intro x hx
  obtain rfl := List.eq_of_mem_replicate hx
  unfold amtB
  simp
  omega

theorem nth_const {o n k : Nat} (h : k < n) : nth (List.replicate n o) k = o := by
  unfold nth
  simp [h]

/-- steps told by lists of the same are steps at once -/
theorem vList_yes {cs : List Nat} {p b l o m n : Nat} (hok : okB cs p b l = true) (ho : o ≤ 1065353216) (hm : m ≤ 1065353216) (hn : n ≤ 400) :
    vStepList cs p b l (List.replicate n o) (List.replicate n m) = (itL p b cs (fun _ => o) (fun _ => m) n, p, b, l, itS p b cs (fun _ => o) (fun _ => m) 0 n, itS p b cs (fun _ => o) (fun _ => m) 16 n, 0) := by
  have hc : ∀ k, k < n → (fun k => nth (List.replicate n o) k) k = (fun _ => o) k ∧ (fun k => nth (List.replicate n m) k) k = (fun _ => m) k := fun k hk => ⟨nth_const hk, nth_const hk⟩
  have hL : listC true (List.replicate n o) (List.replicate n m) = 0 := by
    unfold listC
    rw [if_pos rfl, List.length_replicate, List.length_replicate, if_pos ⟨rfl, hn⟩, amtC_const ho, if_pos rfl, amtC_const hm]
  unfold vStepList
  rw [hok, hL, if_pos rfl, List.length_replicate, itL_congr n hc, itS_congr 0 n hc, itS_congr 16 n hc]

theorem given_ok {o m : Nat} (ho : o ≤ 1065353216) (hm : m ≤ 1065353216) : givenC true o m = 0 := by
  unfold givenC amtB
  simp
  omega

theorem vOne_yes {cs : List Nat} {p b l o m : Nat} (hok : okB cs p b l = true) (ho : o ≤ 1065353216) (hm : m ≤ 1065353216) :
    vStepRoad cs p b l o m = (nextL p b cs o m, p, b, l, nth (fluxL p b cs o m) 0, nth (fluxL p b cs o m) 16, 0) := by
  unfold vStepRoad
  rw [hok, if_pos (given_ok ho hm)]

theorem vFlux_yes {cs : List Nat} {p b l o m : Nat} (hok : okB cs p b l = true) (ho : o ≤ 1065353216) (hm : m ≤ 1065353216) :
    vFluxesOf cs p b l o m = (fluxL p b cs o m, 0) := by
  unfold vFluxesOf
  rw [hok, if_pos (given_ok ho hm)]

theorem vSteps_yesR {cs : List Nat} {p b l o m n : Nat} (hok : okB cs p b l = true) (ho : o ≤ 1065353216) (hm : m ≤ 1065353216) (hn : n ≤ 400) : vStepRoads cs p b l o m (n : Int) = (itL p b cs (fun _ => o) (fun _ => m) n, p, b, l, itS p b cs (fun _ => o) (fun _ => m) 0 n, itS p b cs (fun _ => o) (fun _ => m) 16 n, 0) := by
  have h : stepsC true o m (n : Int) = 0 := by unfold stepsC; rw [given_ok ho hm, if_pos rfl, if_pos (by omega)]
  unfold vStepRoads
  rw [hok, h, if_pos rfl, Int.toNat_natCast]

/-- a cell behind a step, not yet held -/
def wholeC (p b : Nat) (cs : List Nat) (o m k : Nat) : Nat := difB (addB (nth cs k) (nth (fluxL p b cs o m) k)) (nth (fluxL p b cs o m) (k + 1))

theorem whole_facts {cs : List Nat} {p b l : Nat} (ok : OkR cs p b l) (o m : Nat) {k : Nat} (hk : k < 16) :
    nth (fluxL p b cs o m) (k + 1) ≤ nth cs k ∧ nth cs k ≤ addB (nth cs k) (nth (fluxL p b cs o m) k) ∧ addB (nth cs k) (nth (fluxL p b cs o m) k) ≤ 1082130432 ∧ wholeC p b cs o m k = subB (addB (nth cs k) (nth (fluxL p b cs o m) k)) (nth (fluxL p b cs o m) (k + 1)) ∧ wholeC p b cs o m k ≤ 1082130432 := by
  have hc := ok.car k
  have hf := nth_le (fluxL_le ok o m) k
  have h1 : nth (fluxL p b cs o m) (k + 1) ≤ nth cs k := by
    have hs : sendsW p b (nth cs k) ≤ nth cs k := by
      have := mul_share (x := p) (y := nth cs k) ok.pace.2 (by omega)
      unfold sendsW
      omega
    rcases Nat.lt_or_ge k 15 with c | c
    · rw [fluxL_mid p b cs o m c]; unfold flowW; omega
    · obtain rfl : k = 15 := by omega
      rw [fluxL_16]; omega
  have h2 : nth cs k ≤ addB (nth cs k) (nth (fluxL p b cs o m) k) := le_add (by omega) (by omega) (by omega) (Nat.le_add_right _ _)
  have h3 : addB (nth cs k) (nth (fluxL p b cs o m) k) ≤ 1082130432 := by
    refine add_le (by omega) (by omega) ?_
    have a1 := rv_le (p := 23) hc
    have a2 := rv_le (p := 23) hf
    have a3 : rv 23 1065353216 + rv 23 1065353216 ≤ rv 23 1082130432 := by decide
    omega
  have e : wholeC p b cs o m k = subB (addB (nth cs k) (nth (fluxL p b cs o m) k)) (nth (fluxL p b cs o m) (k + 1)) := by unfold wholeC difB; rw [if_pos (by omega)]
  refine ⟨h1, h2, h3, e, ?_⟩
  rw [e]
  exact Nat.le_trans (sub_le (by omega) (by omega)) h3

/-- a cell that is not held lies there whole -/
theorem whole_next {cs : List Nat} {p b l : Nat} (ok : OkR cs p b l) (o m : Nat) {k : Nat} (hk : k < 16) (h : wholeC p b cs o m k ≤ 1065353216) : nth (nextL p b cs o m) k = wholeC p b cs o m k := by
  have e : nth (nextL p b cs o m) k = holdB (wholeC p b cs o m k) := by
    unfold nextL
    rw [stepL_nth _ _ _ hk]
    unfold stepC wholeC
    rw [intoL_nth _ hk, outL_nth _ hk]
  rw [e]
  unfold holdB posB
  rw [if_neg (by omega)]
  omega

theorem le_sumW {L : List Nat} (h : ∀ i, nth L i ≤ 1065353216) {i k : Nat} (hik : i < k) (hk : k ≤ 16) : nth L i ≤ sumW L k := by
  induction k with
  | zero => omega
  | succ k ih =>
    have h1 := (sum_near h k (by omega)).1
    have h2 := fN_mono16 k (by omega)
    have h3 := fN_16
    have hc := h k
    show _ ≤ addB (sumW L k) (nth L k)
    rcases Nat.lt_or_ge i k with c | c
    · exact Nat.le_trans (ih c (by omega)) (le_add (by omega) (by omega) (by omega) (Nat.le_add_right _ _))
    · obtain rfl : i = k := by omega
      exact le_add (by omega) (by omega) (by have := h i; omega) (Nat.le_add_left _ _)

theorem rv_52 : 40 * 2 ^ 130 ≤ rv 23 953267991 := by decide +kernel

theorem gC_130 : 16 * gC = 4 * 2 ^ 130 := by decide +kernel

theorem rv_s16 : rv 23 1098907648 = 16 * rv 23 1065353216 := by decide +kernel

theorem rv_s17 : rv 23 1099431936 = 17 * rv 23 1065353216 := by decide +kernel

theorem two_131 : (2 : Nat) ^ (132 - 1) = 2 * 2 ^ 130 := by decide +kernel

/-- what came in, added: one rounding -/
theorem in_near {A f : Nat} (hA : A ≤ 1098907648) (hf : f ≤ 1065353216) : addB A f ≤ 1099431936 ∧ rv 23 (addB A f) ≤ rv 23 A + rv 23 f + 2 * 2 ^ 130 ∧ rv 23 A + rv 23 f ≤ rv 23 (addB A f) + 2 * 2 ^ 130 ∧ A ≤ addB A f := by
  have e := (add_eq (x := A) (y := f) (by omega) (by omega)).2
  have h1 := rv_le (p := 23) hA
  have h2 := rv_le (p := 23) hf
  rw [rv_s16] at h1
  have hle : RU 23 (rv 23 A + rv 23 f) 0 ≤ 1099431936 := RU_le (by
    rw [Nat.pow_zero, Nat.mul_one, rv_s17]
    generalize rv 23 1065353216 = U at h1 h2 ⊢
    generalize rv 23 A = a at h1 ⊢
    generalize rv 23 f = b at h2 ⊢
    omega)
  have hup : A ≤ addB A f := le_add (by omega) (by omega) (by omega) (Nat.le_add_right _ _)
  clear h1 h2
  generalize rv 23 A + rv 23 f = m at *
  have e3 : addB A f = RU 23 m 0 := e.trans (Nat.min_eq_left (Nat.le_trans hle (by decide)))
  have u := RU_upK 132 (m := m) (D := 0) (Nat.le_trans hle (by decide)) (by decide)
  have d := RU_dnK 132 (m := m) (D := 0) (Nat.le_trans hle (by decide)) (by decide)
  simp only [Nat.pow_zero, Nat.mul_one] at u d
  rw [two_131] at u d
  rw [e3]
  exact ⟨hle, u, d, by rw [← e3]; exact hup⟩

/-- what went out, taken off: one rounding -/
theorem out_near {A f : Nat} (hA : A ≤ 1099431936) (hf : f ≤ A) : subB A f ≤ 1099431936 ∧ rv 23 (subB A f) + rv 23 f ≤ rv 23 A + 2 * 2 ^ 130 ∧ rv 23 A ≤ rv 23 (subB A f) + rv 23 f + 2 * 2 ^ 130 := by
  have e := (sub_eq (x := A) (y := f) (by omega) hf).2
  have hs := sub_le (x := A) (by omega) hf
  have hq := rv_le (p := 23) hf
  obtain ⟨m, hm⟩ : ∃ m, m = rv 23 A - rv 23 f := ⟨_, rfl⟩
  rw [← hm] at e
  have e3 : subB A f = RU 23 m 0 := by
    rcases Nat.le_total (RU 23 m 0) 2139095040 with c | c
    · exact e.trans (Nat.min_eq_left c)
    · rw [Nat.min_eq_right c] at e; omega
  have hle : RU 23 m 0 ≤ 1099431936 := by rw [← e3]; exact Nat.le_trans hs hA
  have u := RU_upK 132 (m := m) (D := 0) (Nat.le_trans hle (by decide)) (by decide)
  have d := RU_dnK 132 (m := m) (D := 0) (Nat.le_trans hle (by decide)) (by decide)
  simp only [Nat.pow_zero, Nat.mul_one] at u d
  rw [two_131] at u d
  rw [e3]
  refine ⟨hle, ?_, ?_⟩
  all_goals
    clear e e3 hs hle
    generalize 2 ^ 130 = g at *
    generalize rv 23 (RU 23 m 0) = v at *
    generalize rv 23 A = a at *
    generalize rv 23 f = b at *
    omega

theorem bal_core {A B f f' SA SB : Nat} (hA : A ≤ 1098907648) (hf : f ≤ 1065353216) (hf' : f' ≤ A)
    (s2 : rv 23 A ≤ SA + 16 * 2 ^ 130) (s3 : SA ≤ rv 23 A + 16 * 2 ^ 130) (t2 : rv 23 B ≤ SB + 16 * 2 ^ 130) (t3 : SB ≤ rv 23 B + 16 * 2 ^ 130)
    (c1 : SB + rv 23 f' ≤ SA + rv 23 f + 4 * 2 ^ 130) (c2 : SA + rv 23 f ≤ SB + rv 23 f' + 4 * 2 ^ 130) :
    addB A f ≤ 1099431936 ∧ f' ≤ addB A f ∧ subB (addB A f) f' ≤ 1099431936 ∧ rv 23 B ≤ rv 23 (subB (addB A f) f') + 40 * 2 ^ 130 ∧ rv 23 (subB (addB A f) f') ≤ rv 23 B + 40 * 2 ^ 130 := by
  obtain ⟨i1, i2, i3, i4⟩ := in_near hA hf
  have hle : f' ≤ addB A f := Nat.le_trans hf' i4
  obtain ⟨o1, o2, o3⟩ := out_near i1 hle
  refine ⟨i1, hle, o1, ?_, ?_⟩
  all_goals
    clear i1 i4 hle o1 hA hf hf'
    generalize rv 23 (subB (addB A f) f') = v1 at *
    generalize rv 23 (addB A f) = v2 at *
    generalize rv 23 A = v3 at *
    generalize rv 23 B = v4 at *
    generalize rv 23 f = v5 at *
    generalize rv 23 f' = v6 at *
    generalize 2 ^ 130 = g at *
    omega

theorem sum_16 {L : List Nat} (h : ∀ i, nth L i ≤ 1065353216) : sumW L 16 ≤ 1098907648 ∧ rv 23 (sumW L 16) ≤ sumR L 16 + 16 * 2 ^ 130 ∧ sumR L 16 ≤ rv 23 (sumW L 16) + 16 * 2 ^ 130 := by
  have h1 := sum_near h 16 (Nat.le_refl _)
  rw [fN_16] at h1
  exact h1

theorem cells_16 {L S F : List Nat} (h : ∀ i, i < 16 → rv 23 (nth S i) + rv 23 (nth F (i + 1)) ≤ rv 23 (nth L i) + rv 23 (nth F i) + gC ∧ rv 23 (nth L i) + rv 23 (nth F i) ≤ rv 23 (nth S i) + rv 23 (nth F (i + 1)) + gC) :
    sumR S 16 + rv 23 (nth F 16) ≤ sumR L 16 + rv 23 (nth F 0) + 4 * 2 ^ 130 ∧ sumR L 16 + rv 23 (nth F 0) ≤ sumR S 16 + rv 23 (nth F 16) + 4 * 2 ^ 130 := by
  have h1 := cells_near h 16 (Nat.le_refl _)
  rw [gC_130] at h1
  exact h1

/-- one step's balance -/
theorem balance {cs : List Nat} {p b l : Nat} (ok : OkR cs p b l) (o m : Nat) (h : ∀ k, k < 16 → wholeC p b cs o m k ≤ 1065353216) :
    sumW (nextL p b cs o m) 16 ≤ 1098907648 ∧
    sumW cs 16 ≤ 1098907648 ∧
    addB (sumW cs 16) (nth (fluxL p b cs o m) 0) ≤ 1099431936 ∧
    nth (fluxL p b cs o m) 16 ≤ addB (sumW cs 16) (nth (fluxL p b cs o m) 0) ∧
    subB (addB (sumW cs 16) (nth (fluxL p b cs o m) 0)) (nth (fluxL p b cs o m) 16) ≤ 1099431936 ∧
    rv 23 (sumW (nextL p b cs o m) 16) ≤ rv 23 (subB (addB (sumW cs 16) (nth (fluxL p b cs o m) 0)) (nth (fluxL p b cs o m) 16)) + 40 * 2 ^ 130 ∧
    rv 23 (subB (addB (sumW cs 16) (nth (fluxL p b cs o m) 0)) (nth (fluxL p b cs o m) 16)) ≤ rv 23 (sumW (nextL p b cs o m) 16) + 40 * 2 ^ 130 := by
  have hcar := fun i => ok.car i
  have hnext := fun i => nth_le (nextL_ok ok o m).cars i
  obtain ⟨s1, s2, s3⟩ := sum_16 hcar
  obtain ⟨t1, t2, t3⟩ := sum_16 hnext
  obtain ⟨c1, c2⟩ := cells_16 (L := cs) (S := nextL p b cs o m) (F := fluxL p b cs o m) fun i hi => by
    obtain ⟨w1, w2, w3, w4, -⟩ := whole_facts ok o m hi
    have hw := h i hi
    rw [whole_next ok o m hi hw, w4]
    rw [w4] at hw
    exact cell_near (hcar i) (nth_le (fluxL_le ok o m) i) (Nat.le_trans w1 w2) hw
  have hf0 := nth_le (fluxL_le ok o m) 0
  have hf16 := (whole_facts ok o m (show 15 < 16 by omega)).1
  have hlast := le_sumW hcar (show 15 < 16 by omega) (Nat.le_refl 16)
  exact ⟨t1, s1, bal_core s1 hf0 (Nat.le_trans hf16 hlast) s2 s3 t2 t3 c1 c2⟩

/-- two numbers nearly the same: their difference -/
theorem near_sub {x y : Nat} (hx : x < 2139095040) (hy : y ≤ x) (h : rv 23 x ≤ rv 23 y + 40 * 2 ^ 130) : subB x y ≤ 953267991 := by
  have e := (sub_eq hx hy).2
  have : RU 23 (rv 23 x - rv 23 y) 0 ≤ 953267991 := RU_le (by rw [Nat.pow_zero, Nat.mul_one]; exact Nat.le_trans (by omega) rv_52)
  omega

end Go.Proofs.Ytapnkkbkhifmeaa
