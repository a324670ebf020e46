/-
  FnEmptied: what DelayOf gives is not below -0.001; on an empty road it gives 0; the steps until a road is empty, or full, are the first.
  No Go text in it. Conditions: those of each theorem.
-/
import Derived.Test.YtpcobfcnpeoihaaG17
import Derived.Test.YtpcobfcnpeoihaaStepsTo
namespace Go.Proofs.Ytpcobfcnpeoihaa
open Go Go.RowKit
set_option maxRecDepth 100000

theorem flux_send {p b o m : Nat} {cs : List Nat} {i : Nat} (hi : i < 16) : nth (fluxL p b cs o m) (i + 1) ≤ mulB p (nth cs i) := by
  by_cases h : i = 15
  · subst h
    rw [fluxL_16]
    exact Nat.le_trans (Nat.min_le_left _ _) (Nat.min_le_left _ _)
  · rw [fluxL_mid _ _ _ _ _ (by omega)]
    exact Nat.le_trans (Nat.min_le_left _ _) (Nat.min_le_left _ _)

theorem dS_low {cs : List Nat} {p b l : Nat} (ok : OkR cs p b l) (oo mm : Nat → Nat) (k : Nat) : ∀ m, m < 16 → LowW (dS p (itL p b cs oo mm k) (itF p b cs oo mm k) m) (cL (m + 1))
  | 0, _ => cell_low ok.pace ((it_facts ok oo mm k).1 0) (flux_send (by omega))
  | m + 1, hm => by
    have ih := dS_low ok oo mm k m (by omega)
    have hc : LowW (dAt p (itL p b cs oo mm k) (itF p b cs oo mm k) (m + 1)) (cL 1) := cell_low ok.pace ((it_facts ok oo mm k).1 (m + 1)) (flux_send hm)
    have e1 := cL_rv (m + 1) (by omega)
    have e2 := cL_rv 1 (by omega)
    have e3 := cL_rv (m + 1 + 1) (by omega)
    refine add_low ih hc (by rw [e1, e2, e3, ← Nat.add_mul]; exact Nat.le_refl _) ?_
    have f := (dS_facts ok.pace (it_facts ok oo mm k).1 (it_facts ok oo mm k).2 (m + 1) (by omega)).2
    have g := (cI_65 ⟨m + 2, by omega⟩).2
    simp only at g
    exact Nat.lt_of_le_of_lt f g

theorem dAll_low {cs : List Nat} {p b l : Nat} (ok : OkR cs p b l) (oo mm : Nat → Nat) : ∀ k, k ≤ 5 → LowW (dAll p b cs oo mm k) (cM k)
  | 0, _ => low_amt (by show 0 < _; omega) _
  | k + 1, hk => by
    have ih := dAll_low ok oo mm k (by omega)
    have hc := dS_low ok oo mm k 15 (by omega)
    have e1 := cM_rv k (by omega)
    have e2 := cL_rv (15 + 1) (by omega)
    have e3 := cM_rv (k + 1) (by omega)
    refine add_low ih hc (by rw [e1, e2, e3, show (15 + 1) * 2 ^ 128 = 1 * 2 ^ 132 from by decide +kernel, ← Nat.add_mul]; exact Nat.le_refl _) ?_
    have f := (dAll_facts ok oo mm (k + 1) (by omega)).2
    have g := (cI_1040 ⟨k + 1, by omega⟩).2
    simp only at g
    exact Nat.lt_of_le_of_lt f g

theorem mul_low {x y a c : Nat} (hx : LowW x a) (hy : y < 2139095040) (h : rv 23 a * rv 23 y ≤ rv 23 c * 2 ^ 149) (hf : mulB x y % 2147483648 < 2139095040) : LowW (mulB x y) c := by
  obtain ⟨s, m, rfl, hm, h1⟩ := hx
  have k := mul_fin S32 (by rw [s_L]; omega) s false (r := m) (q := y) (by rw [s_inf]; omega) (by rw [s_inf]; omega)
  rw [word_false, s_fb, s_L, show (- -149 : Int).toNat = 149 from rfl, s_inf, Bool.xor_false] at k
  have e : mulB (S32.word s m) y = S32.word s (min (RU 23 (rv 23 m * rv 23 y) 149) 2139095040) := by unfold mulB; rw [k, Option.getD_some]
  rw [e] at hf ⊢
  refine ⟨s, _, rfl, ?_, fun hs => ?_⟩
  · cases s
    · rw [word_false] at hf; omega
    · rw [word_true, s_sw] at hf; omega
  · exact Nat.le_trans (Nat.min_le_left _ _) (RU_le (Nat.le_trans (Nat.mul_le_mul_right _ (rv_le (h1 hs))) h))

theorem ge_low {x : Nat} (hx : LowW x 981668462) : (FloatKind.f32.format.order x 3129152111 == some .gt || FloatKind.f32.format.order x 3129152111 == some .eq) = true := by
  obtain ⟨s, m, rfl, hm, h1⟩ := hx
  have k := order_fin S32 s true (r := m) (q := 981668463) (by rw [s_inf]; omega) (by rw [s_inf]; omega)
  rw [word_true S32 981668463, s_sw, s_fb] at k
  show (S32.order (S32.word s m) 3129152111 == some .gt || S32.order (S32.word s m) 3129152111 == some .eq) = true
  rw [k]
  have hp : 0 < rv 23 981668463 := by decide +kernel
  have hc : compare (sg s (rv 23 m)) (sg true (rv 23 981668463)) = .gt := by
    rw [Int.compare_eq_gt]
    cases s
    · show -((rv 23 981668463 : Nat) : Int) < ((rv 23 m : Nat) : Int); omega
    · show -((rv 23 981668463 : Nat) : Int) < -((rv 23 m : Nat) : Int)
      have := rv_lt (p := 23) (show m < 981668463 by have := h1 rfl; omega)
      omega
  rw [hc]; rfl

/-- a delay of five steps is not below -0.001 -/
theorem delay_low {cs : List Nat} {p b l o m : Nat} (ok : OkR cs p b l) : LowW (mulB (dAll p b cs (fun _ => o) (fun _ => m) 5) l) 981668462 := by
  have g : mulB (dAll p b cs (fun _ => o) (fun _ => m) 5) l % 2147483648 < 2139095040 := by
    have d := (delay_facts ok (fun _ => o) (fun _ => m) (k := 5) (by omega)).2.2.1
    unfold finB at d
    exact of_decide_eq_true d
  have hd := dAll_low ok (fun _ => o) (fun _ => m) 5 (by omega)
  generalize dAll p b cs (fun _ => o) (fun _ => m) 5 = D at g hd ⊢
  have e1 := cM_rv 5 (by omega)
  have e2 : rv 23 (RU 23 (40 * 2 ^ 132) 0) = 40 * 2 ^ 132 := by decide +kernel
  have e3 : rv 23 1090519040 = 8 * 2 ^ 149 := by decide +kernel
  have h1 := rv_le (p := 23) ok.lanes.2
  rw [e3] at h1
  have e4 : 5 * 2 ^ 132 * (8 * 2 ^ 149) = 40 * 2 ^ 132 * 2 ^ 149 := by decide +kernel
  have hr : rv 23 (cM 5) * rv 23 l ≤ rv 23 (RU 23 (40 * 2 ^ 132) 0) * 2 ^ 149 := by
    rw [e1, e2, ← e4]
    exact Nat.mul_le_mul_left _ h1
  have hlow := mul_low (c := RU 23 (40 * 2 ^ 132) 0) hd (by have := ok.lanes; omega) hr g
  exact low_mono hlow (by decide +kernel)

theorem mul_zero0 {p : Nat} (hp : p < 2139095040) : mulB p 0 = 0 := by
  rw [(mul_eq hp (by omega : (0 : Nat) < 2139095040)).2, rv_zero, Nat.mul_zero, RU_zero]; rfl

theorem zero_flux {p b m : Nat} {L : List Nat} (hp : p < 2139095040) (h : ∀ i, i < 16 → nth L i = 0) : ∀ i, i < 17 → nth (fluxL p b L 0 m) i = 0 := by
  intro i hi
  rcases Nat.eq_zero_or_pos i with z | z
  · subst z; rw [fluxL_0, Nat.zero_min]
  · obtain ⟨j, rfl⟩ : ∃ j, i = j + 1 := ⟨i - 1, by omega⟩
    have := flux_send (p := p) (b := b) (o := 0) (m := m) (cs := L) (i := j) (by omega)
    rw [h j (by omega), mul_zero0 hp] at this
    omega

theorem zero_step {L F : List Nat} (hL : ∀ i, i < 16 → nth L i = 0) (hF : ∀ i, i < 17 → nth F i = 0) : ∀ i, i < 16 → nth (stepL L (intoL F) (outL F)) i = 0 := by
  intro i hi
  rw [stepL_nth _ _ _ hi]
  unfold stepC
  rw [hL i hi, intoL_nth _ hi, outL_nth _ hi, hF i (by omega), hF _ (by omega)]
  decide +kernel

theorem zero_it {cs : List Nat} {p b m : Nat} (hp : p < 2139095040) (h : ∀ i, i < 16 → nth cs i = 0) : ∀ k, ∀ i, i < 16 → nth (itL p b cs (fun _ => 0) (fun _ => m) k) i = 0
  | 0 => h
  | k + 1 => by
    rw [itL_next]
    exact zero_step (zero_it hp h k) (zero_flux hp (zero_it hp h k))

theorem zero_dS {p : Nat} {L F : List Nat} (hp : 0 < p) (hp2 : p < 2139095040) (hL : ∀ i, i < 16 → nth L i = 0) (hF : ∀ i, i < 17 → nth F i = 0) : ∀ m, m < 16 → dS p L F m = 0 := by
  have hd : ∀ i, i < 16 → dAt p L F i = 0 := fun i hi => by
    unfold dAt
    rw [hL i hi, hF (i + 1) (by omega)]
    have : divB 0 p ≤ 0 := div_le (by omega) hp2 hp (by rw [rv_zero, Nat.zero_mul]; exact Nat.zero_le _)
    rw [show divB 0 p = 0 from by omega]
    decide +kernel
  intro m
  induction m with
  | zero => intro hm; exact hd 0 hm
  | succ m ih =>
    intro hm
    show addB (dS p L F m) (dAt p L F (m + 1)) = 0
    rw [ih (by omega), hd (m + 1) hm]
    decide +kernel

theorem zero_dAll {cs : List Nat} {p b m : Nat} (hp : 0 < p) (hp2 : p < 2139095040) (h : ∀ i, i < 16 → nth cs i = 0) : ∀ k, dAll p b cs (fun _ => 0) (fun _ => m) k = 0
  | 0 => rfl
  | k + 1 => by
    show addB (dAll p b cs (fun _ => 0) (fun _ => m) k) _ = 0
    rw [zero_dAll hp hp2 h k, zero_dS (F := itF p b cs (fun _ => 0) (fun _ => m) k) hp hp2 (zero_it hp2 h k) (zero_flux hp2 (zero_it hp2 h k)) 15 (by omega)]
    decide +kernel

/-- nothing is late on an empty road -/
theorem delay_zero {p b l m : Nat} (hp : 0 < p) (hp2 : p < 2139095040) (hl : l < 2139095040) (hc : stepsC (okB (List.replicate 16 0) p b l) 0 m 5 = 0) : vDelayOf (List.replicate 16 0) p b l 0 m 5 = (0, 0) := by
  unfold vDelayOf
  rw [if_pos hc, zero_dAll hp hp2 (fun i hi => by unfold nth; rw [List.getD_eq_getElem?_getD, List.getElem?_replicate, if_pos hi]; rfl)]
  have e : mulB 0 l = 0 := by rw [(mul_eq (by omega : (0 : Nat) < 2139095040) hl).2, rv_zero, Nat.zero_mul, RU_zero]; rfl
  rw [e]

/-- where a count of steps is found it is the first -/
theorem until_first {wt : Nat → Bool} : ∀ {f k : Nat} {n : Int}, untilF wt k f = (n, 0) → ∃ m : Nat, n = (m : Int) ∧ k ≤ m ∧ m ≤ k + f ∧ wt m = true ∧ ∀ j, k ≤ j → j < m → wt j = false
  | f, k, n, h => by
    by_cases hx : ∃ m, m ≤ f ∧ wt (k + m) = true
    · have hm : ∃ m, (m ≤ f ∧ wt (k + m) = true) ∧ ∀ j, j < m → wt (k + j) = false := by
        obtain ⟨m0, h0⟩ := hx
        induction m0 using Nat.strongRecOn with
        | ind m0 ih =>
          by_cases c : ∃ j, j < m0 ∧ wt (k + j) = true
          · obtain ⟨j, hj, hw⟩ := c
            exact ih j hj ⟨by omega, hw⟩
          · exact ⟨m0, h0, fun j hj => by
              cases hw : wt (k + j)
              · rfl
              · exact absurd ⟨j, hj, hw⟩ c⟩
      obtain ⟨m, ⟨h1, h2⟩, h3⟩ := hm
      have h3' : ∀ j, k ≤ j → j < k + m → wt j = false := fun j hj hj2 => by
        have := h3 (j - k) (by omega)
        rwa [show k + (j - k) = j from by omega] at this
      rw [untilF_yes h3' h2 h1] at h
      exact ⟨k + m, by rw [← (Prod.mk.inj h).1], by omega, by omega, h2, h3'⟩
    · have : ∀ j, k ≤ j → j ≤ k + f → wt j = false := fun j hj hj2 => by
        cases hw : wt j
        · rfl
        · exact absurd ⟨j - k, by omega, by rwa [show k + (j - k) = j from by omega]⟩ hx
      rw [untilF_no this] at h
      exact absurd (Prod.mk.inj h).2 (by decide)

end Go.Proofs.Ytpcobfcnpeoihaa
