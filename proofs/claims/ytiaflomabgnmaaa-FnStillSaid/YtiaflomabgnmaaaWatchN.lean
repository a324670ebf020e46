/-
  NUMBERS: cars that pass a detector: how many are whole, what is carried on.
  No Go text in it. Conditions: those of each theorem.
-/
import Derived.Test.YtiaflomabgnmaaaFint
import Derived.Test.YtiaflomabgnmaaaIntg
import Derived.Test.YtiaflomabgnmaaaCntF
namespace Go.Proofs.Ytiaflomabgnmaaa
open Go Go.RowKit
set_option maxRecDepth 100000


theorem cut_down (n drop : Nat) : Ieee.Toward.down.cut false n drop = n / 2 ^ drop := by
  unfold Ieee.Toward.cut
  simp only [Nat.one_shiftLeft, Bool.toNat_false, Nat.add_zero, Bool.false_and]
  by_cases h : drop ≤ n.log2 + 2
  · rw [Nat.min_eq_left h]
  · rw [Nat.min_eq_right (by omega)]
    have hn : n < 2 ^ (n.log2 + 1) := Nat.lt_log2_self
    have h2 : 2 ^ (n.log2 + 1) ≤ 2 ^ (n.log2 + 2) := Nat.pow_le_pow_right (by omega) (by omega)
    have h3 : 2 ^ (n.log2 + 1) ≤ 2 ^ drop := Nat.pow_le_pow_right (by omega) (by omega)
    rw [Nat.div_eq_of_lt (by omega), Nat.div_eq_of_lt (by omega)]


theorem integral_down {R k : Nat} (h : R < 9218868437227405312) (hk : (k : Int) = 1074) : (S64.read (S64.word false R)).integral .down = .number false (rv 52 R / P2 k) 0 := by
  obtain ⟨m, i, h1, h2, h3⟩ := read_fin S64 false (r := R) (by rw [d_inf]; exact h)
  rw [h1]
  show Ieee.Datum.number false (Ieee.Toward.down.cut false (m <<< i.toNat) (-i).toNat) 0 = _
  rw [cut_down, Nat.shiftLeft_eq]
  rw [d_L] at h2 h3
  rw [d_fb] at h3
  congr 1
  rw [← h3]
  rcases Int.le_total 0 i with c | c
  · rw [show (-i).toNat = 0 from by omega, Nat.pow_zero, Nat.div_one, show (i - -1074).toNat = i.toNat + k from by omega, Nat.pow_add, ← Nat.mul_assoc]
    exact (Nat.mul_div_cancel _ (P2_pos k)).symm
  · rw [show i.toNat = 0 from by omega, Nat.pow_zero, Nat.mul_one]
    have e : P2 k = P2 (-i).toNat * P2 (i - -1074).toNat := by rw [P2_add]; congr 1; omega
    rw [e]
    exact (Nat.mul_div_mul_right _ _ (P2_pos _)).symm


/-- a number from one on: a whole number of its last places -/
theorem rv_split {a : Nat} (ha : 1065353216 ≤ a) : ∃ T E, rv 23 a = T * P2 E ∧ T < 16777216 ∧ E = a / 8388608 - 1 := by
  refine ⟨8388608 + a % 8388608, a / 8388608 - 1, ?_, by omega, rfl⟩
  unfold rv P2
  rw [if_neg (by show ¬ a < 8388608; omega)]


theorem fN_rv2 {n : Nat} (h : n ≤ 65536) : rv 23 (fN n) = n * P2 149 := by
  by_cases z : n = 0
  · subst z; rw [Nat.zero_mul]; decide +kernel
  · have hlog : n.log2 ≤ 23 := by
      have := (Nat.log2_lt z (k := 24)).2 (by show n < 16777216; omega)
      omega
    have hr := rv_RU_exact (p := 23) (N := n) (k := 149) (by omega) hlog (by omega)
    have hb : RU 23 (n * P2 149) 0 ≤ 2139095040 := by
      refine RU_le (r := 2139095040) ?_
      rw [Nat.pow_zero, Nat.mul_one]
      have : 65536 * P2 149 ≤ rv 23 2139095040 := by decide +kernel
      exact Nat.le_trans (Nat.mul_le_mul_right _ h) this
    unfold fN
    rw [Nat.min_eq_left hb, hr]

/-- so many whole -/
def flo (a : Nat) : Nat := rv 23 a / P2 149

theorem rv_16 : rv 23 1098907648 = 16 * P2 149 := by decide +kernel

theorem rv_11 : rv 23 1065353216 = P2 149 := by decide +kernel

theorem flo_le {a : Nat} (ha : a ≤ 1098907648) : flo a ≤ 16 := by
  unfold flo
  have h := rv_le (p := 23) ha
  rw [rv_16] at h
  exact (Nat.div_le_iff_le_mul_add_pred (P2_pos _)).2 (by omega)

theorem flo_zero {a : Nat} (ha : a < 1065353216) : flo a = 0 := by
  unfold flo
  have h := rv_lt (p := 23) ha
  rw [rv_11] at h
  exact Nat.div_eq_of_lt h

theorem flo_fN {a : Nat} (ha : a ≤ 1098907648) : fN (flo a) ≤ a := by
  have h16 := flo_le ha
  rcases Nat.lt_or_ge a (fN (flo a)) with c | c
  · have h := rv_lt (p := 23) c
    rw [fN_rv2 (by omega)] at h
    have := Nat.div_mul_le_self (rv 23 a) (P2 149)
    unfold flo at h
    omega
  · exact c

/-- what is carried on -/
def car (a : Nat) : Nat := subB a (fN (flo a))

theorem car_ok {a : Nat} (ha : a ≤ 1098907648) : floatBits .sub .f32 a (fN (flo a)) = some (car a) ∧ car a < 1065353216 := by
  have h16 := flo_le ha
  obtain ⟨h1, h2⟩ := sub_eq (x := a) (y := fN (flo a)) (by omega) (flo_fN ha)
  refine ⟨h1, ?_⟩
  show subB a (fN (flo a)) < 1065353216
  rw [h2, fN_rv2 (by omega)]
  refine Nat.lt_of_le_of_lt (Nat.min_le_left _ _) ?_
  rcases Nat.lt_or_ge a 1065353216 with c | c
  · rw [flo_zero c, Nat.zero_mul, Nat.sub_zero, RU_rv0]; exact c
  · obtain ⟨T, E, he, hT, hE⟩ := rv_split c
    have hE1 : 126 ≤ E := by omega
    have hE2 : E ≤ 130 := by omega
    have hP : P2 149 = P2 (149 - E) * P2 E := by rw [P2_add]; congr 1; omega
    have hx : rv 23 a - flo a * P2 149 = (T % P2 (149 - E)) * P2 E := by
      unfold flo
      rw [he, hP, Nat.mul_div_mul_right _ _ (P2_pos E), ← Nat.mul_assoc, ← Nat.sub_mul]
      congr 1
      have := Nat.div_add_mod T (P2 (149 - E))
      rw [Nat.mul_comm] at this
      omega
    rw [hx]
    have hlt : (T % P2 (149 - E)) * P2 E < P2 149 := by
      rw [hP]
      exact (Nat.mul_lt_mul_right (P2_pos E)).2 (Nat.mod_lt _ (P2_pos _))
    generalize hT' : T % P2 (149 - E) = T' at *
    have hT2 : T' < 16777216 := by rw [← hT']; exact Nat.lt_of_le_of_lt (Nat.mod_le _ _) hT
    by_cases z : T' = 0
    · subst z; rw [Nat.zero_mul, RU_zero]; omega
    · have hlog : T'.log2 ≤ 23 := by
        have := (Nat.log2_lt z (k := 24)).2 (by show T' < 16777216; exact hT2)
        omega
      have hr := rv_RU_exact (p := 23) (N := T') (k := E) (by omega) hlog (by omega)
      rw [← rv_11, ← hr] at hlt
      exact rv_lt_iff.1 hlt


theorem fN_fin {n : Nat} (h : n ≤ 65536) : fN n < 2139095040 := by
  refine (rv_lt_iff (p := 23)).1 ?_
  rw [fN_rv2 h]
  have : 65536 * P2 149 < rv 23 2139095040 := by decide +kernel
  exact Nat.lt_of_le_of_lt (Nat.mul_le_mul_right _ h) this

/-- whole numbers are added exactly -/
theorem add_whole {n k : Nat} (hn : n ≤ 32767) (hk : k ≤ 16) : floatBits .add .f32 (fN n) (fN k) = some (fN (n + k)) := by
  obtain ⟨h1, h2⟩ := add_eq (fN_fin (n := n) (by omega)) (fN_fin (n := k) (by omega))
  rw [h1, h2, fN_rv2 (by omega), fN_rv2 (by omega), ← Nat.add_mul]
  rfl

theorem P925_149 : P2 149 * P925 = P2 1074 := by unfold P925; rw [P2_add]

theorem wide_whole {n : Nat} (h : n ≤ 65536) : wideR (fN n) = wIk 1074 n := by
  unfold wideR wIk
  rw [fN_rv2 h, Nat.mul_assoc, P925_149]

theorem cnt_whole {m : Nat} (h : m ≤ 32783) : cntB (fN m) = ((min m 32767 : Nat) : Int) := by
  have hf := fN_fin (n := m) (by omega)
  have hn : nanB (fN m) = false := by unfold nanB; exact decide_eq_false (by rw [Nat.mod_eq_of_lt (by omega)]; omega)
  have hN : nIk 1074 (wideR (fN m)) = m := by
    unfold nIk
    rw [wide_whole (by omega), wIk_rv (by omega) rfl]
    exact rne_mul _ _ (P2_pos _)
  unfold cntB
  rw [hn]
  simp only [Bool.false_eq_true, if_false]
  rw [decide_eq_false (by omega), Nat.mod_eq_of_lt (by omega)]
  unfold cntR
  rw [if_neg (by omega), hN]
  rfl

theorem rv_wide {r : Nat} (h : r ≤ 1098907648) (h1 : 1065353216 ≤ r) : rv 52 (wideR r) = rv 23 r * P925 := by
  obtain ⟨T, E, he, hT, hE⟩ := rv_split h1
  have hT0 : 0 < T := by
    rcases Nat.eq_zero_or_pos T with z | z
    · subst z
      have := rv_pos (p := 23) (r := r) (by omega)
      rw [he, Nat.zero_mul] at this
      omega
    · exact z
  have hlog : T.log2 ≤ 52 := by
    have := (Nat.log2_lt (by omega : T ≠ 0) (k := 24)).2 (by show T < 16777216; exact hT)
    omega
  unfold wideR P925
  rw [he, Nat.mul_assoc, P2_add]
  exact rv_RU_exact (p := 52) hT0 hlog (by omega)

theorem flo_wide {r : Nat} (h : r ≤ 1098907648) : rv 52 (wideR r) / P2 1074 = flo r := by
  rcases Nat.lt_or_ge r 1065353216 with c | c
  · rw [flo_zero c]
    have h1 : wideR r < wideR 1065353216 := by
      rcases Nat.lt_or_ge (wideR r) (wideR 1065353216) with d | d
      · exact d
      · exfalso
        have h2 := rv_le (p := 52) d
        rw [rv_wide (by omega) (Nat.le_refl _)] at h2
        -- rv 52 (wideR r) is at most the next below one
        have h3 : wideR r ≤ wideR 1065353215 := wideR_mono (by omega)
        have h4 := rv_le (p := 52) h3
        have h5 : rv 52 (wideR 1065353215) < rv 23 1065353216 * P925 := by decide +kernel
        omega
    have h2 := rv_lt (p := 52) h1
    rw [rv_wide (by omega) (Nat.le_refl _), rv_11, P925_149] at h2
    exact Nat.div_eq_of_lt h2
  · rw [rv_wide h c]
    unfold flo
    rw [← P925_149]
    exact Nat.mul_div_mul_right _ _ P925_pos


theorem whole_ops : ∀ n : Fin 17, floatToFloatBits .f64 (wIk 1074 n.val) .f32 = some (fN n.val) ∧ floatToIntVal .f64 (wIk 1074 n.val) .i64 = some (n.val : Int) ∧ wIk 1074 n.val < 9218868437227405312 := by decide +kernel

theorem full_ok {f s : Nat} (hf : f < 2139095040) (hs : s ≤ 1065353216) : floatBits .add .f32 f s = some (addB f s) ∧ addB f s < 2139095040 := by
  obtain ⟨h1, h2⟩ := add_eq hf (show s < 2139095040 by omega)
  refine ⟨h1, ?_⟩
  rw [h2]
  refine Nat.lt_of_le_of_lt (Nat.min_le_left _ _) ?_
  have a1 := rv_le (p := 23) (show f ≤ 2139095039 by omega)
  have a2 := rv_le (p := 23) hs
  refine Nat.lt_of_le_of_lt (RU_mono 23 0 (Nat.add_le_add a1 a2)) ?_
  decide +kernel

/-- the cars with those that pass -/
theorem pass_ok {y fl la : Nat} (hy : y < 1065353216) (hf : fl ≤ 1065353216) (hl : la ≤ 1090519040) : floatBits .mul .f32 fl la = some (mulB fl la) ∧ floatBits .add .f32 y (mulB fl la) = some (addB y (mulB fl la)) ∧ addB y (mulB fl la) ≤ 1098907648 := by
  have h1 := mul_share hf (show la < 2139095040 by omega)
  have h2 := (mul_eq (show fl < 2139095040 by omega) (show la < 2139095040 by omega)).1
  refine ⟨h2, (add_eq (show y < 2139095040 by omega) (show mulB fl la < 2139095040 by omega)).1, add_le (by omega) (by omega) ?_⟩
  have a1 := rv_le (p := 23) (show y ≤ 1065353216 by omega)
  have a2 := rv_le (p := 23) (show mulB fl la ≤ 1090519040 by omega)
  have a3 : rv 23 1065353216 + rv 23 1090519040 ≤ rv 23 1098907648 := by decide +kernel
  omega

end Go.Proofs.Ytiaflomabgnmaaa
