/-
  How full a cell was, in thousandths, against what stands on it; whole numbers against quarters.
  No Go text in it. Conditions: those of each theorem.
-/
import Derived.Test.YtiaflomabgnmaaaG9
import Derived.Test.YtiaflomabgnmaaaG18
namespace Go.Proofs.Ytiaflomabgnmaaa
open Go Go.RowKit
set_option maxRecDepth 100000

theorem le_div_arith {m a n b M c K P : Nat} (hn : 0 < n) (h3 : m ≠ 0 → 2 ^ (25 + n.log2) ≤ m * 2 ^ M) (hP : P = 2 * 2 ^ K) (h : rv 23 c * (n * 2 ^ b) ≤ m * 2 ^ a * P) :
    c ≤ RU 23 ((2 * (m * 2 ^ M / n) + (m * 2 ^ M % n != 0).toNat) * 2 ^ (a + K - (b + M))) (b + M - (a + K)) := by
  subst hP
  refine le_RU ?_
  rcases Nat.le_total (b + M) (a + K) with k | k
  · rw [show b + M - (a + K) = 0 from by omega, Nat.pow_zero, Nat.mul_one]
    obtain ⟨d, hd⟩ := Nat.exists_eq_add_of_le k
    rw [show a + K - (b + M) = d from by omega]
    have h' : rv 23 c * n ≤ 2 * (m * 2 ^ M) * 2 ^ d := by
      refine Nat.le_of_mul_le_mul_right (c := 2 ^ b) ?_ (Nat.two_pow_pos b)
      have e1 : 2 * (m * 2 ^ M) * 2 ^ d * 2 ^ b = m * 2 ^ a * (2 * 2 ^ K) := by
        have e2 : (2 : Nat) ^ M * 2 ^ d * 2 ^ b = 2 ^ a * 2 ^ K := by rw [← Nat.pow_add, ← Nat.pow_add, ← Nat.pow_add]; congr 1; omega
        calc 2 * (m * 2 ^ M) * 2 ^ d * 2 ^ b = 2 * m * (2 ^ M * 2 ^ d * 2 ^ b) := by ac_rfl
          _ = 2 * m * (2 ^ a * 2 ^ K) := by rw [e2]
          _ = m * 2 ^ a * (2 * 2 ^ K) := by ac_rfl
      rw [e1, Nat.mul_assoc (rv 23 c)]; exact h
    obtain ⟨T, E, hT, hTl⟩ := rv_form c
    rcases Nat.le_total d E with e | e
    · rw [hT, pow_cut e, ← Nat.mul_assoc]
      refine Nat.mul_le_mul_right _ (le_sticky hn ?_)
      rw [hT, pow_cut e] at h'
      refine Nat.le_of_mul_le_mul_right (c := 2 ^ d) ?_ (Nat.two_pow_pos d)
      have : T * (2 ^ (E - d) * 2 ^ d) * n = T * 2 ^ (E - d) * n * 2 ^ d := by ac_rfl
      rw [← this]; exact h'
    · by_cases hm : m = 0
      · subst hm
        rw [Nat.zero_mul, Nat.mul_zero, Nat.zero_mul] at h'
        have hz : rv 23 c = 0 := by
          rcases Nat.eq_zero_or_pos (rv 23 c) with z | z
          · exact z
          · have := Nat.mul_pos z hn; omega
        rw [hz]; exact Nat.zero_le _
      · have h5 := h3 hm
        have h6 : n < 2 ^ (n.log2 + 1) := Nat.lt_log2_self
        have h7 : rv 23 c < 2 ^ (24 + d) := by
          rw [hT, Nat.pow_add]
          exact Nat.lt_of_lt_of_le ((Nat.mul_lt_mul_right (Nat.two_pow_pos E)).2 hTl) (Nat.mul_le_mul_left _ (Nat.pow_le_pow_right (by omega) e))
        have h8 : 2 ^ 24 ≤ m * 2 ^ M / n := by
          rw [Nat.le_div_iff_mul_le hn]
          refine Nat.le_trans ?_ h5
          rw [show 25 + n.log2 = 24 + (n.log2 + 1) from by omega, Nat.pow_add 2 24]
          exact Nat.mul_le_mul_left _ (Nat.le_of_lt h6)
        rw [Nat.pow_add] at h7
        refine Nat.le_trans (Nat.le_of_lt h7) (Nat.mul_le_mul_right _ ?_)
        omega
  · rw [show a + K - (b + M) = 0 from by omega, Nat.pow_zero, Nat.mul_one]
    obtain ⟨d, hd⟩ := Nat.exists_eq_add_of_le k
    rw [show b + M - (a + K) = d from by omega]
    refine le_sticky hn ?_
    refine Nat.le_of_mul_le_mul_right (c := 2 ^ (a + K)) ?_ (Nat.two_pow_pos _)
    have e1 : 2 * (m * 2 ^ M) * 2 ^ (a + K) = m * 2 ^ a * (2 * 2 ^ K) * 2 ^ M := by
      rw [Nat.pow_add 2 a K]; ac_rfl
    have e2 : rv 23 c * 2 ^ d * n * 2 ^ (a + K) = rv 23 c * (n * 2 ^ b) * 2 ^ M := by
      have e3 : (2 : Nat) ^ d * 2 ^ (a + K) = 2 ^ b * 2 ^ M := by rw [← Nat.pow_add, ← Nat.pow_add]; congr 1; omega
      calc rv 23 c * 2 ^ d * n * 2 ^ (a + K) = rv 23 c * n * (2 ^ d * 2 ^ (a + K)) := by ac_rfl
        _ = rv 23 c * n * (2 ^ b * 2 ^ M) := by rw [e3]
        _ = rv 23 c * (n * 2 ^ b) * 2 ^ M := by ac_rfl
    rw [e1, e2]
    exact Nat.mul_le_mul_right _ h

theorem le_div {x y c : Nat} (hx : x < 2139095040) (hy : y < 2139095040) (h0 : 0 < y) (hc : c ≤ 2139095040) (h : rv 23 c * rv 23 y ≤ rv 23 x * 2 ^ 149) : c ≤ divB x y := by
  obtain ⟨m, a, n, b, M, hn, h1, h2, h3, h4⟩ := div_form hx hy h0
  rw [h4]
  have hn' : 0 < n := by omega
  rw [← h1, ← h2] at h
  have key := le_div_arith (K := 148) hn' h3 (by decide : (2 : Nat) ^ 149 = 2 * 2 ^ 148) h
  exact Nat.le_min.2 ⟨key, hc⟩

/-- a quotient by a whole number, nearly -/
theorem div_near {f n : Nat} (hf : f < 2139095040) (h0 : 0 < n) (hn : n ≤ 20) (hb : rv 23 f ≤ n * (2 * P2 149)) :
    divB f (fN n) ≤ 1073741824 ∧ n * rv 23 (divB f (fN n)) ≤ rv 23 f + n * gD ∧ rv 23 f ≤ n * rv 23 (divB f (fN n)) + n * gD := by
  have hfin := fN_fin (n := n) (by omega)
  have hp := fN_pos h0
  have hr := fN_rv2 (n := n) (by omega)
  have hU : (2 : Nat) ^ 149 = P2 149 := rfl
  have e2 : rv 23 1073741824 = 2 * P2 149 := by decide +kernel
  have hle : divB f (fN n) ≤ 1073741824 := div_le hf hfin hp (by
    rw [hr, e2, hU, ← Nat.mul_assoc, Nat.mul_comm (2 * P2 149) n]
    exact Nat.mul_le_mul_right _ hb)
  refine ⟨hle, ?_, ?_⟩
  · generalize hq : divB f (fN n) = q at hle
    cases q with
    | zero => rw [rv_zero]; omega
    | succ s =>
      have h1 : n * rv 23 s < rv 23 f := by
        rcases Nat.lt_or_ge (n * rv 23 s) (rv 23 f) with c | c
        · exact c
        · have := div_le (c := s) hf hfin hp (by
            rw [hr, hU, ← Nat.mul_assoc, Nat.mul_comm (rv 23 s) n]
            exact Nat.mul_le_mul_right _ c)
          omega
      have h2 := rv_gapK 135 (s := s) (by omega) (by omega)
      have h3 := Nat.mul_le_mul_left n h2
      rw [Nat.mul_add] at h3
      show _ ≤ _ + n * 2 ^ 134
      omega
  · have h1 : rv 23 f < n * rv 23 (divB f (fN n) + 1) := by
      rcases Nat.lt_or_ge (rv 23 f) (n * rv 23 (divB f (fN n) + 1)) with c | c
      · exact c
      · have := le_div (c := divB f (fN n) + 1) hf hfin hp (by omega) (by
          rw [hr, hU, ← Nat.mul_assoc, Nat.mul_comm (rv 23 _) n]
          exact Nat.mul_le_mul_right _ c)
        omega
    have h2 := rv_gapK 135 (s := divB f (fN n)) (by omega) (by omega)
    have h3 := Nat.mul_le_mul_left n h2
    rw [Nat.mul_add] at h3
    show _ ≤ _ + n * 2 ^ 134
    omega

/-- a thousand times a share, nearly -/
theorem thousand {q : Nat} (hq : q < 2139095040) (h : rv 23 q ≤ P2 149 + 2 * gD) : floatBits .mul .f32 1148846080 q = some (mulB 1148846080 q) ∧ mulB 1148846080 q ≤ 1149239296 ∧
    rv 23 (mulB 1148846080 q) ≤ 1000 * rv 23 q + 4 * gD ∧ 1000 * rv 23 q ≤ rv 23 (mulB 1148846080 q) + 4 * gD := by
  obtain ⟨m1, m2⟩ := mul_eq (x := 1148846080) (y := q) (by omega) hq
  have e1 : rv 23 1148846080 = 1000 * P2 149 := by decide +kernel
  have e2 : rv 23 1149239296 = 1024 * P2 149 := by decide +kernel
  have e4 : (2 : Nat) ^ 136 = 4 * gD := by decide +kernel
  have hg := gD_u
  rw [e1] at m2
  have hm : 1000 * P2 149 * rv 23 q = 1000 * rv 23 q * 2 ^ 149 := by
    show _ = 1000 * rv 23 q * P2 149
    ac_rfl
  rw [hm] at m2
  have hle : RU 23 (1000 * rv 23 q * 2 ^ 149) 149 ≤ 1149239296 := RU_le (by
    rw [e2]
    exact Nat.mul_le_mul_right _ (by omega))
  rw [Nat.min_eq_left (by omega)] at m2
  have k1 := RU_upK 137 (m := 1000 * rv 23 q * 2 ^ 149) (D := 149) (by omega) (by omega)
  have k2 := RU_dnK 137 (m := 1000 * rv 23 q * 2 ^ 149) (D := 149) (by omega) (by omega)
  rw [← m2] at k1 k2 hle
  rw [show 137 - 1 = 136 from rfl, e4, ← Nat.add_mul] at k1 k2
  have hp := Nat.two_pow_pos 149
  exact ⟨m1, hle, Nat.le_of_mul_le_mul_right k1 hp, Nat.le_of_mul_le_mul_right k2 hp⟩

theorem rne_near (n g : Nat) (hg : 0 < g) : 2 * (rne n g * g) ≤ 2 * n + g ∧ 2 * n ≤ 2 * (rne n g * g) + g := by
  have hd := Nat.div_add_mod n g
  have hr := Nat.mod_lt n hg
  rw [Nat.mul_comm g (n / g)] at hd
  unfold rne
  split
  · rename_i h
    simp only [Bool.or_eq_true, decide_eq_true_eq, Bool.and_eq_true, beq_iff_eq] at h
    have h2 : g ≤ 2 * (n % g) := by omega
    rw [Nat.add_mul, Nat.one_mul]
    omega
  · rename_i h
    simp only [Bool.or_eq_true, decide_eq_true_eq, Bool.and_eq_true, beq_iff_eq] at h
    have h2 : 2 * (n % g) ≤ g := by omega
    rw [Nat.add_zero]
    omega

theorem rv_wide2 (r : Nat) : rv 52 (wideR r) = rv 23 r * P925 := by
  obtain ⟨T, E, he, hT⟩ := rv_form r
  rcases Nat.eq_zero_or_pos T with z | z
  · subst z
    unfold wideR
    rw [he, Nat.zero_mul, Nat.zero_mul, RU_zero, rv_zero]
  · have hlog : T.log2 ≤ 52 := by
      have := (Nat.log2_lt (by omega : T ≠ 0) (k := 24)).2 hT
      omega
    unfold wideR P925
    rw [he, show (2 : Nat) ^ E = P2 E from rfl, Nat.mul_assoc, P2_add]
    exact rv_RU_exact (p := 52) z hlog (by omega)

theorem count_near {r : Nat} (hr : r ≤ 1149239296) : ∃ F : Nat, cntB r = (F : Int) ∧ F ≤ 1024 ∧ 2 * (F * P2 149) ≤ 2 * rv 23 r + P2 149 ∧ 2 * rv 23 r ≤ 2 * (F * P2 149) + P2 149 := by
  have e : nIk 1074 (wideR r) = rne (rv 23 r) (P2 149) := by
    unfold nIk
    rw [rv_wide2, ← P925_149]
    exact rne_scale _ _ _ P925_pos
  obtain ⟨n1, n2⟩ := rne_near (rv 23 r) (P2 149) (P2_pos _)
  have hle : rne (rv 23 r) (P2 149) ≤ 1024 := by
    refine rne_le (P2_pos _) ?_
    have e2 : rv 23 1149239296 = 1024 * P2 149 := by decide +kernel
    rw [← e2]
    exact rv_le hr
  have hn : nanB r = false := by
    have := (nan_le (x := r) (c := 1149239296) hr (by omega)).2
    exact this
  refine ⟨rne (rv 23 r) (P2 149), ?_, hle, n1, n2⟩
  unfold cntB
  rw [hn, if_neg (by simp), decide_eq_false (by omega), Nat.mod_eq_of_lt (by omega)]
  unfold cntR
  rw [if_neg (by omega), e, clamp_in (by simp; omega)]
  rfl

/-- how full a cell was, in thousandths -/
theorem full_near {c n : Nat} (hc : c ≤ 1065353216) (h0 : 0 < n) (hn : n ≤ 20) : ∃ F : Nat, fullD (sC c n) (n : Int) = (F : Int) ∧ F ≤ 1024 ∧
    floatBits .mul .f32 1148846080 c = some (mulB 1148846080 c) ∧ mulB 1148846080 c < 2139095040 ∧ rv 23 (fN F) ≤ rv 23 (mulB 1148846080 c) + P2 149 ∧ rv 23 (mulB 1148846080 c) ≤ rv 23 (fN F) + P2 149 := by
  obtain ⟨s1, s2, s3⟩ := sC_near (x := c) (by omega) n hn
  have hC := rv_le (p := 23) hc
  rw [rv_11] at hC
  have hg := gD_u
  have hgp : 0 < gD := by decide +kernel
  have hnC := Nat.mul_le_mul_left n hC
  have hng : n * (32768 * gD) = n * P2 149 := by rw [hg]
  obtain ⟨d1, d2, d3⟩ := div_near (f := sC c n) (n := n) (by omega) h0 hn (by
    have : n * gD ≤ n * P2 149 := Nat.mul_le_mul_left _ (by omega)
    have e : n * (2 * P2 149) = n * P2 149 + n * P2 149 := by rw [Nat.two_mul, Nat.mul_add]
    omega)
  generalize hq : divB (sC c n) (fN n) = q at d1 d2 d3
  have q1 : rv 23 q ≤ rv 23 c + 2 * gD := by
    refine Nat.le_of_mul_le_mul_left (c := n) ?_ h0
    rw [Nat.mul_add, show n * (2 * gD) = n * gD + n * gD from by rw [Nat.two_mul, Nat.mul_add]]
    omega
  have q2 : rv 23 c ≤ rv 23 q + 2 * gD := by
    refine Nat.le_of_mul_le_mul_left (c := n) ?_ h0
    rw [Nat.mul_add, show n * (2 * gD) = n * gD + n * gD from by rw [Nat.two_mul, Nat.mul_add]]
    omega
  obtain ⟨t1, t2, t3, t4⟩ := thousand (q := q) (by omega) (by omega)
  obtain ⟨z1, z2, z3, z4⟩ := thousand (q := c) (by omega) (by omega)
  obtain ⟨F, f1, f2, f3, f4⟩ := count_near t2
  refine ⟨F, ?_, f2, z1, by omega, ?_, ?_⟩
  · unfold fullD
    rw [if_neg (by omega), Int.toNat_natCast, hq, f1]
  · rw [fN_rv2 (by omega)]; omega
  · rw [fN_rv2 (by omega)]; omega

end Go.Proofs.Ytiaflomabgnmaaa
