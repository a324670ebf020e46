/-
  FnStill's numbers: waves between two drawn shares: 32nds, on roads of which pace and back are sixteenths: all is exact but the quotient.
  No Go text in it but what it imports. Conditions: those of each theorem.
-/
import Derived.Test.YtiaflomabgnmaaaStlH
namespace Go.Proofs.Ytiaflomabgnmaaa
open Go Go.RowKit
set_option maxRecDepth 100000

/-- a 512th, so many times -/
def q512 (a : Nat) : Nat := divB (fN a) 1140850688

theorem q512_tab : ∀ k, k < 513 → rv 23 (q512 k) * 512 = k * uV ∧ q512 k ≤ 1065353216 := by decide +kernel

theorem q32_tab2 : ∀ j, j < 33 → rv 23 (q32 j) * 32 = j * uV ∧ q32 j ≤ 1065353216 ∧ subB 1065353216 (q32 j) = q32 (32 - j) := by decide +kernel

theorem qs_tab2 : ∀ m, m < 17 → rv 23 (qs m) * 16 = m * uV ∧ qs m ≤ 1065353216 := by decide +kernel

theorem mul_tab2 : ∀ m, m < 17 → ∀ j, j < 33 → rv 23 (mulB (qs m) (q32 j)) * 512 = m * j * uV := by decide +kernel

theorem sub_tab2 : ∀ j, j < 33 → ∀ i, i < j → rv 23 (subB (q32 j) (q32 i)) * 32 = (j - i) * uV := by decide +kernel

/-- a flow at a share, in 512ths -/
def nF (m n j : Nat) : Nat := min (m * j) (n * (32 - j))

theorem nF_le {m n j : Nat} (hm : m ≤ 16) (hj : j ≤ 32) : nF m n j ≤ 512 := by
  unfold nF
  have := Nat.mul_le_mul hm hj
  omega

theorem share_ex {m n j : Nat} (hm : m ≤ 16) (hn : n ≤ 16) (hj : j ≤ 32) : rv 23 (shareW (qs m) (qs n) (q32 j)) * 512 = nF m n j * uV := by
  unfold shareW nF
  obtain ⟨-, -, h3⟩ := q32_tab2 j (by omega)
  have a := mul_tab2 m (by omega) j (by omega)
  have b := mul_tab2 n (by omega) (32 - j) (by omega)
  rw [h3]
  generalize mulB (qs m) (q32 j) = x at *
  generalize mulB (qs n) (q32 (32 - j)) = y at *
  generalize m * j = s at *
  generalize n * (32 - j) = t at *
  have hV := uV_pos
  rcases Nat.le_total x y with c | c
  · have r := rv_le (p := 23) c
    have : s ≤ t := Nat.le_of_mul_le_mul_right (c := uV) (by omega) hV
    rw [Nat.min_eq_left c, Nat.min_eq_left this]; exact a
  · have r := rv_le (p := 23) c
    have : t ≤ s := Nat.le_of_mul_le_mul_right (c := uV) (by omega) hV
    rw [Nat.min_eq_right c, Nat.min_eq_right this]; exact b

/-- a flow's slope: at most pace upwards, at most back downwards -/
theorem nF_slope {m n i j : Nat} (hij : i ≤ j) (hj : j ≤ 32) : nF m n j ≤ nF m n i + m * (j - i) ∧ nF m n i ≤ nF m n j + n * (j - i) := by
  unfold nF
  have e1 : m * j = m * i + m * (j - i) := by rw [← Nat.mul_add]; congr 1; omega
  have e2 : n * (32 - i) = n * (32 - j) + n * (j - i) := by rw [← Nat.mul_add]; congr 1; omega
  rw [e1, e2]
  generalize m * i = a
  generalize m * (j - i) = b
  generalize n * (32 - j) = c
  generalize n * (j - i) = d
  omega

/-- the difference of two flows is exact -/
theorem sub_ex {x y M N : Nat} (hx : x ≤ 1065353216) (hyx : y ≤ x) (hM : M ≤ 512) (e1 : rv 23 x * 512 = M * uV) (e2 : rv 23 y * 512 = N * uV) : rv 23 (subB x y) * 512 = (M - N) * uV := by
  obtain ⟨t1, t2⟩ := q512_tab (M - N) (by omega)
  have hr := rv_le (p := 23) hyx
  have e3 : rv 23 x - rv 23 y = rv 23 (q512 (M - N)) := by
    have : (rv 23 x - rv 23 y) * 512 = rv 23 (q512 (M - N)) * 512 := by rw [t1, Nat.sub_mul, Nat.sub_mul, e1, e2]
    exact Nat.eq_of_mul_eq_mul_right (by omega) this
  have e := (sub_eq (x := x) (y := y) (by omega) hyx).2
  rw [e3, RU_rv0] at e
  rw [e, Nat.min_eq_left (by omega)]
  exact t1

theorem slope_div {x y D : Nat} {w m k : Nat} (hx : x < 2139095040) (hy : y < 2139095040) (hw : w ≤ 1065353216) (h0 : 0 < k) (e1 : rv 23 x * 512 = D * uV) (e2 : rv 23 y * 32 = k * uV) (e3 : rv 23 w * 16 = m * uV) (h : D ≤ m * k) : 0 < y ∧ divB x y ≤ w := by
  have hV := uV_pos
  have h1 : 0 < y := by
    rcases Nat.eq_zero_or_pos y with c | c
    · subst c; rw [rv_zero] at e2
      have : 0 < k * uV := Nat.mul_pos h0 hV
      omega
    · exact c
  refine ⟨h1, div_le hx hy h1 ?_⟩
  show rv 23 x * uV ≤ rv 23 w * rv 23 y
  refine Nat.le_of_mul_le_mul_right (c := 512) ?_ (by omega)
  calc rv 23 x * uV * 512 = rv 23 x * 512 * uV := by rw [Nat.mul_assoc, Nat.mul_comm uV, ← Nat.mul_assoc]
    _ = D * uV * uV := by rw [e1]
    _ ≤ m * k * uV * uV := Nat.mul_le_mul_right _ (Nat.mul_le_mul_right _ h)
    _ = (m * uV) * (k * uV) := by rw [Nat.mul_assoc (m * k), Nat.mul_mul_mul_comm]
    _ = (rv 23 w * 16) * (rv 23 y * 32) := by rw [e2, e3]
    _ = rv 23 w * rv 23 y * 512 := by rw [Nat.mul_mul_mul_comm]

/-- what a wave between two drawn shares is: its size is at most pace upwards, at most back downwards -/
theorem slope_two {m n i j : Nat} (hm : m ≤ 16) (hn : n ≤ 16) (hij : i < j) (hj : j ≤ 32) :
    (shareW (qs m) (qs n) (q32 i) ≤ shareW (qs m) (qs n) (q32 j) → 0 < subB (q32 j) (q32 i) ∧ divB (subB (shareW (qs m) (qs n) (q32 j)) (shareW (qs m) (qs n) (q32 i))) (subB (q32 j) (q32 i)) ≤ qs m) ∧
    (shareW (qs m) (qs n) (q32 j) ≤ shareW (qs m) (qs n) (q32 i) → 0 < subB (q32 j) (q32 i) ∧ divB (subB (shareW (qs m) (qs n) (q32 i)) (shareW (qs m) (qs n) (q32 j))) (subB (q32 j) (q32 i)) ≤ qs n) := by
  have a := share_ex (m := m) (n := n) hm hn (show i ≤ 32 by omega)
  have b := share_ex (m := m) (n := n) hm hn hj
  have hd := sub_tab2 j (by omega) i hij
  obtain ⟨p1, p2⟩ := qs_tab2 m (by omega)
  obtain ⟨b1, b2⟩ := qs_tab2 n (by omega)
  obtain ⟨-, x1, -⟩ := q32_tab2 j (by omega)
  obtain ⟨-, y1, -⟩ := q32_tab2 i (by omega)
  obtain ⟨s1, s2⟩ := nF_slope (m := m) (n := n) (Nat.le_of_lt hij) hj
  have n1 := nF_le (n := n) hm (show i ≤ 32 by omega)
  have n2 := nF_le (n := n) hm hj
  have sh : ∀ {k}, k ≤ 1065353216 → shareW (qs m) (qs n) k ≤ 1065353216 := fun {k} hk => by
    unfold shareW
    exact Nat.le_trans (Nat.min_le_left _ _) (mul_one_le p2 hk).2
  have shi := sh y1
  have shj := sh x1
  have e := (sub_eq (x := q32 j) (y := q32 i) (by omega) (by
    refine le_of_rv ?_
    have c1 := (q32_tab2 j (by omega)).1
    have c2 := (q32_tab2 i (by omega)).1
    have : i * uV ≤ j * uV := Nat.mul_le_mul_right _ (Nat.le_of_lt hij)
    omega)).2
  have hsl : subB (q32 j) (q32 i) < 2139095040 := by
    rcases Nat.lt_or_ge (subB (q32 j) (q32 i)) 2139095040 with c | c
    · exact c
    · have r := rv_le (p := 23) c
      have k1 : rv 23 2139095040 = 2 ^ 128 * uV := by decide +kernel
      have k2 : (j - i) * uV ≤ 32 * uV := Nat.mul_le_mul_right _ (by omega)
      have k3 : uV < 2 ^ 128 * uV := by decide +kernel
      omega
  generalize shareW (qs m) (qs n) (q32 i) = Fi at *
  generalize shareW (qs m) (qs n) (q32 j) = Fj at *
  constructor
  · intro c
    have d := sub_ex shj c n2 b a
    exact slope_div (Nat.lt_of_le_of_lt (sub_le (by omega) c) (by omega)) hsl p2 (by omega) d hd p1 (by omega)
  · intro c
    have d := sub_ex shi c n1 a b
    exact slope_div (Nat.lt_of_le_of_lt (sub_le (by omega) c) (by omega)) hsl b2 (by omega) d hd b1 (by omega)

theorem divB_zero {y : Nat} (hy : y < 2139095040) (h : 0 < y) : divB 0 y = 0 := by
  have := div_le (x := 0) (y := y) (c := 0) (by omega) hy h (by rw [rv_zero, Nat.zero_mul]; exact Nat.zero_le _)
  omega

theorem subB_self {x : Nat} (hx : x < 2139095040) : subB x x = 0 := by
  have e := (sub_eq (x := x) (y := x) hx (Nat.le_refl _)).2
  rw [Nat.sub_self, RU_zero] at e
  omega

theorem neg_dif {x y : Nat} (hx : x < 2139095040) (hy : y < 2139095040) : negB (difB x y) = decide (x < y) := by
  unfold negB difB
  by_cases c : y ≤ x
  · have := sub_le hx c
    rw [if_pos c, decide_eq_false (by omega), decide_eq_false (by omega)]
  · rw [if_neg c, decide_eq_true (by omega), decide_eq_true (by omega)]

/-- a wave between two drawn shares, both ways -/
theorem wave_two {cs : List Nat} {m n l i j : Nat} (hok : okB cs (qs m) (qs n) l = true) (hm : m ≤ 16) (hn : n ≤ 16) (hi : i ≤ 32) (hj : j ≤ 32) (hne : q32 i ≠ q32 j) :
    ∃ s t r, vWaveSpeed cs (qs m) (qs n) l (q32 i) (q32 j) = (S32.word s r, 0) ∧ vWaveSpeed cs (qs m) (qs n) l (q32 j) (q32 i) = (S32.word t r, 0) ∧ (r = 0 ∨ s = t) ∧ (s = false → r ≤ qs m) ∧ (s = true → r ≤ qs n) := by
  obtain ⟨hp1, hp2⟩ := qs_tab2 m (by omega)
  obtain ⟨-, xi, -⟩ := q32_tab2 i (by omega)
  obtain ⟨-, xj, -⟩ := q32_tab2 j (by omega)
  have sh : ∀ {k}, k ≤ 1065353216 → shareW (qs m) (qs n) k ≤ 1065353216 := fun {k} hk => by
    unfold shareW
    exact Nat.le_trans (Nat.min_le_left _ _) (mul_one_le hp2 hk).2
  have fi := sh xi
  have fj := sh xj
  have w1 : waveC (okB cs (qs m) (qs n) l) (q32 i) (q32 j) = 0 := by unfold waveC shrB; rw [hok, decide_eq_true xi, decide_eq_true xj]; simp [hne]
  have w2 : waveC (okB cs (qs m) (qs n) l) (q32 j) (q32 i) = 0 := by unfold waveC shrB; rw [hok, decide_eq_true xi, decide_eq_true xj]; simp [Ne.symm hne]
  have hij : i ≠ j := fun e => hne (by rw [e])
  have mono : ∀ {a c : Nat}, a < c → c ≤ 32 → q32 a < q32 c := fun {a c} h1 h2 => by
    have c1 := (q32_tab2 c (by omega)).1
    have c2 := (q32_tab2 a (by omega)).1
    have h3 : a * uV < c * uV := Nat.mul_lt_mul_of_pos_right h1 uV_pos
    rcases Nat.lt_or_ge (q32 a) (q32 c) with k | k
    · exact k
    · have := rv_le (p := 23) k; omega
  unfold vWaveSpeed
  rw [if_pos w1, if_pos w2]
  unfold quoB
  rw [neg_dif (by omega) (by omega), neg_dif (by omega) (by omega), neg_dif (by omega) (by omega), neg_dif (by omega) (by omega), mag_dif (by omega) (by omega), mag_dif (by omega) (by omega), mag_dif (by omega) (by omega), mag_dif (by omega) (by omega)]
  have both : ∀ {a c : Nat}, (if c ≤ a then subB a c else subB c a) = (if a ≤ c then subB c a else subB a c) := fun {a c} => by
    rcases Nat.lt_trichotomy a c with h | h | h
    · rw [if_neg (by omega), if_pos (by omega)]
    · subst h; rfl
    · rw [if_pos (by omega), if_neg (by omega)]
  rw [both (a := q32 i) (c := q32 j), both (a := shareW (qs m) (qs n) (q32 i)) (c := shareW (qs m) (qs n) (q32 j))]
  refine ⟨_, _, _, rfl, rfl, ?_, ?_, ?_⟩
  · -- the same sign, or no size
    by_cases e : shareW (qs m) (qs n) (q32 i) = shareW (qs m) (qs n) (q32 j)
    · left
      rw [e, if_pos (Nat.le_refl _), subB_self (by omega)]
      have hp : 0 < (if q32 i ≤ q32 j then subB (q32 j) (q32 i) else subB (q32 i) (q32 j)) ∧ (if q32 i ≤ q32 j then subB (q32 j) (q32 i) else subB (q32 i) (q32 j)) < 2139095040 := by
        rcases Nat.lt_or_ge (q32 i) (q32 j) with c | c
        · rw [if_pos (by omega)]; exact ⟨sub_pos (by omega) c, Nat.lt_of_le_of_lt (sub_le (by omega) (by omega)) (by omega)⟩
        · rw [if_neg (by omega)]; exact ⟨sub_pos (by omega) (by omega), Nat.lt_of_le_of_lt (sub_le (by omega) (by omega)) (by omega)⟩
      exact divB_zero hp.2 hp.1
    · right
      generalize shareW (qs m) (qs n) (q32 i) = Fi at *
      generalize shareW (qs m) (qs n) (q32 j) = Fj at *
      generalize q32 i = x at *
      generalize q32 j = y at *
      rcases Nat.lt_or_ge Fi Fj with c | c <;> rcases Nat.lt_or_ge x y with d | d
      · rw [decide_eq_false (show ¬ Fj < Fi by omega), decide_eq_false (show ¬ y < x by omega), decide_eq_true c, decide_eq_true d]; rfl
      · rw [decide_eq_false (show ¬ Fj < Fi by omega), decide_eq_true (show y < x by omega), decide_eq_true c, decide_eq_false (show ¬ x < y by omega)]; rfl
      · rw [decide_eq_true (show Fj < Fi by omega), decide_eq_false (show ¬ y < x by omega), decide_eq_false (show ¬ Fi < Fj by omega), decide_eq_true d]; rfl
      · rw [decide_eq_true (show Fj < Fi by omega), decide_eq_true (show y < x by omega), decide_eq_false (show ¬ Fi < Fj by omega), decide_eq_false (show ¬ x < y by omega)]; rfl
  · intro hs
    rcases Nat.lt_or_ge i j with c | c
    · have hx := mono c hj
      obtain ⟨s1, s2⟩ := slope_two (m := m) (n := n) hm hn c hj
      rw [decide_eq_false (show ¬ q32 j < q32 i by omega), Bool.xor_false, decide_eq_false_iff_not] at hs
      rw [if_pos (by omega), if_pos (by omega)]
      exact (s1 (by omega)).2
    · have c' : j < i := by omega
      have hx := mono c' hi
      obtain ⟨s1, s2⟩ := slope_two (m := m) (n := n) hm hn c' hi
      rw [decide_eq_true hx, Bool.xor_true, Bool.not_eq_false', decide_eq_true_eq] at hs
      rw [if_neg (by omega), if_neg (by omega)]
      exact (s1 (by omega)).2
  · intro hs
    rcases Nat.lt_or_ge i j with c | c
    · have hx := mono c hj
      obtain ⟨s1, s2⟩ := slope_two (m := m) (n := n) hm hn c hj
      rw [decide_eq_false (show ¬ q32 j < q32 i by omega), Bool.xor_false, decide_eq_true_eq] at hs
      rw [if_neg (by omega), if_pos (by omega)]
      exact (s2 (by omega)).2
    · have c' : j < i := by omega
      have hx := mono c' hi
      obtain ⟨s1, s2⟩ := slope_two (m := m) (n := n) hm hn c' hi
      rw [decide_eq_true hx, Bool.xor_true, Bool.not_eq_true', decide_eq_false_iff_not] at hs
      rw [if_pos (by omega), if_neg (by omega)]
      exact (s2 (by omega)).2

end Go.Proofs.Ytiaflomabgnmaaa
