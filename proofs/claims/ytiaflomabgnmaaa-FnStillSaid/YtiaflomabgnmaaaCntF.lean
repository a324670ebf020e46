/-
  THE NEAREST SHORT NUMBER OF A NARROW FLOAT, in whole numbers.
  No Go text in it. Conditions: those of each theorem.
-/
import Derived.Test.YtiaflomabgnmaaaIntg
import Derived.Test.YtiaflomabgnmaaaG1
import Derived.Laws.FloatArith
namespace Go.Proofs.Ytiaflomabgnmaaa
open Go

theorem c_lo : (4674736138332667904 : Nat) = wIk 1074 32767 := by decide +kernel
theorem c_hi : (13898108450065350656 : Nat) = S64.word true (wIk 1074 32768) := by decide +kernel
theorem w_lo : wideR 1191181824 = wIk 1074 32767 := by decide +kernel
theorem w_hi : wideR 1191182336 = wIk 1074 32768 := by decide +kernel
theorem p180 : 65536 ≤ P2 180 := by decide +kernel

theorem rv_step {a b N : Nat} (hab : b = a + 1) (hb : b ≤ 32769) (h : b ≤ N) : rv 52 (wIk 1074 a) < rv 52 (wIk 1074 N) := by
  have h1 : rv 52 (wIk 1074 b) ≤ rv 52 (wIk 1074 N) := rv_le (wIk_mono h)
  rw [wIk_rv (N := b) (by omega) rfl] at h1
  rw [wIk_rv (N := a) (by omega) rfl]
  have hp := P2_pos 1074
  have h2 : a * P2 1074 < b * P2 1074 := (Nat.mul_lt_mul_right hp).2 (by omega)
  omega

theorem ord_gt (s : Bool) {N : Nat} (hN : N ≤ P2 180) : (FloatKind.f64.format.order (S64.word s (wIk 1074 N)) 4674736138332667904 == some .gt) = (!s && decide (32767 < N)) := by
  rw [c_lo]
  have e := order_fin S64 s false (r := wIk 1074 N) (q := wIk 1074 32767) (by rw [d_inf]; exact wIk_lt hN rfl) (by rw [d_inf]; exact wIk_lt (by have := p180; omega) rfl)
  rw [word_false] at e
  show (S64.order _ _ == some .gt) = _
  rw [e, d_fb]
  have hle : N ≤ 32767 → rv 52 (wIk 1074 N) ≤ rv 52 (wIk 1074 32767) := fun h => rv_le (wIk_mono h)
  have hgt : 32767 < N → rv 52 (wIk 1074 32767) < rv 52 (wIk 1074 N) := fun h => rv_step rfl (by omega) h
  have hpos : 0 < rv 52 (wIk 1074 32767) := by rw [wIk_rv (by omega) rfl]; have := P2_pos 1074; omega
  generalize rv 52 (wIk 1074 N) = A at *
  generalize rv 52 (wIk 1074 32767) = B at *
  cases s
  · by_cases c : 32767 < N
    · have := hgt c
      rw [show compare (sg false A) (sg false B) = .gt from Int.compare_eq_gt.2 (by simp [sg]; omega), decide_eq_true c]; rfl
    · have := hle (by omega)
      rw [decide_eq_false c]
      have : compare (sg false A) (sg false B) ≠ .gt := fun e => by have := Int.compare_eq_gt.1 e; simp [sg] at this; omega
      cases hc : compare (sg false A) (sg false B) <;> simp_all
  · rw [show compare (sg true A) (sg false B) = .lt from Int.compare_eq_lt.2 (by simp [sg]; omega)]; rfl

theorem ord_lt (s : Bool) {N : Nat} (hN : N ≤ P2 180) : (FloatKind.f64.format.order (S64.word s (wIk 1074 N)) 13898108450065350656 == some .lt) = (s && decide (32768 < N)) := by
  rw [c_hi]
  have e := order_fin S64 s true (r := wIk 1074 N) (q := wIk 1074 32768) (by rw [d_inf]; exact wIk_lt hN rfl) (by rw [d_inf]; exact wIk_lt (by have := p180; omega) rfl)
  show (S64.order _ _ == some .lt) = _
  rw [e, d_fb]
  have hle : N ≤ 32768 → rv 52 (wIk 1074 N) ≤ rv 52 (wIk 1074 32768) := fun h => rv_le (wIk_mono h)
  have hgt : 32768 < N → rv 52 (wIk 1074 32768) < rv 52 (wIk 1074 N) := fun h => rv_step rfl (by omega) h
  have hpos : 0 < rv 52 (wIk 1074 32768) := by rw [wIk_rv (by omega) rfl]; have := P2_pos 1074; omega
  generalize rv 52 (wIk 1074 N) = A at *
  generalize rv 52 (wIk 1074 32768) = B at *
  cases s
  · rw [show compare (sg false A) (sg true B) = .gt from Int.compare_eq_gt.2 (by simp [sg]; omega)]; rfl
  · by_cases c : 32768 < N
    · have := hgt c
      rw [show compare (sg true A) (sg true B) = .lt from Int.compare_eq_lt.2 (by simp [sg]; omega), decide_eq_true c]; rfl
    · have := hle (by omega)
      rw [decide_eq_false c]
      have : compare (sg true A) (sg true B) ≠ .lt := fun e => by have := Int.compare_eq_lt.1 e; simp [sg] at this; omega
      cases hc : compare (sg true A) (sg true B) <;> simp_all

theorem toInt16 (s : Bool) {N : Nat} (h : N ≤ (if s then 32768 else 32767)) : floatToIntVal .f64 (S64.word s (wIk 1074 N)) .i16 = some (sg s N) := by
  have hN : N ≤ 32768 := by cases s <;> simp at h <;> omega
  have hlt := wIk_lt (N := N) (k := 1074) (by have := p180; omega) rfl
  have e := toInt_word s (R := wIk 1074 N) (k := 1074) hlt rfl
  rw [wIk_rv (by omega) rfl, Nat.mul_div_cancel _ (P2_pos 1074)] at e
  have hr : IntKind.i16.min ≤ sg s N ∧ sg s N ≤ IntKind.i16.max := by
    simp [IntKind.min, IntKind.max, IntKind.bits, IntKind.signed]
    cases s <;> simp [sg] at h ⊢ <;> omega
  unfold floatToIntVal
  show (match (S64.read (S64.word s (wIk 1074 N))).toInt .zero with | some n => _ | none => none) = _
  rw [e]
  simp [hr.1, hr.2]

/-- held between the bounds of a short number -/
def clampC (s : Bool) (N : Nat) : Int := if s then -((min N 32768 : Nat) : Int) else ((min N 32767 : Nat) : Int)
/-- the nearest short number of the rung r with a sign -/
def cntR (s : Bool) (r : Nat) : Int := if r = 2139095040 then (if s then -32768 else 32767) else clampC s (nIk 1074 (wideR r))
/-- the nearest short number of a narrow float -/
def cntB (x : Nat) : Int := if nanB x then 0 else cntR (decide (2147483648 ≤ x)) (x % 2147483648)
theorem cntR_bd (s : Bool) (r : Nat) : -32768 ≤ cntR s r ∧ cntR s r ≤ 32767 := by
  unfold cntR clampC
  cases s <;> simp <;> split <;> omega
theorem cntB_bd (x : Nat) : -32768 ≤ cntB x ∧ cntB x ≤ 32767 := by
  unfold cntB
  split
  · omega
  · exact cntR_bd _ _
theorem clamp_gt {N : Nat} (h : 32767 < N) : clampC false N = 32767 := by unfold clampC; simp; omega
theorem clamp_lt {N : Nat} (h : 32768 < N) : clampC true N = -32768 := by unfold clampC; simp; omega
theorem clamp_in {s : Bool} {N : Nat} (h : N ≤ (if s then 32768 else 32767)) : clampC s N = sg s N := by
  unfold clampC sg
  cases s <;> simp at h ⊢ <;> omega

/-- the greatest rung that a short number has -/
def hC (s : Bool) : Nat := if s then 1191182336 else 1191181824
theorem hC_lt (s : Bool) : hC s < 2139095040 := by cases s <;> decide
theorem nI_hC (s : Bool) : nIk 1074 (wideR (hC s)) = (if s then 32768 else 32767) := by
  cases s
  · show nIk 1074 (wideR 1191181824) = 32767
    rw [w_lo]; exact nIk_wIk (by omega) rfl
  · show nIk 1074 (wideR 1191182336) = 32768
    rw [w_hi]; exact nIk_wIk (by omega) rfl
theorem wideR_mono {r q : Nat} (h : r ≤ q) : wideR r ≤ wideR q := RU_mono _ _ (Nat.mul_le_mul_right _ (rv_le h))
/-- held first, then made whole: the same -/
theorem held_count (s : Bool) {r : Nat} (_hr : r ≤ 2139095040) : nIk 1074 (wideR (min r (hC s))) ≤ (if s then 32768 else 32767) ∧ sg s (nIk 1074 (wideR (min r (hC s)))) = cntR s r := by
  have h1 : nIk 1074 (wideR (min r (hC s))) ≤ (if s then 32768 else 32767) := by
    rw [← nI_hC s]; exact nIk_mono (wideR_mono (Nat.min_le_right _ _))
  refine ⟨h1, ?_⟩
  have hh := hC_lt s
  by_cases c : r ≤ hC s
  · rw [Nat.min_eq_left c] at h1 ⊢
    unfold cntR
    rw [if_neg (by omega), clamp_in h1]
  · rw [Nat.min_eq_right (by omega), nI_hC]
    unfold cntR
    by_cases e : r = 2139095040
    · rw [if_pos e]; cases s <;> rfl
    · rw [if_neg e]
      have h2 : nIk 1074 (wideR (hC s)) ≤ nIk 1074 (wideR r) := nIk_mono (wideR_mono (by omega))
      rw [nI_hC] at h2
      unfold clampC sg
      cases s <;> simp at h2 ⊢ <;> omega

/-- max of a number and the least short one, then min of it and the greatest one -/
theorem order_word32 (s t : Bool) {r q : Nat} (hr : r < 2139095040) (hq : q < 2139095040) : FloatKind.f32.format.order (S32.word s r) (S32.word t q) = some (compare (sg s (rv 23 r)) (sg t (rv 23 q))) :=
  order_fin S32 s t (by rw [s_inf]; exact hr) (by rw [s_inf]; exact hq)
theorem order_inf32 (s t : Bool) {q : Nat} (hq : q < 2139095040) : FloatKind.f32.format.order (S32.word s 2139095040) (S32.word t q) = some (if s then .lt else .gt) := by
  have h1 := read_inf S32 s_bin s
  rw [s_inf] at h1
  obtain ⟨m, i, h2, -, -⟩ := read_fin S32 t (r := q) (by rw [s_inf]; exact hq)
  show S32.order _ _ = _
  unfold Ieee.Format.order
  rw [h1, h2]; rfl
theorem neg_word32 {q : Nat} (hq : q < 2139095040) (t : Bool) : (FloatKind.f32.decode (S32.word t q)).neg = t := by
  obtain ⟨m, i, h2, -, -⟩ := read_fin S32 t (r := q) (by rw [s_inf]; exact hq)
  show (S32.read _).neg = _
  rw [h2]; rfl
theorem run_max_lo {P : Program} (w : World) (ts : Array TypeId) (t : TypeId) (s : Bool) {r : Nat} (hr : r ≤ 2139095040) :
    (Builtin.max_ ts t #[.float .f32 (S32.word s r), .float .f32 3338665984]).run P w = .ok (.float .f32 (S32.word s (if s then min r 1191182336 else r))) w := by
  have el : (3338665984 : Nat) = S32.word true 1191182336 := by decide
  rw [el]
  have hq : (1191182336 : Nat) < 2139095040 := by decide
  by_cases c : r = 2139095040
  · subst c
    have ho := order_inf32 s true (q := 1191182336) hq
    cases s
    · simp [Builtin.max_, Builtin.max2, ho]
    · simp [Builtin.max_, Builtin.max2, ho]
  · have ho := order_word32 s true (r := r) (q := 1191182336) (by omega) hq
    have hp := rv_pos (p := 23) (r := 1191182336) (by decide)
    cases s
    · rw [show compare (sg false (rv 23 r)) (sg true (rv 23 1191182336)) = .gt from Int.compare_eq_gt.2 (by simp [sg]; omega)] at ho
      simp [Builtin.max_, Builtin.max2, ho]
    · rcases Nat.lt_trichotomy r 1191182336 with h | h | h
      · have := rv_lt (p := 23) h
        rw [show compare (sg true (rv 23 r)) (sg true (rv 23 1191182336)) = .gt from Int.compare_eq_gt.2 (by simp [sg]; omega)] at ho
        simp [Builtin.max_, Builtin.max2, ho, Nat.min_eq_left (Nat.le_of_lt h)]
      · subst h
        rw [show compare (sg true (rv 23 1191182336)) (sg true (rv 23 1191182336)) = .eq from Int.compare_eq_eq.2 rfl] at ho
        simp [Builtin.max_, Builtin.max2, ho]
      · have := rv_lt (p := 23) h
        rw [show compare (sg true (rv 23 r)) (sg true (rv 23 1191182336)) = .lt from Int.compare_eq_lt.2 (by simp [sg]; omega)] at ho
        simp [Builtin.max_, Builtin.max2, ho, Nat.min_eq_right (Nat.le_of_lt h)]
theorem run_min_hi {P : Program} (w : World) (ts : Array TypeId) (t : TypeId) (s : Bool) {r : Nat} (hr : r ≤ 2139095040) :
    (Builtin.min_ ts t #[.float .f32 (S32.word s (if s then min r 1191182336 else r)), .float .f32 1191181824]).run P w = .ok (.float .f32 (S32.word s (min r (hC s)))) w := by
  have el : (1191181824 : Nat) = S32.word false 1191181824 := by decide
  have hq : (1191181824 : Nat) < 2139095040 := by decide
  have hp := rv_pos (p := 23) (r := 1191181824) (by decide)
  cases s
  · have eh : hC false = 1191181824 := rfl
    rw [eh]
    simp only [Bool.false_eq_true, if_false]
    by_cases c : r = 2139095040
    · subst c
      have ho := order_inf32 false false (q := 1191181824) hq
      rw [← el] at ho
      simp [Builtin.min_, Builtin.min2, ho]
      exact el
    · have ho := order_word32 false false (r := r) (q := 1191181824) (by omega) hq
      rw [← el] at ho
      rcases Nat.lt_trichotomy r 1191181824 with h | h | h
      · have := rv_lt (p := 23) h
        rw [show compare (sg false (rv 23 r)) (sg false (rv 23 1191181824)) = .lt from Int.compare_eq_lt.2 (by simp [sg]; omega)] at ho
        simp [Builtin.min_, Builtin.min2, ho, Nat.min_eq_left (Nat.le_of_lt h)]
      · subst h
        rw [show compare (sg false (rv 23 1191181824)) (sg false (rv 23 1191181824)) = .eq from Int.compare_eq_eq.2 rfl] at ho
        simp [Builtin.min_, Builtin.min2, ho]
        exact fun _ => el
      · have := rv_lt (p := 23) h
        rw [show compare (sg false (rv 23 r)) (sg false (rv 23 1191181824)) = .gt from Int.compare_eq_gt.2 (by simp [sg]; omega)] at ho
        simp [Builtin.min_, Builtin.min2, ho, Nat.min_eq_right (Nat.le_of_lt h)]
        exact el
  · have eh : hC true = 1191182336 := rfl
    rw [eh]
    simp only [if_true]
    have hb : min r 1191182336 < 2139095040 := by omega
    have ho := order_word32 true false (r := min r 1191182336) (q := 1191181824) hb hq
    rw [← el] at ho
    rw [show compare (sg true (rv 23 (min r 1191182336))) (sg false (rv 23 1191181824)) = .lt from Int.compare_eq_lt.2 (by simp [sg]; omega)] at ho
    simp [Builtin.min_, Builtin.min2, ho]
end Go.Proofs.Ytiaflomabgnmaaa
