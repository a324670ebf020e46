/-
  WIDE FLOATS MADE WHOLE: what RoundToEven gives, and the whole number that a wide float holds.
  No Go text in it. Conditions: those of each theorem.
-/
import Derived.Test.YtiaflomabgnmaaaG1
namespace Go.Proofs.Ytiaflomabgnmaaa
open Go

/-- the nearest whole number of a wide rung, ties to even; k is the place of the units -/
def nIk (k R : Nat) : Nat := rne (rv 52 R) (P2 k)
/-- the wide rung of a whole number -/
def wIk (k N : Nat) : Nat := RU 52 (N * P2 k) 0

theorem cut_zero (neg : Bool) (n drop : Nat) : Ieee.Toward.zero.cut neg n drop = n / 2 ^ drop := by
  unfold Ieee.Toward.cut
  simp only [Nat.one_shiftLeft, Bool.toNat_false, Nat.add_zero]
  by_cases h : drop ≤ n.log2 + 2
  · rw [Nat.min_eq_left h]
  · rw [Nat.min_eq_right (by omega)]
    have hn : n < 2 ^ (n.log2 + 1) := Nat.lt_log2_self
    have h2 : 2 ^ (n.log2 + 1) ≤ 2 ^ (n.log2 + 2) := Nat.pow_le_pow_right (by omega) (by omega)
    have h3 : 2 ^ (n.log2 + 1) ≤ 2 ^ drop := Nat.pow_le_pow_right (by omega) (by omega)
    rw [Nat.div_eq_of_lt (by omega), Nat.div_eq_of_lt (by omega)]

theorem integral_word (s : Bool) {R k : Nat} (h : R < 9218868437227405312) (hk : (k : Int) = 1074) : (S64.read (S64.word s R)).integral .even = .number s (nIk k R) 0 := by
  obtain ⟨m, i, h1, h2, h3⟩ := read_fin S64 s (r := R) (by rw [d_inf]; exact h)
  rw [h1]
  show Ieee.Datum.number s (Ieee.Toward.even.cut s (m <<< i.toNat) (-i).toNat) 0 = _
  rw [cut_even, Nat.shiftLeft_eq]
  rw [d_L] at h2 h3
  rw [d_fb] at h3
  congr 1
  unfold nIk
  rw [← h3]
  rcases Int.le_total 0 i with c | c
  · rw [show (-i).toNat = 0 from by omega, Nat.pow_zero, rne_one, show (i - -1074).toNat = i.toNat + k from by omega, Nat.pow_add, ← Nat.mul_assoc]
    exact (rne_mul _ _ (P2_pos k)).symm
  · rw [show i.toNat = 0 from by omega, Nat.pow_zero, Nat.mul_one]
    have e : P2 k = P2 (-i).toNat * P2 (i - -1074).toNat := by rw [P2_add]; congr 1; omega
    rw [e]
    exact (rne_scale _ _ _ (P2_pos _)).symm

theorem toInt_word (s : Bool) {R k : Nat} (h : R < 9218868437227405312) (hk : (k : Int) = 1074) : (S64.read (S64.word s R)).toInt .zero = some (sg s (rv 52 R / P2 k)) := by
  obtain ⟨m, i, h1, h2, h3⟩ := read_fin S64 s (r := R) (by rw [d_inf]; exact h)
  rw [h1]
  unfold Ieee.Datum.toInt
  show some (Ieee.signed s (Ieee.Toward.zero.cut s (m <<< i.toNat) (-i).toNat) 0) = _
  rw [cut_zero, Nat.shiftLeft_eq]
  rw [d_L] at h2 h3
  rw [d_fb] at h3
  have e : m * 2 ^ i.toNat / 2 ^ (-i).toNat = rv 52 R / P2 k := by
    rw [← h3]
    rcases Int.le_total 0 i with c | c
    · rw [show (-i).toNat = 0 from by omega, Nat.pow_zero, Nat.div_one, show (i - -1074).toNat = i.toNat + k from by omega, Nat.pow_add, ← Nat.mul_assoc]
      exact (Nat.mul_div_cancel _ (P2_pos k)).symm
    · rw [show i.toNat = 0 from by omega, Nat.pow_zero, Nat.mul_one]
      have e : P2 k = P2 (-i).toNat * P2 (i - -1074).toNat := by rw [P2_add]; congr 1; omega
      rw [e]
      exact (Nat.mul_div_mul_right _ _ (P2_pos _)).symm
  rw [e]
  unfold Ieee.signed sg
  rw [Nat.shiftLeft_zero]

/-- a number of at most p + 1 digits has a rung of its own -/
theorem rv_RU_exact {p N k : Nat} (hN : 0 < N) (hL : N.log2 ≤ p) (hk : p ≤ k) : rv p (RU p (N * P2 k) 0) = N * P2 k := by
  have hl : (N * P2 k).log2 = N.log2 + k := log2_mul_pow N k (by omega)
  have he : lastE p (N * P2 k) 0 = N.log2 + k - p := by unfold lastE; rw [hl, Nat.add_zero]
  have hsplit : N * P2 k = N * P2 (p - N.log2) * P2 (N.log2 + k - p) := by
    rw [Nat.mul_assoc, P2_add]; congr 2; omega
  have h1 := Nat.log2_self_le (n := N) (by omega)
  have h2 : N < 2 ^ (N.log2 + 1) := Nat.lt_log2_self
  generalize hM : N * P2 (p - N.log2) = M at hsplit
  have hMlo : 2 ^ p ≤ M := by
    rw [← hM, show 2 ^ p = 2 ^ N.log2 * P2 (p - N.log2) from by unfold P2; rw [← Nat.pow_add]; congr 1; omega]
    exact Nat.mul_le_mul_right _ h1
  have hMhi : M < 2 * 2 ^ p := by
    rw [← hM, show 2 * 2 ^ p = 2 ^ (N.log2 + 1) * P2 (p - N.log2) from by unfold P2; rw [← Nat.pow_add, Nat.mul_comm, ← Nat.pow_succ]; congr 1; omega]
    exact (Nat.mul_lt_mul_right (P2_pos _)).2 h2
  have hRU : RU p (N * P2 k) 0 = (N.log2 + k - p) * 2 ^ p + M := by
    unfold RU
    rw [he, Nat.add_zero, hsplit]
    congr 1
    exact rne_mul _ _ (P2_pos _)
  rw [hRU]
  generalize N.log2 + k - p = e at *
  have hp : 0 < 2 ^ p := Nat.two_pow_pos p
  have hr : e * 2 ^ p + M = (e + 1) * 2 ^ p + (M - 2 ^ p) := by rw [Nat.add_mul, Nat.one_mul]; omega
  have hd : ((e + 1) * 2 ^ p + (M - 2 ^ p)) / 2 ^ p = e + 1 := by
    rw [Nat.add_comm, Nat.add_mul_div_right _ _ hp, Nat.div_eq_of_lt (by omega), Nat.zero_add]
  have hm : ((e + 1) * 2 ^ p + (M - 2 ^ p)) % 2 ^ p = M - 2 ^ p := by
    rw [Nat.add_comm, Nat.add_mul_mod_self_right, Nat.mod_eq_of_lt (by omega)]
  rw [hr]
  unfold rv
  rw [if_neg (by rw [Nat.add_mul, Nat.one_mul]; omega), hd, hm, show 2 ^ p + (M - 2 ^ p) = M from by omega, hsplit]
  rfl

theorem wIk_rv {N k : Nat} (hN : N ≤ 65536) (hk : k = 1074) : rv 52 (wIk k N) = N * P2 k := by
  unfold wIk
  rcases Nat.eq_zero_or_pos N with z | z
  · subst z; rw [Nat.zero_mul, RU_zero, rv_zero]
  · refine rv_RU_exact z ?_ (by omega)
    have : N.log2 < 17 := (Nat.log2_lt (by omega)).2 (by omega)
    omega
theorem wIk_mono {N M k : Nat} (h : N ≤ M) : wIk k N ≤ wIk k M := RU_mono _ _ (Nat.mul_le_mul_right _ h)
theorem wIk_lt {N k : Nat} (hN : N ≤ P2 180) (hk : k = 1074) : wIk k N < 9218868437227405312 := by
  have h : wIk k N ≤ 1203 * 2 ^ 52 := by
    unfold wIk
    refine RU_le ?_
    rw [rv_pow 52 1203 (by omega), Nat.pow_zero, Nat.mul_one, P2_add]
    refine Nat.le_trans (Nat.mul_le_mul_right _ hN) ?_
    rw [P2_add]
    exact P2_mono (by omega)
  have : 1203 * 2 ^ 52 < 9218868437227405312 := by decide
  omega
theorem nIk_mono {R Q k : Nat} (h : R ≤ Q) : nIk k R ≤ nIk k Q := rne_mono (rv_le h)
theorem nIk_wide {r k : Nat} (h : r < 2139095040) (hk : k = 1074) : nIk k (wideR r) ≤ P2 180 := by
  unfold nIk
  refine rne_le (P2_pos _) ?_
  have h1 : rv 23 r ≤ rv 23 (255 * 2 ^ 23) := rv_le (by omega)
  rw [rv_pow 23 255 (by omega), P2_add] at h1
  have h2 : wideR r ≤ 1203 * 2 ^ 52 := by
    unfold wideR
    refine RU_le ?_
    rw [rv_pow 52 1203 (by omega), Nat.pow_zero, Nat.mul_one, P2_add]
    refine Nat.le_trans (Nat.mul_le_mul_right _ h1) ?_
    rw [show P925 = P2 925 from rfl, P2_add]
    exact P2_mono (by omega)
  have h3 : rv 52 (wideR r) ≤ rv 52 (1203 * 2 ^ 52) := rv_le h2
  rw [rv_pow 52 1203 (by omega), P2_add] at h3
  rw [P2_add]
  refine Nat.le_trans h3 (P2_mono (by omega))
/-- whole numbers stay what they are -/
theorem nIk_wIk {N k : Nat} (hN : N ≤ 32768) (hk : k = 1074) : nIk k (wIk k N) = N := by
  unfold nIk
  rw [wIk_rv (by omega) hk]
  exact rne_mul _ _ (P2_pos _)
theorem write_word (s : Bool) (N k : Nat) (hk : (k : Int) = 1074) : S64.write (.number s N 0) = S64.word s (min (wIk k N) 9218868437227405312) := by
  show S64.nearest s N 0 = _
  rw [nearest_eq, d_L, d_fb, d_inf, show ((0 : Int) - -1074).toNat = k from by omega, show ((-1074 : Int) - 0).toNat = 0 from by omega]
  rfl
end Go.Proofs.Ytiaflomabgnmaaa
