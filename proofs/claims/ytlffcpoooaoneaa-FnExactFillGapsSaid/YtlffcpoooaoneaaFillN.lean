/-
  CONTRACTS: gaps between tallies, in whole numbers and words of floats.
-/
import Derived.Test.YtlffcpoooaoneaaSmNum
import Derived.Test.YtlffcpoooaoneaaIntg
import Derived.Test.YtlffcpoooaoneaaCntF
import Derived.Test.YtlffcpoooaoneaaJoin
import Derived.Test.YtlffcpoooaoneaaOwnT
namespace Go.Proofs.Ytlffcpoooaoneaa
open Go Go.ChangeShapes Go.WideShapes Go.ChangeAt Go.RowKit
set_option maxRecDepth 100000

/-- a whole number as a narrow float -/
def fI (z : Int) : Nat := floatOfInt .f32 z
theorem fI_word (z : Int) : fI z = S32.word (decide (z < 0)) (fN z.natAbs) := by
  unfold fI floatOfInt FloatKind.nearest
  show S32.write (.number (decide (z < 0)) z.natAbs 0) = _
  show S32.nearest (decide (z < 0)) z.natAbs 0 = _
  rw [nearest_eq, s_L, s_fb, s_inf]
  rfl
theorem fI_nat (n : Nat) : fI (n : Int) = fN n := floatOfInt_nat n
theorem fN_rv {n : Nat} (h : n ≤ 32768) : rv 23 (fN n) = n * P2 149 := by
  have hw := fN_wd h
  have hl := wd_lt (k := 0) (by omega)
  by_cases z : n = 0
  · subst z; decide
  · have e := rv_RU_exact (p := 23) (N := n) (k := 149) (by omega) (by have := (Nat.log2_lt z (k := 24)).2 (by omega); omega) (by omega)
    have hlt : RU 23 (n * P2 149) 0 < 2139095040 := by unfold fN at hw; omega
    unfold fN
    rw [Nat.min_eq_left (by omega)]
    exact e
theorem fN_lt {n : Nat} (h : n ≤ 32768) : fN n < 2139095040 := by
  have hw := fN_wd h
  have hl := wd_lt (k := 0) (by omega)
  omega
theorem fI_sub {a b : Nat} (ha : a ≤ 32768) (hb : b ≤ 32768) : floatBits .sub .f32 (fN b) (fN a) = some (fI ((b : Int) - (a : Int))) := by
  have h := sub_fin S32 false false (r := fN b) (q := fN a) (by rw [s_inf]; exact fN_lt hb) (by rw [s_inf]; exact fN_lt ha)
  rw [word_false, word_false] at h
  show S32.sub _ _ = _
  rw [h, fI_word, s_fb, fN_rv ha, fN_rv hb]
  have e : sg false (b * P2 149) - sg false (a * P2 149) = ((b : Int) - (a : Int)) * (P2 149 : Int) := by
    simp only [sg, Int.natCast_mul, Int.sub_mul]
    rfl
  rw [e]
  have hp := P2_pos 149
  generalize hd : (b : Int) - (a : Int) = d
  unfold roundInt
  rw [s_fb, s_inf]
  have hn : (d * (P2 149 : Int)).natAbs = d.natAbs * P2 149 := by rw [Int.natAbs_mul, Int.natAbs_natCast]
  rw [hn]
  congr 2
  by_cases z : d = 0
  · subst z
    rw [Int.zero_mul, if_pos rfl]
    rfl
  · have hz : d * (P2 149 : Int) ≠ 0 := Int.mul_ne_zero z (by omega)
    rw [if_neg hz]
    apply decide_eq_decide.2
    constructor
    · intro h
      by_cases c : d < 0
      · exact c
      · have := Int.mul_nonneg (show 0 ≤ d by omega) (show (0 : Int) ≤ (P2 149 : Int) by omega)
        omega
    · intro h
      exact Int.mul_neg_of_neg_of_pos h (by omega)
theorem word_lt (s : Bool) {r : Nat} (h : r ≤ 2139095040) : S32.word s r < 4294967296 := by
  cases s
  · rw [word_false]; omega
  · rw [word_true, s_sw]; omega
/-- a number between two others -/
def btwB (a b : Int) (q : Nat) : Nat := addB (fI a) (mulB (fI (b - a)) q)
theorem btw_ops {a b : Int} (ha : 0 ≤ a ∧ a ≤ 32767) (hb : 0 ≤ b ∧ b ≤ 32767) {q : Nat} (hq : q ≤ 1065353216) :
    floatBits .sub .f32 (fI b) (fI a) = some (fI (b - a)) ∧ floatBits .mul .f32 (fI (b - a)) q = some (mulB (fI (b - a)) q) ∧
    floatBits .add .f32 (fI a) (mulB (fI (b - a)) q) = some (btwB a b q) ∧ btwB a b q < 4294967296 := by
  obtain ⟨m, rfl⟩ : ∃ m : Nat, a = m := ⟨a.toNat, by omega⟩
  obtain ⟨n, rfl⟩ : ∃ n : Nat, b = n := ⟨b.toNat, by omega⟩
  have h1 := fI_sub (a := m) (b := n) (by omega) (by omega)
  rw [fI_nat, fI_nat]
  refine ⟨h1, ?_⟩
  have hD := fI_word ((n : Int) - (m : Int))
  have hk : ((n : Int) - (m : Int)).natAbs ≤ 32768 := by omega
  have hr := fN_lt hk
  generalize decide ((n : Int) - (m : Int) < 0) = s at hD
  generalize fN ((n : Int) - (m : Int)).natAbs = r at hD hr
  have h2 := mul_fin S32 (by rw [s_L]; omega) s false (r := r) (q := q) (by rw [s_inf]; exact hr) (by rw [s_inf]; omega)
  rw [word_false, s_L, s_fb, s_inf, show (- -149 : Int).toNat = 149 from rfl, Bool.xor_false] at h2
  rw [← hD] at h2
  have e2 : mulB (fI ((n : Int) - (m : Int))) q = S32.word s (min (RU 23 (rv 23 r * rv 23 q) 149) 2139095040) := by
    unfold mulB
    rw [h2, Option.getD_some]
  have hM : min (RU 23 (rv 23 r * rv 23 q) 149) 2139095040 ≤ r := by
    have := mul_le (x := r) (y := q) (c := r) hr (by omega) (by
      have h3 : rv 23 q ≤ rv 23 1065353216 := rv_le hq
      rw [rv_one] at h3
      exact Nat.mul_le_mul_left _ h3)
    rw [(mul_eq hr (by omega)).2] at this
    exact this
  refine ⟨by show S32.mul _ _ = _; rw [h2, e2], ?_⟩
  have hm := fN_lt (n := m) (by omega)
  have h4 := add_fin S32 false s (r := fN m) (q := min (RU 23 (rv 23 r * rv 23 q) 149) 2139095040) (by rw [s_inf]; exact hm) (by rw [s_inf]; omega)
  rw [word_false, ← e2] at h4
  have e4 : btwB (m : Int) (n : Int) q = roundInt S32 (false && s) (sg false (rv S32.fractionBits (fN m)) + sg s (rv S32.fractionBits (min (RU 23 (rv 23 r * rv 23 q) 149) 2139095040))) := by
    unfold btwB addB
    rw [fI_nat, h4, Option.getD_some]
  refine ⟨by show S32.add _ _ = _; rw [h4, e4], ?_⟩
  rw [e4]
  unfold roundInt
  refine word_lt _ ?_
  rw [s_inf]
  exact Nat.min_le_right _ _
/-- the part of the way -/
def prt (u d : Int) : Nat := divB (fI u) (fI d)
theorem prt_ops {u d : Int} (hu : 0 < u ∧ u ≤ d) (hd : d ≤ 13) : floatBits .quo .f32 (fI u) (fI d) = some (prt u d) ∧ prt u d ≤ 1065353216 := by
  obtain ⟨m, rfl⟩ : ∃ m : Nat, u = m := ⟨u.toNat, by omega⟩
  obtain ⟨n, rfl⟩ : ∃ n : Nat, d = n := ⟨d.toNat, by omega⟩
  unfold prt
  rw [fI_nat, fI_nat]
  have hm := fN_lt (n := m) (by omega)
  have hn := fN_lt (n := n) (by omega)
  have h0 := fN_pos (n := n) (by omega)
  refine ⟨(div_some hm hn h0).1, div_le hm hn h0 ?_⟩
  rw [rv_one, fN_rv (by omega), fN_rv (by omega), Nat.mul_comm (2 ^ 149)]
  exact Nat.mul_le_mul_right _ (Nat.mul_le_mul_right _ (by omega))
/-- the tally at a turn between those of two neighbours -/
def gapT (a b : Int × Int × Int) (u : Int) : Int × Int × Int := (u, cntB (btwB a.2.1 b.2.1 (prt (u - a.1) (b.1 - a.1))), cntB (btwB a.2.2 b.2.2 (prt (u - a.1) (b.1 - a.1))))
/-- the first k tallies between two -/
def gapK (a b : Int × Int × Int) (k : Nat) : Ts := (List.range k).map fun (j : Nat) => gapT a b (a.1 + 1 + (j : Int))
theorem gapK_len (a b : Int × Int × Int) (k : Nat) : (gapK a b k).length = k := by simp [gapK]
theorem gapK_next (a b : Int × Int × Int) (k : Nat) : gapK a b (k + 1) = gapK a b k ++ [gapT a b (a.1 + 1 + (k : Int))] := by simp [gapK, List.range_succ]
/-- all of them -/
def gapL (a b : Int × Int × Int) : Ts := gapK a b (b.1 - a.1 - 1).toNat
/-- what the tally i comes with -/
def stepL (xs : Ts) (i : Nat) : Ts := if i = 0 then [] else gapL (tr3 xs (i - 1)) (tr3 xs i)
/-- the first i tallies, their gaps filled -/
def fillK (xs : Ts) : Nat → Ts
  | 0 => []
  | i + 1 => fillK xs i ++ stepL xs i ++ [tr3 xs i]
/-- does a wide gap begin behind one of the first n tallies? -/
def wideK (xs : Ts) : Nat → Bool
  | 0 => false
  | i + 1 => wideK xs i || (decide (0 < i) && decide (13 < tn xs i - tn xs (i - 1)))
theorem wideK_no {xs : Ts} : ∀ {n k : Nat}, wideK xs n = false → 0 < k → k < n → tn xs k - tn xs (k - 1) ≤ 13
  | 0, _, _, _, h => by omega
  | n + 1, k, h, h0, hk => by
    unfold wideK at h
    rw [Bool.or_eq_false_iff] at h
    by_cases c : k = n
    · subst c
      have := h.2
      rw [decide_eq_true h0, Bool.true_and, decide_eq_false_iff_not] at this
      omega
    · exact wideK_no h.1 h0 (by omega)
theorem wideK_yes {xs : Ts} : ∀ {n k : Nat}, 0 < k → k < n → 13 < tn xs k - tn xs (k - 1) → wideK xs n = true
  | 0, _, _, h, _ => by omega
  | n + 1, k, h0, hk, h => by
    unfold wideK
    by_cases c : k = n
    · subst c
      rw [decide_eq_true h0, decide_eq_true h]
      simp
    · rw [wideK_yes h0 (by omega) h]; rfl
theorem stepL_len {xs : Ts} {i : Nat} (h : i = 0 ∨ tn xs i - tn xs (i - 1) ≤ 13) : (stepL xs i).length ≤ 12 := by
  unfold stepL
  split
  · simp
  · rename_i z
    unfold gapL
    rw [gapK_len]
    have e1 : (tr3 xs i).1 = tn xs i := rfl
    have e2 : (tr3 xs (i - 1)).1 = tn xs (i - 1) := rfl
    rw [e1, e2]
    omega
theorem fillK_len {xs : Ts} : ∀ {i : Nat}, (∀ k, 0 < k → k < i → tn xs k - tn xs (k - 1) ≤ 13) → (fillK xs i).length ≤ 13 * i
  | 0, _ => by simp [fillK]
  | i + 1, h => by
    have h1 := fillK_len (xs := xs) (i := i) (fun k h0 hk => h k h0 (by omega))
    have h2 := stepL_len (xs := xs) (i := i) (by by_cases z : i = 0; exact .inl z; exact .inr (h i (by omega) (by omega)))
    simp only [fillK, List.length_append, List.length_cons, List.length_nil]
    omega
def vFill (xs : Ts) : Ts × Int := if okT xs then (if wideK xs xs.length then ([], 4) else if (fillK xs xs.length).length ≤ 96 then (fillK xs xs.length, 0) else ([], 3)) else ([], 1)
theorem vFill_1 {xs : Ts} (h : okT xs = false) : vFill xs = ([], 1) := by unfold vFill; rw [h]; rfl
theorem vFill_4 {xs : Ts} (h : okT xs = true) (h2 : wideK xs xs.length = true) : vFill xs = ([], 4) := by unfold vFill; rw [if_pos h, if_pos h2]
theorem vFill_0 {xs : Ts} (h : okT xs = true) (h2 : wideK xs xs.length = false) (h3 : (fillK xs xs.length).length ≤ 96) : vFill xs = (fillK xs xs.length, 0) := by unfold vFill; rw [if_pos h, h2, if_neg (by decide), if_pos h3]
theorem vFill_3 {xs : Ts} (h : okT xs = true) (h2 : wideK xs xs.length = false) (h3 : ¬ (fillK xs xs.length).length ≤ 96) : vFill xs = ([], 3) := by unfold vFill; rw [if_pos h, h2, if_neg (by decide), if_neg h3]

theorem gapL_w {a b : Int × Int × Int} (ha : I64t a.1) (hb : I64t b.1) : TW (gapL a b) := by
  intro s hs
  unfold gapL gapK at hs
  obtain ⟨j, hj, rfl⟩ := List.mem_map.1 hs
  have hj2 : j < (b.1 - a.1 - 1).toNat := List.mem_range.1 hj
  have c1 := cntB_bd (btwB a.2.1 b.2.1 (prt (a.1 + 1 + (j : Int) - a.1) (b.1 - a.1)))
  have c2 := cntB_bd (btwB a.2.2 b.2.2 (prt (a.1 + 1 + (j : Int) - a.1) (b.1 - a.1)))
  refine ⟨?_, c1, c2⟩
  show I64t (a.1 + 1 + (j : Int))
  unfold I64t at ha hb ⊢
  omega
theorem fillK_w {xs : Ts} (hW : TW xs) : ∀ {i : Nat}, i ≤ xs.length → TW (fillK xs i)
  | 0, _ => fun s hs => by simp [fillK] at hs
  | i + 1, h => by
    have h1 := fillK_w hW (i := i) (by omega)
    intro s hs
    simp only [fillK, List.mem_append, List.mem_singleton] at hs
    rcases hs with (hs | hs) | rfl
    · exact h1 s hs
    · unfold stepL at hs
      split at hs
      · cases hs
      · exact gapL_w (hW.at (i := i - 1) (by omega)).1 (hW.at (i := i) (by omega)).1 s hs
    · exact hW.at (i := i) (by omega)
theorem vFill_w {xs : Ts} (hW : TW xs) : TW (vFill xs).1 ∧ (vFill xs).1.length ≤ 96 := by
  have hn : TW [] := by simp [TW]
  unfold vFill
  split
  · split
    · exact ⟨hn, Nat.zero_le _⟩
    · split
      · rename_i h
        exact ⟨fillK_w hW (Nat.le_refl _), h⟩
      · exact ⟨hn, Nat.zero_le _⟩
  · exact ⟨hn, Nat.zero_le _⟩

end Go.Proofs.Ytlffcpoooaoneaa
