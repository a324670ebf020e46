/-
  MERGING: the middle one of three numbers, of which one may be below 0.
-/
import Derived.Test.YtcnbccjkcaoflaaG3
import Derived.Test.YtcnbccjkcaoflaaArith
namespace Go.Proofs.Ytcnbccjkcaoflaa
open Go Go.RowKit
set_option maxRecDepth 100000

/-- a difference of amounts, below 0 too -/
def dW (t b : Nat) : Nat := if b ≤ t then subB t b else 2147483648 + subB b t
theorem sub_pos {x y : Nat} (hx : x < 2139095040) (hy : y < x) : 0 < subB x y ∧ subB x y < 2139095040 := by
  have h1 := (sub_eq hx (Nat.le_of_lt hy)).2
  have h2 := sub_le hx (Nat.le_of_lt hy)
  have h3 : 1 ≤ RU 23 (rv 23 x - rv 23 y) 0 := by
    refine le_RU ?_
    have := rv_lt (p := 23) hy
    have e : rv 23 1 = 1 := by decide
    rw [e]
    omega
  exact ⟨by rw [h1]; omega, by omega⟩
theorem sub_any {t b : Nat} (ht : t < 2139095040) (hb : b < 2139095040) : floatBits .sub .f32 t b = some (dW t b) := by
  unfold dW
  by_cases c : b ≤ t
  · rw [if_pos c]; exact (sub_eq ht c).1
  · rw [if_neg c]
    have h1 := (sub_eq hb (show t ≤ b by omega)).2
    have := sub_fin S32 false false (r := t) (q := b) (by rw [s_inf]; omega) (by rw [s_inf]; omega)
    rw [word_false, word_false] at this
    show S32.sub t b = _
    rw [this, h1]
    congr 1
    unfold roundInt
    have hlt := rv_lt (p := 23) (show t < b by omega)
    have e1 : sg false (rv S32.fractionBits t) - sg false (rv S32.fractionBits b) = -((rv 23 b - rv 23 t : Nat) : Int) := by
      show ((rv 23 t : Nat) : Int) - ((rv 23 b : Nat) : Int) = _
      omega
    rw [e1, if_neg (by omega), decide_eq_true (by omega), word_true, s_sw, Int.natAbs_neg, Int.natAbs_natCast, s_inf, s_fb]
def midW (a d m : Nat) : Nat := if ltB d a then (if ltB m d then d else if ltB m a then m else a) else (if ltB m a then a else if ltB m d then m else d)
theorem ltB_amt {x y : Nat} (hx : x ≤ 2139095040) (hy : y ≤ 2139095040) : ltB x y = decide (x < y) := lt_amt hx hy
theorem ltB_negL {r y : Nat} (hr : r < 2139095040) (h0 : 0 < r) (hy : y ≤ 2139095040) : ltB (2147483648 + r) y = true := by
  unfold ltB; rw [order_neg (Nat.le_of_lt hr) h0 hy]; rfl
theorem order_over {r y : Nat} (hr : r < 2139095040) (h0 : 0 < r) (hy : y ≤ 2139095040) : FloatKind.f32.format.order y (2147483648 + r) = some .gt := by
  show S32.order y (2147483648 + r) = _
  by_cases cy : y = 2139095040
  · subst cy
    obtain ⟨m, i, h1, -, -⟩ := read_fin S32 true (r := r) (by rw [s_inf]; omega)
    rw [word_true, s_sw] at h1
    unfold Ieee.Format.order; rw [read_inf_pos, h1]; rfl
  · have := order_fin S32 false true (r := y) (q := r) (by rw [s_inf]; omega) (by rw [s_inf]; omega)
    rw [word_true, word_false, s_sw] at this
    rw [this]
    have hp := rv_pos (p := S32.fractionBits) h0
    rw [Int.compare_eq_gt.2]
    show -((rv S32.fractionBits r : Nat) : Int) < ((rv S32.fractionBits y : Nat) : Int)
    omega
theorem ltB_negR {r y : Nat} (hr : r < 2139095040) (h0 : 0 < r) (hy : y ≤ 2139095040) : ltB y (2147483648 + r) = false := by
  unfold ltB; rw [order_over hr h0 hy]; rfl
/-- what is told of the three numbers: amounts, but for the difference -/
structure Mid (a d m t : Nat) : Prop where
  num : Num a ∧ Num d ∧ Num m
  mid : midW a d m ≤ t
  sorted : nth (srt [a, d, m]) 1 = midW a d m
theorem num_amt {x : Nat} (h : x ≤ 2139095040) : Num x := nan_le h (by omega)
theorem mid_facts {a b t s : Nat} (ha : a < 2139095040) (hb : b < 2139095040) (ht : t < 2139095040) (hs : s ≤ 1065353216) : Mid a (dW t b) (mulB s t) t := by
  have hm : mulB s t ≤ t := mul_share hs ht
  by_cases c : b ≤ t
  · have ed : dW t b = subB t b := by unfold dW; rw [if_pos c]
    have hd : subB t b ≤ t := sub_le ht c
    rw [ed]
    have l1 := ltB_amt (x := subB t b) (y := a) (by omega) (by omega)
    have l2 := ltB_amt (x := mulB s t) (y := subB t b) (by omega) (by omega)
    have l3 := ltB_amt (x := mulB s t) (y := a) (by omega) (by omega)
    generalize subB t b = d at *
    generalize mulB s t = m at *
    refine ⟨⟨num_amt (by omega), num_amt (by omega), num_amt (by omega)⟩, ?_, ?_⟩
    · unfold midW; rw [l1, l2, l3]
      by_cases c1 : d < a <;> by_cases c2 : m < d <;> by_cases c3 : m < a <;> simp [c1, c2, c3] <;> omega
    · unfold midW srt
      by_cases c1 : d < a <;> by_cases c2 : m < d <;> by_cases c3 : m < a <;> first | omega | (simp [insF, swp, nth, l1, l2, l3, c1, c2, c3])
  · have ed : dW t b = 2147483648 + subB b t := by unfold dW; rw [if_neg c]
    obtain ⟨h0, h1⟩ := sub_pos hb (show t < b by omega)
    rw [ed]
    have l1 := ltB_negL h1 h0 (y := a) (by omega)
    have l2 := ltB_negR h1 h0 (y := mulB s t) (by omega)
    have l3 := ltB_amt (x := mulB s t) (y := a) (by omega) (by omega)
    generalize subB b t = r at *
    generalize mulB s t = m at *
    refine ⟨⟨num_amt (by omega), ⟨by omega, ?_⟩, num_amt (by omega)⟩, ?_, ?_⟩
    · unfold nanB; exact decide_eq_false (by omega)
    · unfold midW; rw [l1, l2, l3]
      by_cases c3 : m < a <;> simp [c3] <;> omega
    · unfold midW srt
      by_cases c3 : m < a <;> simp [insF, swp, nth, l1, l2, l3, c3]
def okMerge (a b t s : Nat) : Bool := amtB a && amtB b && amtB t && shrB s
def vMerge (a b t s : Nat) : Nat × Nat × Int := if okMerge a b t s then (if addB a b ≤ t then (a, b, 0) else (midW a (dW t b) (mulB s t), subB t (midW a (dW t b) (mulB s t)), 0)) else (0, 0, 2)
theorem okMerge_amt {a b t s : Nat} (h : okMerge a b t s = true) : a < 2139095040 ∧ b < 2139095040 ∧ t < 2139095040 ∧ s ≤ 1065353216 := by
  unfold okMerge amtB shrB at h; simp at h; exact ⟨h.1.1.1, h.1.1.2, h.1.2, h.2⟩
theorem vMerge_good (a b t s : Nat) : ((vMerge a b t s).1 < 4294967296 ∧ nanB (vMerge a b t s).1 = false) ∧ (vMerge a b t s).2.1 < 4294967296 ∧ nanB (vMerge a b t s).2.1 = false := by
  unfold vMerge
  split
  · rename_i h
    obtain ⟨h1, h2, h3, h4⟩ := okMerge_amt h
    have M := mid_facts h1 h2 h3 h4
    split
    · exact ⟨nan_le (Nat.le_of_lt h1) (by omega), nan_le (Nat.le_of_lt h2) (by omega)⟩
    · exact ⟨nan_le (Nat.le_trans M.mid (Nat.le_of_lt h3)) (by omega), nan_le (Nat.le_trans (sub_le h3 M.mid) (Nat.le_of_lt h3)) (by omega)⟩
  · exact ⟨⟨by decide, by decide⟩, by decide, by decide⟩

end Go.Proofs.Ytcnbccjkcaoflaa
