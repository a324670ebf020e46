/-
  FnSent's numbers: on a road whose pace and back are sixteenths, a cell up to the best share sends as the pace says, one from it on takes as the back says, nearly.
  No Go text in it. Conditions: those of each theorem.
-/
import Derived.Test.YtcnbccjkcaoflaaDrawnQ
import Derived.Test.YtcnbccjkcaoflaaFlow
namespace Go.Proofs.Ytcnbccjkcaoflaa
open Go Go.RowKit
set_option maxRecDepth 100000

theorem best_tab : ∀ m, m < 16 → ∀ n, n < 16 → (0 < bestW (qs (m + 1)) (qs (n + 1)) ∧ bestW (qs (m + 1)) (qs (n + 1)) < 1065353216) ∧ (mulB (qs (n + 1)) (subB 1065353216 (bestW (qs (m + 1)) (qs (n + 1)))) ≤ mostW (qs (m + 1)) (qs (n + 1)) ∨ subB (mulB (qs (n + 1)) (subB 1065353216 (bestW (qs (m + 1)) (qs (n + 1))))) (mostW (qs (m + 1)) (qs (n + 1))) ≤ 953267991) := by decide +kernel

theorem rv_le2 {x y : Nat} (h : x ≤ y) : rv 23 x ≤ rv 23 y := by
  rcases Nat.lt_or_ge x y with c | c
  · exact Nat.le_of_lt (rv_lt c)
  · obtain rfl : x = y := by omega
    exact Nat.le_refl _

theorem mul_monoQ {x y u : Nat} (h : x ≤ y) (hy : y < 2139095040) (hu : u < 2139095040) : mulB u x ≤ mulB u y := by
  rw [(mul_eq hu (by omega : x < 2139095040)).2, (mul_eq hu hy).2]
  have := RU_mono 23 149 (Nat.mul_le_mul_left (rv 23 u) (rv_le2 h))
  omega

theorem sub_monoL {x y u : Nat} (h : u ≤ x) (h2 : x ≤ y) (hy : y < 2139095040) : subB x u ≤ subB y u := by
  rw [(sub_eq (by omega : x < 2139095040) h).2, (sub_eq hy (by omega)).2]
  have := rv_le2 h2
  have := RU_mono 23 0 (show rv 23 x - rv 23 u ≤ rv 23 y - rv 23 u by omega)
  omega

theorem sub_monoR {x y u : Nat} (h : x ≤ y) (h2 : y ≤ u) (hu : u < 2139095040) : subB u y ≤ subB u x := by
  rw [(sub_eq hu h2).2, (sub_eq hu (by omega)).2]
  have := rv_le2 h
  have := RU_mono 23 0 (show rv 23 u - rv 23 y ≤ rv 23 u - rv 23 x by omega)
  omega

theorem sends_near {p b a : Nat} (hp : p < 2139095040) (h : a ≤ bestW p b) (hb : bestW p b < 2139095040) : sendsW p b a = mulB p a := by
  unfold sendsW mostW
  exact Nat.min_eq_left (mul_monoQ h hb hp)

theorem takes_near {p b a : Nat} (hp : QP p) (hb : QP b) (hbl : b ≤ 1065353216) (ha : a ≤ 1065353216) (h : bestW p b ≤ a) :
    takesW p b a ≤ mulB b (subB 1065353216 a) ∧ subB (mulB b (subB 1065353216 a)) (takesW p b a) ≤ 953267991 := by
  have h1 : subB 1065353216 a ≤ subB 1065353216 (bestW p b) := sub_monoR h ha (by omega)
  have h2 : subB 1065353216 (bestW p b) ≤ 1065353216 := sub_le (by omega) (by omega)
  have h3 : mulB b (subB 1065353216 a) ≤ mulB b (subB 1065353216 (bestW p b)) := mul_monoQ h1 (by omega) (by omega)
  have h4 : mulB b (subB 1065353216 (bestW p b)) ≤ subB 1065353216 (bestW p b) := mul_share hbl (by omega)
  have ht : (0 < bestW p b ∧ bestW p b < 1065353216) ∧ (mulB b (subB 1065353216 (bestW p b)) ≤ mostW p b ∨ subB (mulB b (subB 1065353216 (bestW p b))) (mostW p b) ≤ 953267991) := by
    obtain ⟨m, hm, rfl⟩ := hp
    obtain ⟨n, hn, rfl⟩ := hb
    exact best_tab m hm n hn
  have hz : ∀ x, x < 2139095040 → subB x x = 0 := fun x hx => by
    rw [(sub_eq hx (Nat.le_refl _)).2, Nat.sub_self]; decide +kernel
  unfold takesW
  rcases Nat.le_total (mulB b (subB 1065353216 a)) (mostW p b) with c | c
  · rw [Nat.min_eq_left c]
    exact ⟨Nat.le_refl _, by rw [hz _ (by omega)]; omega⟩
  · rw [Nat.min_eq_right c]
    refine ⟨c, ?_⟩
    rcases ht.2 with t | t
    · have e : mulB b (subB 1065353216 a) = mostW p b := by omega
      rw [e, hz _ (by omega)]; omega
    · exact Nat.le_trans (sub_monoL c h3 (by omega)) t

end Go.Proofs.Ytcnbccjkcaoflaa
