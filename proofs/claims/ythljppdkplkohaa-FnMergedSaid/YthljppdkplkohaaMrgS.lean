/-
  WHAT GOES OF ONE STREAM, in sixteenths: what a way is sent is at most what it takes, nearly; one way is full, or all goes.
  No Go text in it. Conditions: those of each theorem.
-/
import Derived.Test.YthljppdkplkohaaMrgN
import Derived.Test.YthljppdkplkohaaSplit
namespace Go.Proofs.Ythljppdkplkohaa
open Go Go.RowKit
set_option maxRecDepth 100000

theorem spl_below (xs ys : List Nat) (s : Nat) : ∀ k j, j < k → 0 < nth ys j → splW xs ys s k ≤ divB (nth xs j) (nth ys j)
  | 0, j, h, _ => by omega
  | k + 1, j, h, hp => by
    unfold splW
    by_cases c : j = k
    · subst c
      rw [if_pos hp]
      exact Nat.min_le_right _ _
    · have := spl_below xs ys s k j (by omega) hp
      split
      · exact Nat.le_trans (Nat.min_le_left _ _) this
      · exact this

theorem spl_pick (xs ys : List Nat) (s : Nat) : ∀ k, splW xs ys s k = s ∨ ∃ j, j < k ∧ 0 < nth ys j ∧ splW xs ys s k = divB (nth xs j) (nth ys j)
  | 0 => Or.inl rfl
  | k + 1 => by
    unfold splW
    by_cases c : 0 < nth ys k
    · rw [if_pos c]
      rcases Nat.lt_or_ge (splW xs ys s k) (divB (nth xs k) (nth ys k)) with h | h
      · rw [Nat.min_eq_left (Nat.le_of_lt h)]
        rcases spl_pick xs ys s k with e | ⟨j, hj, hp, e⟩
        · exact Or.inl e
        · exact Or.inr ⟨j, by omega, hp, e⟩
      · rw [Nat.min_eq_right h]
        exact Or.inr ⟨k, by omega, c, rfl⟩
    · rw [if_neg c]
      rcases spl_pick xs ys s k with e | ⟨j, hj, hp, e⟩
      · exact Or.inl e
      · exact Or.inr ⟨j, by omega, hp, e⟩

theorem mul_mono {x y u : Nat} (h : x ≤ y) (hy : y < 2139095040) (hu : u < 2139095040) : mulB x u ≤ mulB y u := by
  rw [(mul_eq (by omega : x < 2139095040) hu).2, (mul_eq hy hu).2]
  have hr : rv 23 x ≤ rv 23 y := by
    rcases Nat.lt_or_ge x y with c | c
    · exact Nat.le_of_lt (rv_lt c)
    · obtain rfl : x = y := by omega
      exact Nat.le_refl _
  have := RU_mono 23 149 (Nat.mul_le_mul_right (rv 23 u) hr)
  omega

theorem qs_pos : ∀ u, u < 17 → 0 < qs u → 1 ≤ u := by decide +kernel

/-- how far two amounts are apart -/
def farB (x y : Nat) : Nat := if y ≤ x then subB x y else subB y x

/-- a thousandth at most -/
def nearB (x y : Nat) : Bool := decide (farB x y ≤ 981668463)

/-- a quotient of sixteenths, times what it was divided by, is near what was divided -/
theorem quo_near : ∀ t, t < 33 → ∀ u, u < 16 → divB (qs t) (qs (u + 1)) < 2139095040 ∧ mulB (divB (qs t) (qs (u + 1))) (qs (u + 1)) ≤ addB (qs t) 981668463 ∧ nearB (mulB (divB (qs t) (qs (u + 1))) (qs (u + 1))) (qs t) = true := by decide +kernel

theorem near_self {x : Nat} (h : x < 2139095040) : nearB x x = true := by
  have hf : finB x = true := by unfold finB; rw [Nat.mod_eq_of_lt (by omega)]; exact decide_eq_true h
  have := sub_self_fin (x := x) (by omega) hf
  have e : subB x x = 0 := by
    unfold subB
    have h2 : S32.sub x x = some 0 := this
    rw [h2]; rfl
  unfold nearB farB
  rw [if_pos (Nat.le_refl _), e]; rfl

/-- all goes, or a way is full, k ways looked at -/
def tgB (m a : Nat) (us ts : List Nat) : Nat → Bool
  | 0 => decide (m = a)
  | k + 1 => tgB m a us ts k || (decide (0 < nth us k) && nearB (mulB m (nth us k)) (nth ts k))

theorem tg_zero {m a : Nat} {us ts : List Nat} (h : m = a) : ∀ k, tgB m a us ts k = true
  | 0 => decide_eq_true h
  | k + 1 => by unfold tgB; rw [tg_zero h k]; rfl

theorem tg_way {m a : Nat} {us ts : List Nat} {j : Nat} (hp : 0 < nth us j) (hn : nearB (mulB m (nth us j)) (nth ts j) = true) : ∀ k, j < k → tgB m a us ts k = true
  | 0, h => by omega
  | k + 1, h => by
    unfold tgB
    by_cases c : j = k
    · subst c; rw [decide_eq_true hp, hn]; cases tgB m a us ts j <;> rfl
    · rw [tg_way hp hn k (by omega)]; rfl

/-- what the law asks of the ways -/
structure Way4 (m a : Nat) (us ts : List Nat) : Prop where
  le : m ≤ a
  fit : ∀ k, k < 4 → 0 < nth us k → mulB m (nth us k) ≤ addB (nth ts k) 981668463
  tight : tgB m a us ts 4 = true

theorem split_good {i : Nat} {us ts : List Nat} (hi : i < 33) (hu : ∀ k, k < 4 → ∃ a, a ≤ 16 ∧ nth us k = qs a) (ht : ∀ k, k < 4 → ∃ a, a ≤ 32 ∧ nth ts k = qs a) :
    vSplit (qs i) ts us = (splW ts us (qs i) 4, 0) ∧ Way4 (splW ts us (qs i) 4) (qs i) us ts := by
  have hok : okSplit (qs i) ts us = true := by
    rw [← sokTo_ok]
    unfold sokTo amtB shrB
    rw [decide_eq_true (qs_lt i hi), Bool.true_and]
    refine List.all_eq_true.2 fun n hn => ?_
    have hn4 := List.mem_range.1 hn
    obtain ⟨a, ha, e⟩ := ht n hn4
    obtain ⟨b, hb', e'⟩ := hu n hn4
    rw [e, e', decide_eq_true (qs_lt a (by omega)), decide_eq_true (qs_shr b (by omega))]; rfl
  refine ⟨by unfold vSplit; rw [if_pos hok], splW_le _ _ _ _, fun k hk hp => ?_, ?_⟩
  · obtain ⟨t, ht', e⟩ := ht k hk
    obtain ⟨u, hu', e'⟩ := hu k hk
    have hb' := spl_below ts us (qs i) 4 k hk hp
    rw [e, e'] at hb'
    rw [e'] at hp
    have hu1 := qs_pos u (by omega) hp
    have hq := quo_near t (by omega) (u - 1) (by omega)
    rw [show u - 1 + 1 = u from by omega] at hq
    rw [e, e']
    exact Nat.le_trans (mul_mono hb' hq.1 (qs_lt u (by omega))) hq.2.1
  · rcases spl_pick ts us (qs i) 4 with h | ⟨j, hj, hp, h⟩
    · exact tg_zero h 4
    · obtain ⟨t, ht', e⟩ := ht j hj
      obtain ⟨u, hu', e'⟩ := hu j hj
      have hp2 := hp
      rw [e'] at hp2
      have hu1 := qs_pos u (by omega) hp2
      have hq := quo_near t (by omega) (u - 1) (by omega)
      rw [show u - 1 + 1 = u from by omega] at hq
      refine tg_way (j := j) hp ?_ 4 hj
      rw [h, e, e']
      exact hq.2.2

end Go.Proofs.Ythljppdkplkohaa
