/-
  FnSent's lists and numbers: a cell lies in a jam where it is fuller than the best share; how far a queue reaches; what a road sends and takes on either side of its best share.
  No Go text in it. Conditions: those of each theorem.
-/
import Derived.Test.YtcnbccjkcaoflaaPairs
import Derived.Test.YtcnbccjkcaoflaaQueueOf
namespace Go.Proofs.Ytcnbccjkcaoflaa
open Go Go.RowKit
set_option maxRecDepth 100000

/-- cell i lies in one of the first n jams -/
def inJ (xs : List Nat) (i : Nat) : Nat → Bool
  | 0 => false
  | n + 1 => inJ xs i n || (decide (nth xs (2 * n) ≤ i) && decide (i ≤ nth xs (2 * n + 1)))

theorem inJ_iff (xs : List Nat) (i : Nat) : ∀ n, inJ xs i n = true ↔ ∃ q, q < n ∧ nth xs (2 * q) ≤ i ∧ i ≤ nth xs (2 * q + 1)
  | 0 => by simp [inJ]
  | n + 1 => by
    unfold inJ
    rw [Bool.or_eq_true, Bool.and_eq_true, decide_eq_true_iff, decide_eq_true_iff, inJ_iff xs i n]
    constructor
    · rintro (⟨q, hq, h⟩ | h)
      · exact ⟨q, by omega, h⟩
      · exact ⟨n, by omega, h⟩
    · rintro ⟨q, hq, h⟩
      by_cases c : q = n
      · subst c; exact Or.inr h
      · exact Or.inl ⟨q, by omega, h⟩

theorem nth_setJ {xs : List Nat} {i j y : Nat} (hi : i < xs.length) : nth (xs.set i y) j = if i = j then y else nth xs j := by
  unfold nth
  rw [List.getD_eq_getElem?_getD, List.getD_eq_getElem?_getD, List.getElem?_set]
  by_cases c : i = j
  · rw [if_pos c, if_pos c, if_pos hi]; rfl
  · rw [if_neg c, if_neg c]

theorem nth_appJ (xs ys : List Nat) (j : Nat) : nth (xs ++ ys) j = if j < xs.length then nth xs j else nth ys (j - xs.length) := by
  unfold nth
  rw [List.getD_eq_getElem?_getD, List.getD_eq_getElem?_getD, List.getD_eq_getElem?_getD]
  by_cases c : j < xs.length
  · rw [if_pos c, List.getElem?_append_left c]
  · rw [if_neg c, List.getElem?_append_right (by omega)]

/-- the jams of the first k cells are these cells' fuller ones -/
structure JamOk (best : Nat) (cs : List Nat) (k : Nat) (xs : List Nat) (n : Nat) : Prop where
  len : xs.length = 2 * n
  ord : ∀ q, q < n → nth xs (2 * q) ≤ nth xs (2 * q + 1) ∧ nth xs (2 * q + 1) < k
  mem : ∀ i, (∃ q, q < n ∧ nth xs (2 * q) ≤ i ∧ i ≤ nth xs (2 * q + 1)) ↔ i < k ∧ best < nth cs i

theorem jam_ok (best : Nat) (cs : List Nat) : ∀ k, ∃ n, JamOk best cs k (jf best cs k) n
  | 0 => ⟨0, rfl, fun q h => by omega, fun i => ⟨fun ⟨q, h, _⟩ => by omega, fun h => by omega⟩⟩
  | k + 1 => by
    obtain ⟨n, h⟩ := jam_ok best cs k
    by_cases c : nth cs k ≤ best
    · rw [jf_free c]
      refine ⟨n, h.len, fun q hq => ⟨(h.ord q hq).1, by have := (h.ord q hq).2; omega⟩, fun i => ?_⟩
      rw [h.mem i]
      constructor
      · rintro ⟨h1, h2⟩; exact ⟨by omega, h2⟩
      · rintro ⟨h1, h2⟩
        refine ⟨?_, h2⟩
        by_cases e : i = k
        · subst e; omega
        · omega
    · by_cases c2 : (jf best cs k).length ≠ 0 ∧ nth (jf best cs k) ((jf best cs k).length - 1) + 1 = k
      · rw [jf_more c c2]
        have hl := h.len
        have hn : n ≠ 0 := by intro e; subst e; exact c2.1 hl
        obtain ⟨m, rfl⟩ : ∃ m, n = m + 1 := ⟨n - 1, by omega⟩
        have he : (jf best cs k).length - 1 = 2 * m + 1 := by omega
        rw [he] at c2 ⊢
        have ho := h.ord m (by omega)
        generalize jf best cs k = xs at *
        have hset : ∀ j, nth (xs.set (2 * m + 1) k) j = if 2 * m + 1 = j then k else nth xs j := fun j => nth_setJ (by omega)
        refine ⟨m + 1, by rw [List.length_set]; exact hl, fun q hq => ?_, fun i => ?_⟩
        · rw [hset, hset]
          by_cases e : q = m
          · subst e; rw [if_neg (by omega), if_pos rfl]; omega
          · have := h.ord q (by omega)
            rw [if_neg (by omega), if_neg (by omega)]; omega
        · constructor
          · rintro ⟨q, hq, h1, h2⟩
            rw [hset] at h1 h2
            rw [if_neg (by omega)] at h1
            by_cases e : q = m
            · subst e
              rw [if_pos rfl] at h2
              by_cases e2 : i = k
              · subst e2; exact ⟨by omega, by omega⟩
              · have := (h.mem i).1 ⟨q, hq, h1, by omega⟩
                exact ⟨by omega, this.2⟩
            · rw [if_neg (by omega)] at h2
              have := (h.mem i).1 ⟨q, hq, h1, h2⟩
              exact ⟨by omega, this.2⟩
          · rintro ⟨h1, h2⟩
            by_cases e2 : i = k
            · subst e2
              exact ⟨m, by omega, by rw [hset, if_neg (by omega)]; omega, by rw [hset, if_pos rfl]; omega⟩
            · obtain ⟨q, hq, h3, h4⟩ := (h.mem i).2 ⟨by omega, h2⟩
              refine ⟨q, hq, by rw [hset, if_neg (by omega)]; exact h3, ?_⟩
              rw [hset]
              split
              · omega
              · exact h4
      · rw [jf_new c c2]
        have hl := h.len
        generalize jf best cs k = xs at *
        have happ : ∀ j, nth (xs ++ [k, k]) j = if j < 2 * n then nth xs j else nth [k, k] (j - 2 * n) := fun j => by rw [nth_appJ, hl]
        have hk0 : nth (xs ++ [k, k]) (2 * n) = k := by rw [happ, if_neg (by omega), Nat.sub_self]; rfl
        have hk1 : nth (xs ++ [k, k]) (2 * n + 1) = k := by rw [happ, if_neg (by omega), Nat.add_sub_cancel_left]; rfl
        refine ⟨n + 1, by rw [List.length_append, hl]; rfl, fun q hq => ?_, fun i => ?_⟩
        · by_cases e : q = n
          · subst e; rw [hk0, hk1]; omega
          · have := h.ord q (by omega)
            rw [happ, happ, if_pos (by omega), if_pos (by omega)]; omega
        · constructor
          · rintro ⟨q, hq, h1, h2⟩
            by_cases e : q = n
            · subst e
              rw [hk0] at h1; rw [hk1] at h2
              obtain rfl : i = k := by omega
              exact ⟨by omega, by omega⟩
            · rw [happ, if_pos (by omega)] at h1 h2
              have := (h.mem i).1 ⟨q, by omega, h1, h2⟩
              exact ⟨by omega, this.2⟩
          · rintro ⟨h1, h2⟩
            by_cases e2 : i = k
            · subst e2
              exact ⟨n, by omega, by rw [hk0]; omega, by rw [hk1]; omega⟩
            · obtain ⟨q, hq, h3, h4⟩ := (h.mem i).2 ⟨by omega, h2⟩
              exact ⟨q, by omega, by rw [happ, if_pos (by omega)]; exact h3, by rw [happ, if_pos (by omega)]; exact h4⟩

/-- a cell lies in a jam where it is fuller than the best share -/
theorem jam_in (best : Nat) (cs : List Nat) : ∃ n, (jf best cs 16).length = 2 * n ∧ ∀ i, i < 16 → inJ (jf best cs 16) i n = decide (best < nth cs i) := by
  obtain ⟨n, h⟩ := jam_ok best cs 16
  refine ⟨n, h.len, fun i hi => ?_⟩
  rw [Bool.eq_iff_iff, inJ_iff, h.mem i, decide_eq_true_iff]
  exact ⟨fun h => h.2, fun h => ⟨hi, h⟩⟩

/-- no jam, no cell fuller -/
theorem jam_none (best : Nat) (cs : List Nat) : (jf best cs 16).length = 0 ↔ ∀ i, i < 16 → nth cs i ≤ best := by
  obtain ⟨n, h⟩ := jam_ok best cs 16
  constructor
  · intro e i hi
    rcases Nat.lt_or_ge best (nth cs i) with c | c
    · obtain ⟨q, hq, -⟩ := (h.mem i).2 ⟨hi, c⟩
      have := h.len; omega
    · exact c
  · intro e
    rcases Nat.eq_zero_or_pos n with c | c
    · subst c; exact h.len
    · have ho := h.ord 0 c
      have := (h.mem (nth (jf best cs 16) (2 * 0))).1 ⟨0, c, Nat.le_refl _, ho.1⟩
      have := e _ this.1
      omega

/-- the queue: all of its cells are fuller, the one ahead of it is not -/
theorem queue_ok (cs : List Nat) (best : Nat) : ∀ f, f ≤ 16 → (∀ i, f ≤ i → i < 16 → best < nth cs i) → qW cs best f ≤ 16 ∧ (∀ i, 16 - qW cs best f ≤ i → i < 16 → best < nth cs i) ∧ (qW cs best f < 16 → ¬ best < nth cs (15 - qW cs best f))
  | 0, _, h => ⟨Nat.le_refl _, fun i h1 h2 => h i (by omega) h2, fun h => by unfold qW at h; omega⟩
  | f + 1, hf, h => by
    by_cases c : best < nth cs f
    · rw [qW_yes c]
      exact queue_ok cs best f (by omega) fun i h1 h2 => by
        by_cases e : i = f
        · subst e; exact c
        · exact h i (by omega) h2
    · rw [qW_no c]
      refine ⟨by omega, fun i h1 h2 => h i (by omega) h2, fun _ => ?_⟩
      rw [show 15 - (15 - f) = f from by omega]
      exact c

theorem queue_all (cs : List Nat) (best : Nat) : queueW cs best ≤ 16 ∧ (∀ i, 16 - queueW cs best ≤ i → i < 16 → best < nth cs i) ∧ (queueW cs best < 16 → ¬ best < nth cs (15 - queueW cs best)) :=
  queue_ok cs best 16 (Nat.le_refl _) fun i h1 h2 => by omega

end Go.Proofs.Ytcnbccjkcaoflaa
