/-
  THE FACTS OF FnIncidents, in numbers.
-/
import Derived.Test.YtejbaoakpkpciaaInc
import Derived.Test.YtejbaoakpkpciaaG2
import Derived.Test.YtejbaoakpkpciaaG8
import Derived.Test.YtejbaoakpkpciaaDrwT
namespace Go.Proofs.Ytejbaoakpkpciaa
open Go Go.RowKit
set_option maxRecDepth 100000

theorem kF_eq {ys : Ts} {t : Int} : ∀ r i j, kF ys t i r = some j → tn ys j = t ∧ i ≤ j
  | 0, i, j, h => by cases h
  | r + 1, i, j, h => by
    by_cases c : tn ys i = t
    · rw [kF_hit c] at h; cases h; exact ⟨c, Nat.le_refl _⟩
    · rw [kF_miss c] at h
      have := kF_eq r (i + 1) j h
      exact ⟨this.1, by omega⟩

theorem up_lt {ys : Ts} (hA : ∀ i, i + 1 < ys.length → tn ys i < tn ys (i + 1)) : ∀ j i, i < j → j < ys.length → tn ys i < tn ys j
  | 0, i, h, _ => by omega
  | j + 1, i, h, hj => by
    have h1 := hA j hj
    by_cases c : i = j
    · subst c; exact h1
    · have := up_lt hA j i (by omega) (by omega)
      omega

theorem up_inj {ys : Ts} (hA : ∀ i, i + 1 < ys.length → tn ys i < tn ys (i + 1)) {i j : Nat} (hi : i < ys.length) (hj : j < ys.length) (h : tn ys i = tn ys j) : i = j := by
  rcases Nat.lt_trichotomy i j with c | c | c
  · have := up_lt hA j i c hj; omega
  · exact c
  · have := up_lt hA i j c hi; omega

theorem prsN_eq {xs ys : Ts} : ∀ m k, k + m = xs.length → ∀ q ∈ prsN xs ys k m, tn ys q.2 = tn xs q.1
  | 0, _, _, q, hq => by cases hq
  | m + 1, k, h, q, hq => by
    cases e : kF ys (tn xs k) 0 ys.length with
    | none => rw [prsN_none e] at hq; exact prsN_eq m (k + 1) (by omega) q hq
    | some j =>
      rw [prsN_some e] at hq
      rcases List.mem_cons.1 hq with rfl | hq
      · exact (kF_eq _ _ _ e).1
      · exact prsN_eq m (k + 1) (by omega) q hq

theorem subB_self {x : Nat} (h : x < 2139095040) : subB x x = 0 := by
  have hf : finB x = true := by unfold finB; simp; omega
  have := sub_self_fin (x := x) (by omega) hf
  have e : floatBits .sub .f32 x x = S32.sub x x := rfl
  rw [e] at this
  unfold subB
  rw [this]; rfl

/-- with itself, a list has no incident -/
theorem inc_self {xs : Ts} (hok : okT xs = true) : vInc xs xs 1065353216 0 1 = (0, 6) := by
  rw [vInc_0 hok hok (by decide) (by decide) (by decide)]
  have hA := okT_up hok
  have key : ∀ l : List (Nat × Nat), (∀ q ∈ l, q.1 < xs.length ∧ q.2 < xs.length ∧ tn xs q.2 = tn xs q.1) → incL xs xs 1065353216 0 1 l 0 = (0, 6) := by
    intro l
    induction l with
    | nil => intro _; rfl
    | cons q r ih =>
      intro h
      have hq := h q (by simp)
      have e : q.2 = q.1 := up_inj hA hq.2.1 hq.1 hq.2.2
      have hd : dW xs xs q.1 q.2 = 0 := by
        unfold dW
        rw [e]
        exact subB_self (by have := fW_le hok hq.1; omega)
      have hn : nowI xs xs 1065353216 0 q.1 q.2 0 = 0 := nowI_no1 (by rw [hd]; decide)
      rw [incL_on (by rw [hn]; decide), hn]
      exact ih (fun q hq => h q (by simp [hq]))
  refine key _ (fun q hq => ?_)
  have h1 := prsN_at xs.length 0 (by omega) q hq
  exact ⟨h1.1, h1.2, prsN_eq xs.length 0 (by omega) q hq⟩

/-- what is told is a turn that both lists have, or nothing -/
theorem inc_both {xs ys : Ts} {a s : Nat} {tm : Int} (h : okT xs = true) (h' : okT ys = true) (h2 : amtB a = true) (h3 : shrB s = true) (h4 : inB 1 96 tm = true) :
    vInc xs ys a s tm = (0, 6) ∨ ∃ i k, i < xs.length ∧ k < ys.length ∧ tn ys k = tn xs i ∧ vInc xs ys a s tm = (tn xs i, 0) := by
  rw [vInc_0 h h' h2 h3 h4]
  have key : ∀ (l : List (Nat × Nat)) (now : Int), (∀ q ∈ l, q.1 < xs.length ∧ q.2 < ys.length ∧ tn ys q.2 = tn xs q.1) → incL xs ys a s tm l now = (0, 6) ∨ ∃ i k, i < xs.length ∧ k < ys.length ∧ tn ys k = tn xs i ∧ incL xs ys a s tm l now = (tn xs i, 0) := by
    intro l
    induction l with
    | nil => intro _ _; exact .inl rfl
    | cons q r ih =>
      intro now hh
      by_cases c : nowI xs ys a s q.1 q.2 now = tm
      · have hq := hh q (by simp)
        exact .inr ⟨q.1, q.2, hq.1, hq.2.1, hq.2.2, incL_hit c⟩
      · rw [incL_on c]
        exact ih _ (fun q hq => hh q (by simp [hq]))
  refine key _ _ (fun q hq => ?_)
  have h1 := prsN_at xs.length 0 (by omega) q hq
  exact ⟨h1.1, h1.2, prsN_eq xs.length 0 (by omega) q hq⟩

/-- does the tally i tell what the one before told -/
def sameTl (xs : Ts) (i : Nat) : Bool := decide (0 < tc xs i) && (decide (tc xs i = tc xs (i - 1)) && decide (tf xs i = tf xs (i - 1)))

/-- does one of the first k, but the first -/
def sameK (xs : Ts) : Nat → Bool
  | 0 => false
  | k + 1 => sameK xs k || (decide (1 ≤ k) && sameTl xs k)

theorem sameK_one (xs : Ts) : sameK xs 1 = false := rfl

theorem sameK_next {xs : Ts} {k : Nat} (h : 1 ≤ k) : sameK xs (k + 1) = (sameK xs k || sameTl xs k) := by
  show (sameK xs k || (decide (1 ≤ k) && sameTl xs k)) = _
  rw [decide_eq_true h, Bool.true_and]

theorem firstHit_none {p : Nat → Bool} : ∀ n, (∀ k, k < n → p k = false) → firstHit p n = none
  | 0, _ => rfl
  | n + 1, h => firstHit_miss (firstHit_none n (fun k hk => h k (by omega))) (h n (by omega))

theorem firstHit_some {p : Nat → Bool} : ∀ n k, k < n → p k = true → ∃ j, j < n ∧ firstHit p n = some j ∧ firstHit p j = none ∧ p j = true
  | 0, k, h, _ => by omega
  | n + 1, k, h, hp => by
    cases e : firstHit p n with
    | none =>
      by_cases c : k = n
      · subst c
        exact ⟨k, by omega, firstHit_hit e hp (k + 1) (by omega), e, hp⟩
      · obtain ⟨j, hj, h1, h2, h3⟩ := firstHit_some n k (by omega) hp
        rw [e] at h1; cases h1
    | some j =>
      by_cases c : k < n
      · obtain ⟨j', hj, h1, h2, h3⟩ := firstHit_some n k c hp
        exact ⟨j', by omega, firstHit_hit h2 h3 (n + 1) (by omega), h2, h3⟩
      · by_cases d : ∃ i, i < n ∧ p i = true
        · obtain ⟨i, hi, hpi⟩ := d
          obtain ⟨j', hj, h1, h2, h3⟩ := firstHit_some n i hi hpi
          exact ⟨j', by omega, firstHit_hit h2 h3 (n + 1) (by omega), h2, h3⟩
        · have := firstHit_none (p := p) n (fun i hi => by
            cases hq : p i
            · rfl
            · exact absurd ⟨i, hi, hq⟩ d)
          rw [this] at e; cases e

theorem row_two {xs : Ts} : ∀ m, 2 ≤ rowS xs m → ∃ k, k < m ∧ rowS xs (k + 1) = 2
  | 0, h => by have : rowS xs 0 = 0 := rfl; omega
  | m + 1, h => by
    by_cases z : tc xs m = 0
    · rw [rowS_zero z] at h; omega
    · by_cases c : 0 < rowS xs m ∧ tc xs (m - 1) = tc xs m ∧ tf xs (m - 1) = tf xs m
      · rw [rowS_more z c] at h
        by_cases e : rowS xs m = 1
        · exact ⟨m, by omega, by rw [rowS_more z c, e]; rfl⟩
        · obtain ⟨k, hk, h1⟩ := row_two (xs := xs) m (by omega)
          exact ⟨k, by omega, h1⟩
      · rw [rowS_one z c] at h; omega

theorem row_same {xs : Ts} (hc : ∀ i, i < xs.length → 0 ≤ tc xs i) {k : Nat} (hk : k < xs.length) (h : rowS xs (k + 1) = 2) : 1 ≤ k ∧ sameTl xs k = true := by
  by_cases z : tc xs k = 0
  · rw [rowS_zero z] at h; omega
  · by_cases c : 0 < rowS xs k ∧ tc xs (k - 1) = tc xs k ∧ tf xs (k - 1) = tf xs k
    · rw [rowS_more z c] at h
      have hb := rowS_bd xs k
      have := hc k hk
      refine ⟨by omega, ?_⟩
      unfold sameTl
      rw [decide_eq_true (by omega : 0 < tc xs k), decide_eq_true c.2.1.symm, decide_eq_true c.2.2.symm]; rfl
    · rw [rowS_one z c] at h; omega

theorem sameK_yes {xs : Ts} : ∀ n i, 1 ≤ i → i < n → sameTl xs i = true → sameK xs n = true
  | 0, i, _, h, _ => by omega
  | n + 1, i, h1, h, hs => by
    show (sameK xs n || (decide (1 ≤ n) && sameTl xs n)) = true
    by_cases c : i = n
    · subst c; rw [hs, decide_eq_true h1]; simp
    · rw [sameK_yes n i h1 (by omega) hs]; rfl

theorem sameK_of {xs : Ts} : ∀ n, sameK xs n = true → ∃ i, 1 ≤ i ∧ i < n ∧ sameTl xs i = true
  | 0, h => by cases h
  | n + 1, h => by
    have h' : (sameK xs n || (decide (1 ≤ n) && sameTl xs n)) = true := h
    rw [Bool.or_eq_true, Bool.and_eq_true, decide_eq_true_eq] at h'
    rcases h' with h' | h'
    · obtain ⟨i, h1, h2, h3⟩ := sameK_of n h'
      exact ⟨i, h1, by omega, h3⟩
    · exact ⟨n, h'.1, by omega, h'.2⟩

/-- a detector is stuck just if it has told the same before -/
theorem stuck_same {xs : Ts} (hok : okT xs = true) : (sameK xs xs.length = true ∧ ∃ t, vStuck xs 2 = (t, 0)) ∨ (sameK xs xs.length = false ∧ vStuck xs 2 = (0, 6)) := by
  have hc : ∀ i, i < xs.length → 0 ≤ tc xs i := fun i hi => (okT_at hok hi).2.1
  have h2 : inB 1 96 2 = true := by decide
  by_cases d : ∃ k, k < xs.length ∧ rowS xs (k + 1) = 2
  · left
    obtain ⟨k, hk, h⟩ := d
    have hs := row_same hc hk h
    obtain ⟨j, hj, h1, h3, h4⟩ := firstHit_some (p := hitS xs 2) xs.length k hk (decide_eq_true h)
    exact ⟨sameK_yes _ k hs.1 hk hs.2, tn xs j, vStuck_0 hok h2 hj h3 (of_decide_eq_true h4)⟩
  · right
    refine ⟨?_, vStuck_6 hok h2 (firstHit_none _ (fun k hk => decide_eq_false (fun h => d ⟨k, hk, h⟩)))⟩
    cases e : sameK xs xs.length
    · rfl
    · exfalso
      obtain ⟨i, h1, h3, h4⟩ := sameK_of _ e
      unfold sameTl at h4
      simp only [Bool.and_eq_true, decide_eq_true_eq] at h4
      have hp := rowS_pos (xs := xs) (k := i) (by omega) (by omega)
      have := rowS_more (xs := xs) (k := i) (by omega) ⟨hp, h4.2.1.symm, h4.2.2.symm⟩
      obtain ⟨k, hk, hr⟩ := row_two (xs := xs) (i + 1) (by omega)
      exact d ⟨k, by omega, hr⟩

theorem keep_app {ys : Ts} {s : Int × Int × Int} {m : Int} {i : Nat} (hi : i < ys.length) : keepT (ys ++ [s]) m i = keepT ys m i := by
  unfold keepT tc tf
  rw [tl_app hi]

theorem keep_last {ys xs : Ts} {m : Int} {k : Nat} : keepT (ys ++ [at3 xs k]) m ys.length = keepT xs m k := by
  unfold keepT tc tf
  rw [tl_last]
  rfl

theorem wr_keep (xs : Ts) (m : Int) : ∀ k i, i < (wrL xs m k).length → keepT (wrL xs m k) m i = true
  | 0, i, h => by have : wrL xs m 0 = [] := rfl; rw [this] at h; simp at h
  | k + 1, i, h => by
    cases c : keepT xs m k
    · rw [wrL_no c] at h ⊢; exact wr_keep xs m k i h
    · rw [wrL_yes c] at h ⊢
      rw [List.length_append, List.length_singleton] at h
      by_cases e : i < (wrL xs m k).length
      · rw [keep_app e]; exact wr_keep xs m k i e
      · rw [show i = (wrL xs m k).length from by omega, keep_last]; exact c

/-- valid so far, and below u -/
structure UpT (ys : Ts) (u : Int) : Prop where
  ok : okTk ys ys.length = true
  up : ys = [] ∨ tn ys (ys.length - 1) < u

theorem UpT.more {ys : Ts} {u u' : Int} (h : UpT ys u) (hu : u ≤ u') : UpT ys u' := ⟨h.ok, h.up.imp id (fun e => by omega)⟩

theorem UpT.snoc {ys xs : Ts} {k : Nat} {u : Int} (h : UpT ys u) (hok : okT xs = true) (hk : k < xs.length) (hu : u ≤ tn xs k) : UpT (ys ++ [at3 xs k]) (tn xs k + 1) := by
  have ho := okT_at hok hk
  have e1 : tn (ys ++ [at3 xs k]) ys.length = tn xs k := by unfold tn; rw [tl_last]; rfl
  have e2 : tc (ys ++ [at3 xs k]) ys.length = tc xs k := by unfold tc; rw [tl_last]; rfl
  have e3 : tf (ys ++ [at3 xs k]) ys.length = tf xs k := by unfold tf; rw [tl_last]; rfl
  refine ⟨?_, .inr ?_⟩
  · rw [List.length_append, List.length_singleton]
    refine okTk_next (by rw [okTk_app _ (Nat.le_refl _)]; exact h.ok) (okOne_yes (by rw [e1]; exact ho.1) (by rw [e2]; exact ho.2.1) (by rw [e3]; exact ho.2.2.1.1) (by rw [e3]; exact ho.2.2.1.2) ?_)
    rcases h.up with e | e
    · left; rw [e]; rfl
    · by_cases z : ys.length = 0
      · exact .inl z
      · right
        rw [e1]
        unfold tn at e ⊢
        rw [tl_app (by omega)]
        show _ < tn xs k
        unfold tn at hu ⊢
        omega
  · rw [List.length_append, List.length_singleton, Nat.add_sub_cancel, e1]
    omega

theorem wr_up {xs : Ts} (hok : okT xs = true) (m : Int) : ∀ k, k ≤ xs.length → UpT (wrL xs m k) (if k = 0 then 0 else tn xs (k - 1) + 1)
  | 0, _ => ⟨rfl, .inl rfl⟩
  | k + 1, hk => by
    have h := wr_up hok m k (by omega)
    have h0 := okT_at hok (show k < xs.length by omega)
    have hu : (if k = 0 then 0 else tn xs (k - 1) + 1) ≤ tn xs k := by
      by_cases z : k = 0
      · rw [if_pos z]; exact h0.1.1
      · rw [if_neg z]; have := h0.2.2.2; omega
    rw [if_neg (by omega), show k + 1 - 1 = k from rfl]
    cases c : keepT xs m k
    · rw [wrL_no c]; exact h.more (by omega)
    · rw [wrL_yes c]; exact h.snoc hok (by omega) hu

theorem wr_all {ys : Ts} {m : Int} (h : ∀ i, i < ys.length → keepT ys m i = true) : ∀ k, k ≤ ys.length → wrL ys m k = ys.take k
  | 0, _ => rfl
  | k + 1, hk => by
    rw [wrL_yes (h k (by omega)), wr_all h k (by omega), List.take_succ_eq_append_getElem (by omega)]
    congr 2
    unfold at3 tn tc tf
    rw [getD_at (by omega)]

/-- what is right stays -/
theorem wr_again {xs : Ts} (hok : okT xs = true) {m : Int} (hm : 0 ≤ m) : vWrong (wrL xs m xs.length) m = (wrL xs m xs.length, 0) := by
  have hl := wrL_len xs m xs.length
  have hx := okT_len hok
  have h := wr_up hok m xs.length (Nat.le_refl _)
  rw [vWrong_0 (okT_yes (by omega) h.ok) hm, wr_all (wr_keep xs m xs.length) _ (Nat.le_refl _), List.take_length]

theorem clK_nth (xs : Ts) (l : Int) (k : Nat) {i : Nat} (hi : i < 8) : bn (clK xs l k) i = (decide (i < k) && decide (l ≤ tc xs i)) := by
  unfold bn clK
  rw [List.getD_eq_getElem?_getD, List.getElem?_map, List.getElem?_range hi]
  rfl

end Go.Proofs.Ytejbaoakpkpciaa
