/-
  TALLIES OF TWO DETECTORS IN THE SAME TURN; the first turn at which cars are kept.
  No Go text in it. Conditions: those of each theorem.
-/
import Derived.Test.YtejbaoakpkpciaaG2
import Derived.Test.YtejbaoakpkpciaaG3
namespace Go.Proofs.Ytejbaoakpkpciaa
open Go Go.RowKit

/-- the first of the r numbers from i on whose turn is t -/
def kF (ys : Ts) (t : Int) : Nat → Nat → Option Nat
  | _, 0 => none
  | i, r + 1 => if tn ys i = t then some i else kF ys t (i + 1) r
/-- what the merge finds from i on -/
def inn (ys : Ts) (t : Int) : Nat → Nat → List Nat
  | _, 0 => []
  | i, r + 1 => if t < tn ys i then [] else if tn ys i = t then i :: inn ys t (i + 1) r else inn ys t (i + 1) r
section
variable {ys : Ts} {t : Int}
theorem kF_hit {i r : Nat} (h : tn ys i = t) : kF ys t i (r + 1) = some i := by show (if _ then _ else _) = _; rw [if_pos h]
theorem kF_miss {i r : Nat} (h : tn ys i ≠ t) : kF ys t i (r + 1) = kF ys t (i + 1) r := by show (if _ then _ else _) = _; rw [if_neg h]
theorem inn_gt {i r : Nat} (h : t < tn ys i) : inn ys t i r = [] := by
  cases r with
  | zero => rfl
  | succ r => show (if _ then _ else _) = _; rw [if_pos h]
theorem inn_hit {i r : Nat} (h : tn ys i = t) : inn ys t i (r + 1) = i :: inn ys t (i + 1) r := by show (if _ then _ else _) = _; rw [if_neg (by omega), if_pos h]
theorem inn_miss {i r : Nat} (h : tn ys i < t) : inn ys t i (r + 1) = inn ys t (i + 1) r := by show (if _ then _ else _) = _; rw [if_neg (by omega), if_neg (by omega)]
theorem kF_lt : ∀ r i j, i + r = ys.length → kF ys t i r = some j → j < ys.length
  | 0, i, j, _, h => by cases h
  | r + 1, i, j, hr, h => by
    by_cases c : tn ys i = t
    · rw [kF_hit c] at h; cases h; omega
    · rw [kF_miss c] at h; exact kF_lt r (i + 1) j (by omega) h
theorem kF_gt (hA : ∀ i, i + 1 < ys.length → tn ys i < tn ys (i + 1)) : ∀ r i, i + r = ys.length → t < tn ys i → kF ys t i r = none
  | 0, _, _, _ => rfl
  | r + 1, i, h, ht => by
    rw [kF_miss (by omega)]
    cases r with
    | zero => rfl
    | succ r => exact kF_gt hA (r + 1) (i + 1) (by omega) (by have := hA i (by omega); omega)
theorem inn_kF (hA : ∀ i, i + 1 < ys.length → tn ys i < tn ys (i + 1)) : ∀ r i, i + r = ys.length → inn ys t i r = (kF ys t i r).toList
  | 0, _, _ => rfl
  | r + 1, i, h => by
    by_cases a : t < tn ys i
    · rw [inn_gt a, kF_gt hA _ _ h a]; rfl
    · by_cases b : tn ys i = t
      · rw [inn_hit b, kF_hit b]
        cases r with
        | zero => rfl
        | succ r => rw [inn_gt (by have := hA i (by omega); omega)]; rfl
      · rw [inn_miss (by omega), kF_miss b]; exact inn_kF hA r (i + 1) (by omega)
theorem okT_up (h : okT ys = true) : ∀ i, i + 1 < ys.length → tn ys i < tn ys (i + 1) := by
  intro i hi
  have := (okT_at h hi).2.2.2
  rw [show i + 1 - 1 = i from rfl] at this
  omega
end
/-- the pairs of the m turns from k on -/
def prsN (xs ys : Ts) : Nat → Nat → List (Nat × Nat)
  | _, 0 => []
  | k, m + 1 => ((kF ys (tn xs k) 0 ys.length).toList.map fun j => (k, j)) ++ prsN xs ys (k + 1) m
section
variable {xs ys : Ts} {k m : Nat}
theorem prsN_none (h : kF ys (tn xs k) 0 ys.length = none) : prsN xs ys k (m + 1) = prsN xs ys (k + 1) m := by show _ ++ _ = _; rw [h]; rfl
theorem prsN_some {j : Nat} (h : kF ys (tn xs k) 0 ys.length = some j) : prsN xs ys k (m + 1) = (k, j) :: prsN xs ys (k + 1) m := by show _ ++ _ = _; rw [h]; rfl
theorem prsN_inn (h : okT ys = true) : prsN xs ys k (m + 1) = (inn ys (tn xs k) 0 ys.length).map (fun j => (k, j)) ++ prsN xs ys (k + 1) m := by
  show _ ++ _ = _; rw [inn_kF (okT_up h) _ _ (by omega)]
theorem prsN_at : ∀ m k, k + m = xs.length → ∀ q ∈ prsN xs ys k m, q.1 < xs.length ∧ q.2 < ys.length
  | 0, _, _, q, hq => by cases hq
  | m + 1, k, h, q, hq => by
    cases e : kF ys (tn xs k) 0 ys.length with
    | none => rw [prsN_none e] at hq; exact prsN_at m (k + 1) (by omega) q hq
    | some j =>
      rw [prsN_some e] at hq
      rcases List.mem_cons.1 hq with rfl | hq
      · exact ⟨by show k < _; omega, kF_lt _ _ _ (by omega) e⟩
      · exact prsN_at m (k + 1) (by omega) q hq
theorem prsN_len : ∀ m k, (prsN xs ys k m).length ≤ m
  | 0, _ => Nat.le_refl _
  | m + 1, k => by
    have := prsN_len m (k + 1)
    cases e : kF ys (tn xs k) 0 ys.length with
    | none => rw [prsN_none e]; omega
    | some j => rw [prsN_some e, List.length_cons]; omega
end
/-- 'at least', of words -/
def geB (x y : Nat) : Bool := FloatKind.f32.format.order x y == some .gt || FloatKind.f32.format.order x y == some .eq
def fW (xs : Ts) (k : Nat) : Nat := fN (tf xs k).toNat
def dW (xs ys : Ts) (k j : Nat) : Nat := subB (fW xs k) (fW ys j)
def strB (xs ys : Ts) (a s k j : Nat) : Bool := geB (dW xs ys k j) a && geB (dW xs ys k j) (mulB s (fW xs k))
/-- how many have been so, behind the pair (k, j) -/
def nowI (xs ys : Ts) (a s k j : Nat) (now : Int) : Int := if strB xs ys a s k j then now + 1 else 0
def incL (xs ys : Ts) (a s : Nat) (tm : Int) : List (Nat × Nat) → Int → Int × Int
  | [], _ => (0, 6)
  | q :: r, now => if nowI xs ys a s q.1 q.2 now = tm then (tn xs q.1, 0) else incL xs ys a s tm r (nowI xs ys a s q.1 q.2 now)
def vInc (xs ys : Ts) (a s : Nat) (tm : Int) : Int × Int := if okT xs && okT ys then (if amtB a && shrB s && inB 1 96 tm then incL xs ys a s tm (prsN xs ys 0 xs.length) 0 else (0, 2)) else (0, 1)
section
variable {xs ys : Ts} {a s : Nat} {tm : Int}
theorem vInc_1a (h : okT xs = false) : vInc xs ys a s tm = (0, 1) := by unfold vInc; rw [h]; rfl
theorem vInc_1b (h : okT ys = false) : vInc xs ys a s tm = (0, 1) := by unfold vInc; rw [h, Bool.and_false]; rfl
theorem vInc_2a (h : okT xs = true) (h' : okT ys = true) (h2 : amtB a = false) : vInc xs ys a s tm = (0, 2) := by unfold vInc; rw [h, h', h2]; rfl
theorem vInc_2b (h : okT xs = true) (h' : okT ys = true) (h2 : shrB s = false) : vInc xs ys a s tm = (0, 2) := by unfold vInc; rw [h, h', h2, Bool.and_false]; rfl
theorem vInc_2c (h : okT xs = true) (h' : okT ys = true) (h2 : inB 1 96 tm = false) : vInc xs ys a s tm = (0, 2) := by unfold vInc; rw [h, h', h2, Bool.and_false]; rfl
theorem vInc_0 (h : okT xs = true) (h' : okT ys = true) (h2 : amtB a = true) (h3 : shrB s = true) (h4 : inB 1 96 tm = true) : vInc xs ys a s tm = incL xs ys a s tm (prsN xs ys 0 xs.length) 0 := by
  unfold vInc; rw [h, h', h2, h3, h4]; rfl
theorem incL_hit {q : Nat × Nat} {r : List (Nat × Nat)} {now : Int} (h : nowI xs ys a s q.1 q.2 now = tm) : incL xs ys a s tm (q :: r) now = (tn xs q.1, 0) := by show (if _ then _ else _) = _; rw [if_pos h]
theorem incL_on {q : Nat × Nat} {r : List (Nat × Nat)} {now : Int} (h : nowI xs ys a s q.1 q.2 now ≠ tm) : incL xs ys a s tm (q :: r) now = incL xs ys a s tm r (nowI xs ys a s q.1 q.2 now) := by show (if _ then _ else _) = _; rw [if_neg h]
theorem nowI_yes {k j : Nat} {now : Int} (h1 : geB (dW xs ys k j) a = true) (h2 : geB (dW xs ys k j) (mulB s (fW xs k)) = true) : nowI xs ys a s k j now = now + 1 := by unfold nowI strB; rw [h1, h2]; rfl
theorem nowI_no1 {k j : Nat} {now : Int} (h1 : geB (dW xs ys k j) a = false) : nowI xs ys a s k j now = 0 := by unfold nowI strB; rw [h1]; rfl
theorem nowI_no2 {k j : Nat} {now : Int} (h2 : geB (dW xs ys k j) (mulB s (fW xs k)) = false) : nowI xs ys a s k j now = 0 := by unfold nowI strB; rw [h2, Bool.and_false]; rfl
theorem fW_le (h : okT xs = true) {k : Nat} (hk : k < xs.length) : fW xs k ≤ 1233125376 := by
  have := (okT_at h hk).2.2.1
  exact fN_le (by omega)
theorem fullF (h : okT xs = true) {k : Nat} (hk : k < xs.length) : floatOfInt .f32 (tf xs k) = fW xs k := by
  have := (okT_at h hk).2.2.1
  obtain ⟨m, hm⟩ : ∃ m : Nat, tf xs k = (m : Int) := ⟨(tf xs k).toNat, by omega⟩
  unfold fW
  rw [hm, floatOfInt_nat, Int.toNat_natCast]
theorem sub_amt {x y : Nat} (hx : x < 2139095040) (hy : y < 2139095040) : floatBits .sub .f32 x y = some (subB x y) := by
  have k := sub_fin S32 false false (r := x) (q := y) (by rw [s_inf]; omega) (by rw [s_inf]; omega)
  rw [word_false, word_false] at k
  have e : floatBits .sub .f32 x y = S32.sub x y := rfl
  unfold subB
  rw [e, k, Option.getD_some]
theorem inc_ops (h : okT xs = true) (h' : okT ys = true) (hs : s ≤ 1065353216) {k j : Nat} (hk : k < xs.length) (hj : j < ys.length) :
    floatBits .sub .f32 (fW xs k) (fW ys j) = some (dW xs ys k j) ∧ floatBits .mul .f32 s (fW xs k) = some (mulB s (fW xs k)) := by
  have a := fW_le h hk
  have b := fW_le h' hj
  exact ⟨sub_amt (by omega) (by omega), (mul_eq (by omega) (by omega)).1⟩
end
end Go.Proofs.Ytejbaoakpkpciaa
