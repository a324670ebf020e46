/-
  SEVERAL TEXTS IN ONE.
-/
import Derived.Test.YtiaflomabgnmaaaG2
import Derived.WalkKit
import Derived.Test.YtiaflomabgnmaaaG4
import Derived.Deep.LoopGhost
import Derived.IntWalk
import Derived.Test.YtiaflomabgnmaaaG1
import Derived.Test.YtiaflomabgnmaaaG5
import Derived.Test.YtiaflomabgnmaaaG6
import Derived.Test.YtiaflomabgnmaaaG3
import Derived.Test.YtiaflomabgnmaaaCntF

/-
  CONTRACTS: is a number one of a range?
-/
namespace Go.Proofs.Ytiaflomabgnmaaa
open Go Go.RowKit
set_option maxRecDepth 100000


end Go.Proofs.Ytiaflomabgnmaaa

/-
  CONTRACTS: ranges of numbers, chapter 5.
-/
namespace Go.Proofs.Ytiaflomabgnmaaa
open Go Go.ChangeShapes Go.WideShapes Go.ChangeAt Go.RowKit
set_option maxRecDepth 100000

end Go.Proofs.Ytiaflomabgnmaaa

/-
  ROWS OF TALLIES IN MEMORY: a turn, a count and how full, three cells each.
  No Go text in it. Conditions: those of each theorem.
-/
namespace Go.Proofs.Ytiaflomabgnmaaa
open Go Go.RowKit

abbrev Ts := List (Int × Int × Int)
def tn (xs : Ts) (i : Nat) : Int := (xs.getD i (0, 0, 0)).1
def tc (xs : Ts) (i : Nat) : Int := (xs.getD i (0, 0, 0)).2.1
def tf (xs : Ts) (i : Nat) : Int := (xs.getD i (0, 0, 0)).2.2
/-- a tally's cells -/
def t1 (t c f : Int) : Array Value := #[.int .i64 t, .int .i16 c, .int .i16 f]
def tll (s : Int × Int × Int) : List Value := [.int .i64 s.1, .int .i16 s.2.1, .int .i16 s.2.2]
/-- the cells of tallies in a row -/
def tC (xs : Ts) : Array Value := (xs.flatMap tll).toArray
def I64t (t : Int) : Prop := -9223372036854775808 ≤ t ∧ t ≤ 9223372036854775807
def I16 (t : Int) : Prop := -32768 ≤ t ∧ t ≤ 32767
/-- every number fits its word -/
def TW (xs : Ts) : Prop := ∀ s ∈ xs, I64t s.1 ∧ I16 s.2.1 ∧ I16 s.2.2
theorem t1_list (t c f : Int) : (t1 t c f).toList = tll (t, c, f) := rfl
theorem t1_size (t c f : Int) : (t1 t c f).size = 3 := rfl
theorem t1_0 (t c f : Int) : (t1 t c f)[0]? = some (.int .i64 t) := rfl
theorem t1_1 (t c f : Int) : (t1 t c f)[1]? = some (.int .i16 c) := rfl
theorem t1_2 (t c f : Int) : (t1 t c f)[2]? = some (.int .i16 f) := rfl
theorem t1_s0 (t c f t' : Int) : (t1 t c f).setIfInBounds 0 (.int .i64 t') = t1 t' c f := rfl
theorem t1_s1 (t c f c' : Int) : (t1 t c f).setIfInBounds 1 (.int .i16 c') = t1 t c' f := rfl
theorem t1_s2 (t c f f' : Int) : (t1 t c f).setIfInBounds 2 (.int .i16 f') = t1 t c f' := rfl
theorem t1_sz (t : Int) : (#[.int .i64 0, .int .i16 0, .int .i16 0] : Array Value).setIfInBounds 0 (.int .i64 t) = t1 t 0 0 := rfl
theorem t1_z : (#[.int .i64 0, .int .i16 0, .int .i16 0] : Array Value) = t1 0 0 0 := rfl
theorem t1_one (t c f : Int) : (t1 t c f).all (·.oneCell') = true := by unfold t1; rw [List.all_toArray]; rfl
section
variable {xs : Ts}
theorem TW.tail {s : Int × Int × Int} (h : TW (s :: xs)) : TW xs := fun x hx => h x (by simp [hx])
theorem getD_at {i : Nat} (hi : i < xs.length) : xs.getD i (0, 0, 0) = xs[i] := by rw [List.getD_eq_getElem?_getD, List.getElem?_eq_getElem hi]; rfl
theorem TW.at (h : TW xs) {i : Nat} (hi : i < xs.length) : I64t (tn xs i) ∧ I16 (tc xs i) ∧ I16 (tf xs i) := by
  unfold tn tc tf
  rw [getD_at hi]
  exact h _ (List.getElem_mem hi)
theorem tll_len (s : Int × Int × Int) : (tll s).length = 3 := rfl
theorem tL_len (xs : Ts) : (xs.flatMap tll).length = xs.length * 3 := by
  induction xs with
  | nil => rfl
  | cons s xs ih => rw [List.flatMap_cons, List.length_append, ih, tll_len, List.length_cons]; omega
theorem tC_size (xs : Ts) : (tC xs).size = xs.length * 3 := by unfold tC; rw [List.size_toArray, tL_len]
theorem tL_get {i j : Nat} (hi : i < xs.length) (hj : j < 3) : (xs.flatMap tll)[i * 3 + j]? = (tll (xs.getD i (0, 0, 0)))[j]? := by
  induction xs generalizing i with
  | nil => simp at hi
  | cons s xs ih =>
    have hs := tll_len s
    rw [List.flatMap_cons]
    cases i with
    | zero => rw [Nat.zero_mul, Nat.zero_add, List.getElem?_append_left (by omega)]; rfl
    | succ i =>
      rw [List.getElem?_append_right (by omega), hs, show (i + 1) * 3 + j - 3 = i * 3 + j from by omega, ih (by simpa using hi)]
      rfl
theorem tC_get {i j : Nat} (hi : i < xs.length) (hj : j < 3) : (tC xs)[i * 3 + j]? = (t1 (tn xs i) (tc xs i) (tf xs i))[j]? := by
  have := tL_get hi hj
  rw [← Array.getElem?_toList, ← Array.getElem?_toList, t1_list]
  exact this
theorem tC_turn {i k : Nat} (hi : i < xs.length) (hk : k = i * 3) : (tC xs)[k]? = some (.int .i64 (tn xs i)) := by
  subst hk; have := tC_get (j := 0) hi (by omega); rw [Nat.add_zero] at this; rw [this]; exact t1_0 _ _ _
theorem tC_count {i k : Nat} (hi : i < xs.length) (hk : k = i * 3 + 1) : (tC xs)[k]? = some (.int .i16 (tc xs i)) := by
  subst hk; rw [tC_get hi (by omega)]; exact t1_1 _ _ _
theorem tC_full {i k : Nat} (hi : i < xs.length) (hk : k = i * 3 + 2) : (tC xs)[k]? = some (.int .i16 (tf xs i)) := by
  subst hk; rw [tC_get hi (by omega)]; exact t1_2 _ _ _
theorem tC_tally {i k : Nat} (hi : i < xs.length) (hk : k = i * 3) : (tC xs).extract k (k + 3) = t1 (tn xs i) (tc xs i) (tf xs i) := by
  subst hk
  have hs := tC_size xs
  apply Array.ext_getElem?
  intro j
  rw [Array.getElem?_extract]
  by_cases c : j < 3
  · rw [if_pos (by omega), tC_get hi c]
  · rw [if_neg (by omega), Array.getElem?_eq_none (by rw [t1_size]; omega)]
end
theorem tC_one (xs : Ts) : (tC xs).all (·.oneCell') = true := by
  unfold tC
  rw [List.all_toArray, List.all_eq_true]
  intro v hv
  obtain ⟨s, -, hs⟩ := List.mem_flatMap.1 hv
  simp only [tll, List.mem_cons, List.mem_nil_iff, or_false] at hs
  rcases hs with rfl | rfl | rfl <;> rfl
/-- no tally at all, n times -/
def tZ (n : Nat) : Ts := List.replicate n (0, 0, 0)
/-- what a copy of n tallies has after k -/
def cpTl (n : Nat) (xs : Ts) (k : Nat) : Ts := xs.take k ++ List.replicate (n - k) (0, 0, 0)
theorem cpTl_len {n : Nat} {xs : Ts} (h : xs.length = n) {k : Nat} (hk : k ≤ n) : (cpTl n xs k).length = n := by simp [cpTl, h]; omega
theorem cpTl_zero (n : Nat) (xs : Ts) : cpTl n xs 0 = tZ n := by simp [cpTl, tZ]
theorem cpTl_all {n : Nat} {xs : Ts} (h : xs.length = n) : cpTl n xs n = xs := by simp [cpTl, ← h]
theorem cpTl_splice {n : Nat} {xs : Ts} (h : xs.length = n) {k off : Nat} (hk : k < n) (ho : off = k * 3) : splice (tC (cpTl n xs k)) off (t1 (tn xs k) (tc xs k) (tf xs k)) = tC (cpTl n xs (k + 1)) := by
  subst ho
  have e := getD_at (xs := xs) (i := k) (by omega)
  have hT : (List.flatMap tll (xs.take k)).length = k * 3 := by rw [tL_len, List.length_take]; congr 1; omega
  apply Array.ext'
  unfold splice
  simp only [tC, t1_size]
  rw [t1_list]
  unfold cpTl
  rw [show n - k = (n - (k + 1)) + 1 from by omega, List.replicate_succ, List.flatMap_append, List.flatMap_append, List.flatMap_cons, List.take_succ_eq_append_getElem (by omega), List.flatMap_append]
  have h0 : (tll (0, 0, 0)).length = 3 := rfl
  rw [List.take_append_of_le_length (by omega), List.take_of_length_le (by omega), List.drop_append, List.drop_eq_nil_of_le (by omega), List.nil_append, hT, show k * 3 + 3 - k * 3 = 3 from by omega,
    List.drop_append, List.drop_eq_nil_of_le (by omega), List.nil_append, h0, Nat.sub_self, List.drop_zero]
  simp only [tn, tc, tf, e, List.flatMap_cons, List.flatMap_nil, List.append_nil]
/-- the tallies of a longer list -/
theorem tC_snoc (xs : Ts) (t c f : Int) : tC (xs ++ [(t, c, f)]) = tC xs ++ t1 t c f := by
  apply Array.ext'
  simp [tC, t1, tll]
end Go.Proofs.Ytiaflomabgnmaaa

/-
  DETECTORS IN MEMORY: a cell, a carry, a count, how full, ticks.
  No Go text in it. Conditions: those of each theorem.
-/
namespace Go.Proofs.Ytiaflomabgnmaaa
open Go Go.RowKit
def dt (c : Int) (y : Nat) (n : Int) (f : Nat) (t : Int) : Array Value := #[.int .i64 c, .float .f32 y, .int .i16 n, .float .f32 f, .int .i64 t]
theorem dt_size (c : Int) (y : Nat) (n : Int) (f : Nat) (t : Int) : (dt c y n f t).size = 5 := rfl
theorem dt_one (c : Int) (y : Nat) (n : Int) (f : Nat) (t : Int) : (dt c y n f t).all (·.oneCell') = true := by unfold dt; rw [List.all_toArray]; rfl
theorem dt_z : (#[.int .i64 0, .float .f32 0, .int .i16 0, .float .f32 0, .int .i64 0] : Array Value) = dt 0 0 0 0 0 := rfl
theorem dt_0 (c : Int) (y : Nat) (n : Int) (f : Nat) (t : Int) : (dt c y n f t)[0]? = some (.int .i64 c) := rfl
theorem dt_s0 (c : Int) (y : Nat) (n : Int) (f : Nat) (t : Int) (x : Int) : (dt c y n f t).setIfInBounds 0 (.int .i64 x) = dt x y n f t := rfl
theorem dt_1 (c : Int) (y : Nat) (n : Int) (f : Nat) (t : Int) : (dt c y n f t)[1]? = some (.float .f32 y) := rfl
theorem dt_s1 (c : Int) (y : Nat) (n : Int) (f : Nat) (t : Int) (x : Nat) : (dt c y n f t).setIfInBounds 1 (.float .f32 x) = dt c x n f t := rfl
theorem dt_2 (c : Int) (y : Nat) (n : Int) (f : Nat) (t : Int) : (dt c y n f t)[2]? = some (.int .i16 n) := rfl
theorem dt_s2 (c : Int) (y : Nat) (n : Int) (f : Nat) (t : Int) (x : Int) : (dt c y n f t).setIfInBounds 2 (.int .i16 x) = dt c y x f t := rfl
theorem dt_3 (c : Int) (y : Nat) (n : Int) (f : Nat) (t : Int) : (dt c y n f t)[3]? = some (.float .f32 f) := rfl
theorem dt_s3 (c : Int) (y : Nat) (n : Int) (f : Nat) (t : Int) (x : Nat) : (dt c y n f t).setIfInBounds 3 (.float .f32 x) = dt c y n x t := rfl
theorem dt_4 (c : Int) (y : Nat) (n : Int) (f : Nat) (t : Int) : (dt c y n f t)[4]? = some (.int .i64 t) := rfl
theorem dt_s4 (c : Int) (y : Nat) (n : Int) (f : Nat) (t : Int) (x : Int) : (dt c y n f t).setIfInBounds 4 (.int .i64 x) = dt c y n f x := rfl
theorem dt_sz (c : Int) : (#[.int .i64 0, .float .f32 0, .int .i16 0, .float .f32 0, .int .i64 0] : Array Value).setIfInBounds 0 (.int .i64 c) = dt c 0 0 0 0 := rfl
end Go.Proofs.Ytiaflomabgnmaaa

/-
  A part of a row, read in a statement whose order is open.
  No Go text in it. Conditions: those of the theorem.
-/
namespace Go.Proofs.Ytiaflomabgnmaaa
open Go Go.RowKit
theorem q_part {P : Program} {W : World} {o : Oper} {a : Act} {K : Act → Prop} {g : Nat} {c : Array Value} {T : TypeId} (ty : TypeId) (x : Operand) (ho : o.op = .load ty x) (off : Nat) (hx : a.eval x = .pointer (some ⟨g, off, none⟩)) (hA : At W g c T) (n : Nat) (hn : off + n ≤ c.size) (d : TypeDesc)
    (hu : P.underlying ty = some d) (hd : (match d with | .struct _ | .array _ _ => true | _ => false) = true) (hi : (P.info? ty).map (·.size) = some n) (c' : Array Value) (hc : c.extract off (off + n) = c') (hK : K (a.put o.dst (.agg c'))) : o.quiet P a (Cb W) K :=
  q_load ty x ho _ hx (.agg c') (fun w hw => by
    have := run_loadAt_part (P := P) w g off n ty c T (0, 0) d (At.step hA hw) hu hd hi hn
    rw [hc] at this
    exact this) hK
end Go.Proofs.Ytiaflomabgnmaaa

/-
  CONTRACTS: tallies, a law's made the program's, and held against each other.
-/
namespace Go.Proofs.Ytiaflomabgnmaaa
open Go Go.ChangeShapes Go.WideShapes Go.ChangeAt Go.RowKit
set_option maxRecDepth 100000

end Go.Proofs.Ytiaflomabgnmaaa

/-
  CONTRACTS: valid detectors, on both sides.
-/
namespace Go.Proofs.Ytiaflomabgnmaaa
open Go Go.ChangeShapes Go.WideShapes Go.ChangeAt Go.RowKit
set_option maxRecDepth 100000

/-- is it a valid detector -/
def okD (c : Int) (y : Nat) (n : Int) (f : Nat) (t : Int) : Bool := ((((inB 0 14 c && amtB y) && decide (y < 1065353216)) && decide (0 ≤ n)) && amtB f) && inB 0 1000000 t
section
variable {c : Int} {y : Nat} {n : Int} {f : Nat} {t : Int}
theorem okD_0 (h : inB 0 14 c = false) : okD c y n f t = false := by unfold okD; rw [h]; rfl

theorem okD_1 (h : amtB y = false) : okD c y n f t = false := by unfold okD; rw [h, Bool.and_false]; rfl

theorem okD_2 (h : ¬ y < 1065353216) : okD c y n f t = false := by unfold okD; rw [decide_eq_false h, Bool.and_false]; rfl

theorem okD_3 (h : ¬ 0 ≤ n) : okD c y n f t = false := by unfold okD; rw [decide_eq_false h, Bool.and_false]; rfl

theorem okD_4 (h : amtB f = false) : okD c y n f t = false := by unfold okD; rw [h, Bool.and_false]; rfl

theorem okD_5 (h : inB 0 1000000 t = false) : okD c y n f t = false := by unfold okD; rw [h, Bool.and_false]

theorem okD_yes (h0 : inB 0 14 c = true) (h1 : amtB y = true) (h2 : y < 1065353216) (h3 : 0 ≤ n) (h4 : amtB f = true) (h5 : inB 0 1000000 t = true) : okD c y n f t = true := by
  unfold okD; rw [h0, h1, decide_eq_true h2, decide_eq_true h3, h4, h5]; rfl

theorem okD_of (h : okD c y n f t = true) : (0 ≤ c ∧ c ≤ 14) ∧ y < 1065353216 ∧ 0 ≤ n ∧ f < 2139095040 ∧ (0 ≤ t ∧ t ≤ 1000000) := by
  unfold okD inB amtB at h
  simp only [Bool.and_eq_true, decide_eq_true_eq] at h
  exact ⟨h.1.1.1.1.1, h.1.1.1.2, h.1.1.2, h.1.2, h.2⟩
end

end Go.Proofs.Ytiaflomabgnmaaa

/-
  CONTRACTS: the nearest short number: the call.
-/
namespace Go.Proofs.Ytiaflomabgnmaaa
open Go Go.ChangeShapes Go.WideShapes Go.ChangeAt Go.RowKit
set_option maxRecDepth 100000

end Go.Proofs.Ytiaflomabgnmaaa
