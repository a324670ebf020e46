/-
  SEVERAL TEXTS IN ONE.
-/
import Derived.Test.YtejbaoakpkpciaaNum
import Derived.Test.YtejbaoakpkpciaaCell
import Derived.Deep.LoopGhost
import Derived.Test.YtejbaoakpkpciaaG1
import Derived.WalkKit
import Derived.IntWalk

/-
  CONTRACTS: roads that are valid, roads handed over.
-/
namespace Go.Proofs.Ytejbaoakpkpciaa
open Go Go.RowKit

theorem u32_lt {xs : List Nat} (h : ∀ x ∈ xs, x < 4294967296) (k : Nat) : nth xs k < 4294967296 := by
  simp only [nth, List.getD]
  cases e : xs[k]? with
  | none => simp
  | some v => simp; exact h v (List.mem_of_getElem? e)

/-- valid, of the numbers of a road -/
def paceB (x : Nat) : Bool := decide (1015021568 ≤ x ∧ x ≤ 1065353216)
def lanesB (x : Nat) : Bool := decide (1048576000 ≤ x ∧ x ≤ 1090519040)
def okB (cs : List Nat) (p b l : Nat) : Bool := cs.all shrB && paceB p && paceB b && lanesB l

/-- a word against constants that are amounts -/
theorem ge_word {a c : Nat} (ha : a < 4294967296) (hc : c ≤ 2139095040) (h0 : 0 < c) : (FloatKind.f32.format.order a c == some .gt || FloatKind.f32.format.order a c == some .eq) = decide (c ≤ a ∧ a ≤ 2139095040) := by
  by_cases n : nanB a = true
  · rw [order_nanL ha n, decide_eq_false (by unfold nanB at n; simp at n; omega)]; rfl
  · have n' : a % 2147483648 ≤ 2139095040 := by unfold nanB at n; simp at n; omega
    by_cases c : a < 2147483648
    · rw [ge_amt (x := a) (by omega) hc]; congr 1; apply propext; omega
    · obtain ⟨r, rfl⟩ : ∃ r, a = 2147483648 + r := ⟨a - 2147483648, by omega⟩
      rw [decide_eq_false (by omega)]
      by_cases z : r = 0
      · subst z; rw [Nat.add_zero, order_negzero hc, Nat.compare_eq_lt.2 h0]; rfl
      · rw [order_neg (by omega) (by omega) hc]; rfl

theorem nth_mem {cs : List Nat} {k : Nat} (h : k < cs.length) : nth cs k ∈ cs := by
  unfold nth
  rw [List.getD_eq_getElem?_getD, List.getElem?_eq_getElem h]
  exact List.getElem_mem h
theorem okB_no_car {cs : List Nat} (p b l : Nat) {k : Nat} (h : k < cs.length) (hs : shrB (nth cs k) = false) : okB cs p b l = false := by
  have : cs.all shrB = false := by
    rw [Bool.eq_false_iff]
    intro h2
    rw [List.all_eq_true.1 h2 _ (nth_mem h)] at hs
    cases hs
  unfold okB; rw [this]; rfl
theorem all_take {q : Nat → Bool} {cs : List Nat} {k : Nat} (h : (cs.take k).all q = true) (hk : k < cs.length) (hs : q (nth cs k) = true) : (cs.take (k + 1)).all q = true := by
  rw [List.take_succ_eq_append_getElem hk, List.all_append, h]
  unfold nth at hs
  rw [List.getD_eq_getElem?_getD, List.getElem?_eq_getElem hk] at hs
  simpa using hs

end Go.Proofs.Ytejbaoakpkpciaa

/-
  CONTRACTS: the model's valid road, by a pointer and by value.
-/
namespace Go.Proofs.Ytejbaoakpkpciaa
open Go Go.RowKit

/-- the block g holds a road -/
def RoadAt (w : World) (g : Nat) (cs : List Nat) (p b l : Nat) : Prop := ∃ T fr, w.heap[g]? = some (.cells (rd cs p b l) T fr)
section
variable {w : World} {g : Nat} {cs : List Nat} {p b l : Nat} (h : RoadAt w g cs p b l) (hl : cs.length = 16)
include h hl
theorem RoadAt.car {k : Nat} (hk : k < 16) : w.cell? ⟨g, k, none⟩ = some (.float .f32 (nth cs k)) := by
  obtain ⟨T, fr, hg⟩ := h; rw [cell_of_row w g k _ T fr hg]; exact rd_cell hl p b l hk

theorem RoadAt.pace : w.cell? ⟨g, 16, none⟩ = some (.float .f32 p) := by
  obtain ⟨T, fr, hg⟩ := h; rw [cell_of_row w g 16 _ T fr hg]; exact rd_pace hl p b l

theorem RoadAt.back : w.cell? ⟨g, 17, none⟩ = some (.float .f32 b) := by
  obtain ⟨T, fr, hg⟩ := h; rw [cell_of_row w g 17 _ T fr hg]; exact rd_back hl p b l

theorem RoadAt.lanes : w.cell? ⟨g, 18, none⟩ = some (.float .f32 l) := by
  obtain ⟨T, fr, hg⟩ := h; rw [cell_of_row w g 18 _ T fr hg]; exact rd_lanes hl p b l
end

theorem RoadAt.drewN {w : World} {g : Nat} {cs : List Nat} {p b l : Nat} (h : RoadAt w g cs p b l) (n : Nat) : RoadAt (w.drewN n) g cs p b l := h

theorem RoadAt.new (w : World) (cs : List Nat) (p b l : Nat) (T : TypeId) : RoadAt (w.alloc (.cells (rd cs p b l) T)) w.heap.size cs p b l := ⟨T, _, heap_last _ _⟩

theorem RoadAt.old {w : World} {g : Nat} {cs : List Nat} {p b l : Nat} (h : RoadAt w g cs p b l) (o : Obj) : RoadAt (w.alloc o) g cs p b l := by
  obtain ⟨T, fr, hg⟩ := h; exact ⟨T, fr, heap_old hg o⟩

end Go.Proofs.Ytejbaoakpkpciaa

/-
  CONTRACTS: is a number one of a range?
-/
namespace Go.Proofs.Ytejbaoakpkpciaa
open Go Go.RowKit
set_option maxRecDepth 100000

def inB (a b k : Int) : Bool := decide (a ≤ k ∧ k ≤ b)

theorem l00In_b (k a b : Int) (w : World) : Calls Try.prog 37 #[.int .i64 k, .int .i64 a, .int .i64 b] w (Rd (.bool (inB a b k)) w) := by
  by_cases h : a ≤ k
  · by_cases h2 : k ≤ b
    · rw [show inB a b k = true from decide_eq_true ⟨h, h2⟩]
      go_enter Try.func37, Try.ntmps37
      go_wp2
      go_ret
      exact Rd.mk0
    · rw [show inB a b k = false from decide_eq_false (by omega)]
      go_enter Try.func37, Try.ntmps37
      go_wp2
      go_ret
      exact Rd.mk0
  · rw [show inB a b k = false from decide_eq_false (by omega)]
    go_enter Try.func37, Try.ntmps37
    go_wp2
    go_ret
    exact Rd.mk0

end Go.Proofs.Ytejbaoakpkpciaa

/-
  THE FIRST OF SOME NUMBERS WITH A PROPERTY; rows of tallies that are the same.
  No Go text in it. Conditions: those of each theorem.
-/
namespace Go.Proofs.Ytejbaoakpkpciaa
open Go

/-- the first number below k with the property -/
def firstHit (p : Nat → Bool) : Nat → Option Nat
  | 0 => none
  | k + 1 => match firstHit p k with
    | some j => some j
    | none => if p k then some k else none
theorem firstHit_miss {p : Nat → Bool} {k : Nat} (h : firstHit p k = none) (hp : p k = false) : firstHit p (k + 1) = none := by unfold firstHit; rw [h, hp]; rfl
theorem firstHit_hit {p : Nat → Bool} {k : Nat} (h : firstHit p k = none) (hp : p k = true) : ∀ n, k < n → firstHit p n = some k
  | 0, hn => by omega
  | n + 1, hn => by
    by_cases c : k = n
    · subst c; unfold firstHit; rw [h, hp]; rfl
    · unfold firstHit; rw [firstHit_hit h hp n (by omega)]

/-- how many tallies have been the same, one behind the other -/
def rowS (xs : Ts) : Nat → Int
  | 0 => 0
  | k + 1 => if tc xs k = 0 then 0 else if 0 < rowS xs k ∧ tc xs (k - 1) = tc xs k ∧ tf xs (k - 1) = tf xs k then rowS xs k + 1 else 1
section
variable {xs : Ts} {k : Nat}
theorem rowS_zero (h : tc xs k = 0) : rowS xs (k + 1) = 0 := by show (if _ then _ else _) = _; rw [if_pos h]
theorem rowS_more (h : tc xs k ≠ 0) (h2 : 0 < rowS xs k ∧ tc xs (k - 1) = tc xs k ∧ tf xs (k - 1) = tf xs k) : rowS xs (k + 1) = rowS xs k + 1 := by show (if _ then _ else _) = _; rw [if_neg h, if_pos h2]
theorem rowS_one (h : tc xs k ≠ 0) (h2 : ¬ (0 < rowS xs k ∧ tc xs (k - 1) = tc xs k ∧ tf xs (k - 1) = tf xs k)) : rowS xs (k + 1) = 1 := by show (if _ then _ else _) = _; rw [if_neg h, if_neg h2]
theorem rowS_bd (xs : Ts) : ∀ k, 0 ≤ rowS xs k ∧ rowS xs k ≤ (k : Int)
  | 0 => ⟨by show (0 : Int) ≤ 0; omega, by show (0 : Int) ≤ ((0 : Nat) : Int); omega⟩
  | k + 1 => by
    have h := rowS_bd xs k
    by_cases z : tc xs k = 0
    · rw [rowS_zero z]; omega
    · by_cases c : 0 < rowS xs k ∧ tc xs (k - 1) = tc xs k ∧ tf xs (k - 1) = tf xs k
      · rw [rowS_more z c]; omega
      · rw [rowS_one z c]; omega
theorem rowS_pos (h0 : 0 < k) (h : tc xs (k - 1) ≠ 0) : 0 < rowS xs k := by
  obtain ⟨j, rfl⟩ : ∃ j, k = j + 1 := ⟨k - 1, by omega⟩
  have hb := rowS_bd xs j
  rw [show j + 1 - 1 = j from rfl] at h
  by_cases c : 0 < rowS xs j ∧ tc xs (j - 1) = tc xs j ∧ tf xs (j - 1) = tf xs j
  · rw [rowS_more h c]; omega
  · rw [rowS_one h c]; omega
end
/-- what FirstStuck tells -/
def hitS (xs : Ts) (tm : Int) (k : Nat) : Bool := decide (rowS xs (k + 1) = tm)
def vStuck (xs : Ts) (tm : Int) : Int × Int := if okT xs then (if inB 1 96 tm then (match firstHit (hitS xs tm) xs.length with | some k => (tn xs k, 0) | none => (0, 6)) else (0, 2)) else (0, 1)
section
variable {xs : Ts} {tm : Int}
theorem vStuck_1 (h : okT xs = false) : vStuck xs tm = (0, 1) := by unfold vStuck; rw [h]; rfl
theorem vStuck_2 (h : okT xs = true) (h2 : inB 1 96 tm = false) : vStuck xs tm = (0, 2) := by unfold vStuck; rw [if_pos h, h2]; rfl
theorem vStuck_6 (h : okT xs = true) (h2 : inB 1 96 tm = true) (h3 : firstHit (hitS xs tm) xs.length = none) : vStuck xs tm = (0, 6) := by unfold vStuck; rw [if_pos h, if_pos h2, h3]
theorem vStuck_0 (h : okT xs = true) (h2 : inB 1 96 tm = true) {k : Nat} (hk : k < xs.length) (h3 : firstHit (hitS xs tm) k = none) (h4 : rowS xs (k + 1) = tm) : vStuck xs tm = (tn xs k, 0) := by
  unfold vStuck; rw [if_pos h, if_pos h2, firstHit_hit h3 (decide_eq_true h4) _ hk]
end
end Go.Proofs.Ytejbaoakpkpciaa
