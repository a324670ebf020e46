/-
  SEVERAL TEXTS IN ONE.
-/
import Derived.Test.YtldchcjnepnjnaaFltRun
import Derived.Test.YtldchcjnepnjnaaProg
import Derived.WalkSpells
import Derived.Deep.QuietTactic
import Derived.BigQuiet
import Derived.Outline
import Derived.KernelRfl
import Derived.Test.YtldchcjnepnjnaaCell
import Derived.Deep.LoopGhost

/-
  CONTRACTS: numbers that are the same, amounts, shares.
-/
namespace Go.Proofs.Ytldchcjnepnjnaa
open Go Go.RowKit

/-- 'returns v; the world has at most drawn' -/
def Rd (v : Value) (w : World) (e : Ending) (w' : World) : Prop := e = .returned v ∧ ∃ n, w' = w.drewN n
theorem Rd.mk0 {v : Value} {w : World} : Rd v w (.returned v) w := ⟨rfl, 0, rfl⟩
theorem Rd.mk1 {v : Value} {w : World} : Rd v w (.returned v) w.drew := ⟨rfl, 1, rfl⟩
theorem Rd.mkN {v : Value} {w : World} {n : Nat} : Rd v w (.returned v) (w.drewN n) := ⟨rfl, n, rfl⟩
theorem Grown.drewN {W w' : World} (h : Grown W w') (n : Nat) : Grown W (w'.drewN n) := h

/-- the same number? -/
def sameB (a b : Nat) : Bool := if nanB a || nanB b then nanB a && nanB b else (a : Int) == (b : Int)

/-- the bits of a number, one pattern for each NaN -/
def nbits (a : Nat) : Nat := if nanB a then 2143289344 else a

theorem sameB_nbits (a b : Nat) : ((nbits a : Int) == (nbits b : Int)) = sameB a b := by
  unfold nbits sameB nanB
  by_cases h1 : 2139095040 < a % 2147483648 <;> by_cases h2 : 2139095040 < b % 2147483648 <;> simp [h1, h2] <;> omega

/-- is a finite word greater than 0? -/
theorem gt0_word {a : Nat} (ha : a < 4294967296) (h : finB a = true) : (FloatKind.f32.format.order a 0 == some .gt) = decide (0 < a ∧ a < 2147483648) := by
  unfold finB at h
  have h' : a % 2147483648 < 2139095040 := by simpa using h
  by_cases c : a < 2147483648
  · rw [gt_amt (x := a) (y := 0) (by omega) (by omega)]; simp [c]
  · rw [decide_eq_false (by omega)]
    obtain ⟨r, rfl⟩ : ∃ r, a = 2147483648 + r := ⟨a - 2147483648, by omega⟩
    by_cases z : r = 0
    · subst z; rw [Nat.add_zero, order_negzero (by omega)]; rfl
    · rw [order_neg (by omega) (by omega) (by omega)]; rfl

/-- 'at least 0' and 'at most the greatest', of any word -/
theorem ge0_word {a : Nat} (ha : a < 4294967296) : (FloatKind.f32.format.order a 0 == some .gt || FloatKind.f32.format.order a 0 == some .eq) = decide (a ≤ 2139095040 ∨ a = 2147483648) := by
  by_cases n : nanB a = true
  · rw [order_nanL ha n, decide_eq_false (by unfold nanB at n; simp at n; omega)]; rfl
  · have n' : a % 2147483648 ≤ 2139095040 := by unfold nanB at n; simp at n; omega
    by_cases c : a < 2147483648
    · rw [ge_amt (x := a) (y := 0) (by omega) (by omega), decide_eq_true (by omega), decide_eq_true (by omega)]
    · obtain ⟨r, rfl⟩ : ∃ r, a = 2147483648 + r := ⟨a - 2147483648, by omega⟩
      by_cases z : r = 0
      · subst z; rw [Nat.add_zero, order_negzero (by omega)]; rfl
      · rw [order_neg (by omega) (by omega) (by omega), decide_eq_false (by omega)]; rfl

end Go.Proofs.Ytldchcjnepnjnaa

/-
  CONTRACTS: roads that are valid, roads handed over.
-/
namespace Go.Proofs.Ytldchcjnepnjnaa
open Go Go.RowKit

theorem u32_lt {xs : List Nat} (h : ∀ x ∈ xs, x < 4294967296) (k : Nat) : nth xs k < 4294967296 := by
  simp only [nth, List.getD]
  cases e : xs[k]? with
  | none => simp
  | some v => simp; exact h v (List.mem_of_getElem? e)

/-- valid, of the numbers of a road -/
def paceB (x : Nat) : Bool := decide (1015021568 ≤ x ∧ x ≤ 1065353216)
def lanesB (x : Nat) : Bool := decide (1048576000 ≤ x ∧ x ≤ 1090519040)
def okB (cs : List Nat) (p b l : Nat) : Bool := cs.all shrB && paceB p && paceB b && lanesB l

/-- a word against constants that are amounts -/
theorem ge_word {a c : Nat} (ha : a < 4294967296) (hc : c ≤ 2139095040) (h0 : 0 < c) : (FloatKind.f32.format.order a c == some .gt || FloatKind.f32.format.order a c == some .eq) = decide (c ≤ a ∧ a ≤ 2139095040) := by
  by_cases n : nanB a = true
  · rw [order_nanL ha n, decide_eq_false (by unfold nanB at n; simp at n; omega)]; rfl
  · have n' : a % 2147483648 ≤ 2139095040 := by unfold nanB at n; simp at n; omega
    by_cases c : a < 2147483648
    · rw [ge_amt (x := a) (by omega) hc]; congr 1; apply propext; omega
    · obtain ⟨r, rfl⟩ : ∃ r, a = 2147483648 + r := ⟨a - 2147483648, by omega⟩
      rw [decide_eq_false (by omega)]
      by_cases z : r = 0
      · subst z; rw [Nat.add_zero, order_negzero hc, Nat.compare_eq_lt.2 h0]; rfl
      · rw [order_neg (by omega) (by omega) hc]; rfl

theorem nth_mem {cs : List Nat} {k : Nat} (h : k < cs.length) : nth cs k ∈ cs := by
  unfold nth
  rw [List.getD_eq_getElem?_getD, List.getElem?_eq_getElem h]
  exact List.getElem_mem h
theorem okB_no_car {cs : List Nat} (p b l : Nat) {k : Nat} (h : k < cs.length) (hs : shrB (nth cs k) = false) : okB cs p b l = false := by
  have : cs.all shrB = false := by
    rw [Bool.eq_false_iff]
    intro h2
    rw [List.all_eq_true.1 h2 _ (nth_mem h)] at hs
    cases hs
  unfold okB; rw [this]; rfl
theorem all_take {q : Nat → Bool} {cs : List Nat} {k : Nat} (h : (cs.take k).all q = true) (hk : k < cs.length) (hs : q (nth cs k) = true) : (cs.take (k + 1)).all q = true := by
  rw [List.take_succ_eq_append_getElem hk, List.all_append, h]
  unfold nth at hs
  rw [List.getD_eq_getElem?_getD, List.getElem?_eq_getElem hk] at hs
  simpa using hs

end Go.Proofs.Ytldchcjnepnjnaa

/-
  CONTRACTS: the model's valid road, by a pointer and by value.
-/
namespace Go.Proofs.Ytldchcjnepnjnaa
open Go Go.RowKit

/-- the block g holds a road -/
def RoadAt (w : World) (g : Nat) (cs : List Nat) (p b l : Nat) : Prop := ∃ T fr, w.heap[g]? = some (.cells (rd cs p b l) T fr)
section
variable {w : World} {g : Nat} {cs : List Nat} {p b l : Nat} (h : RoadAt w g cs p b l) (hl : cs.length = 16)
include h hl
theorem RoadAt.car {k : Nat} (hk : k < 16) : w.cell? ⟨g, k, none⟩ = some (.float .f32 (nth cs k)) := by
  obtain ⟨T, fr, hg⟩ := h; rw [cell_of_row w g k _ T fr hg]; exact rd_cell hl p b l hk

theorem RoadAt.pace : w.cell? ⟨g, 16, none⟩ = some (.float .f32 p) := by
  obtain ⟨T, fr, hg⟩ := h; rw [cell_of_row w g 16 _ T fr hg]; exact rd_pace hl p b l

theorem RoadAt.back : w.cell? ⟨g, 17, none⟩ = some (.float .f32 b) := by
  obtain ⟨T, fr, hg⟩ := h; rw [cell_of_row w g 17 _ T fr hg]; exact rd_back hl p b l

theorem RoadAt.lanes : w.cell? ⟨g, 18, none⟩ = some (.float .f32 l) := by
  obtain ⟨T, fr, hg⟩ := h; rw [cell_of_row w g 18 _ T fr hg]; exact rd_lanes hl p b l
end

theorem RoadAt.drewN {w : World} {g : Nat} {cs : List Nat} {p b l : Nat} (h : RoadAt w g cs p b l) (n : Nat) : RoadAt (w.drewN n) g cs p b l := h

theorem RoadAt.new (w : World) (cs : List Nat) (p b l : Nat) (T : TypeId) : RoadAt (w.alloc (.cells (rd cs p b l) T)) w.heap.size cs p b l := ⟨T, _, heap_last _ _⟩

theorem RoadAt.old {w : World} {g : Nat} {cs : List Nat} {p b l : Nat} (h : RoadAt w g cs p b l) (o : Obj) : RoadAt (w.alloc o) g cs p b l := by
  obtain ⟨T, fr, hg⟩ := h; exact ⟨T, fr, heap_old hg o⟩

end Go.Proofs.Ytldchcjnepnjnaa
