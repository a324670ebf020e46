/-
  SEVERAL TEXTS IN ONE.
-/
import Derived.Test.YtboahhipobcababFltRun
import Derived.Test.YtboahhipobcababProg
import Derived.WalkSpells
import Derived.Deep.QuietTactic
import Derived.BigQuiet
import Derived.Outline
import Derived.KernelRfl
import Derived.Test.YtboahhipobcababCell
import Derived.Deep.LoopGhost
import Derived.Deep.RegionWith

/-
  CONTRACTS: numbers that are the same, amounts, shares.
-/
namespace Go.Proofs.Ytboahhipobcabab
open Go Go.RowKit

/-- 'returns v; the world has at most drawn' -/
def Rd (v : Value) (w : World) (e : Ending) (w' : World) : Prop := e = .returned v ∧ ∃ n, w' = w.drewN n
theorem Rd.mk0 {v : Value} {w : World} : Rd v w (.returned v) w := ⟨rfl, 0, rfl⟩
theorem Rd.mk1 {v : Value} {w : World} : Rd v w (.returned v) w.drew := ⟨rfl, 1, rfl⟩
theorem Rd.mkN {v : Value} {w : World} {n : Nat} : Rd v w (.returned v) (w.drewN n) := ⟨rfl, n, rfl⟩
theorem Grown.drewN {W w' : World} (h : Grown W w') (n : Nat) : Grown W (w'.drewN n) := h

theorem call_f32bits (b : Nat) (w : World) : (callFunc 110 #[.float .f32 b]).run Try.prog w = .ok (.value (.int .u32 b)) w := by kernel_rfl
theorem call_f64bits (b : Nat) (w : World) : (callFunc 151 #[.float .f64 b]).run Try.prog w = .ok (.value (.int .u64 b)) w := by kernel_rfl

theorem wide_nan_at {x : Nat} (h : x < 4294967296) (hn : nanB x = true) (w : World) :
    (convert 36 193 (.float .f32 x)).run Try.prog w = .ok (.float .f64 (tapeNan (.nanConv .f64 x) w)) w.drew :=
  run_wide_nan w 36 193 x (by rw [Try.underlying36]; rfl) Try.underlying193 h hn
theorem wide_at {x : Nat} (h : x < 4294967296) (hn : nanB x = false) (w : World) :
    (convert 36 193 (.float .f32 x)).run Try.prog w = .ok (.float .f64 (wideB x)) w :=
  run_wide w 36 193 x (by rw [Try.underlying36]; rfl) Try.underlying193 h hn

/-- the same number? -/
def sameB (a b : Nat) : Bool := if nanB a || nanB b then nanB a && nanB b else (a : Int) == (b : Int)

/-- the bits of a number, one pattern for each NaN -/
def nbits (a : Nat) : Nat := if nanB a then 2143289344 else a

theorem sameB_nbits (a b : Nat) : ((nbits a : Int) == (nbits b : Int)) = sameB a b := by
  unfold nbits sameB nanB
  by_cases h1 : 2139095040 < a % 2147483648 <;> by_cases h2 : 2139095040 < b % 2147483648 <;> simp [h1, h2] <;> omega

theorem l01Finite_any (a : Nat) (ha : a < 4294967296) (w : World) :
    Calls Try.prog 109 #[.float .f32 a] w (Rd (.bool (finB a)) w) := by
  cases h : finB a
  · have hop : ∀ t w, (binOp .sub t (.float .f32 a) (.float .f32 a)).run Try.prog w = .ok (.float .f32 (tapeNan (.nanBits .f32 a a) w)) w.drew := fun t w => run_arith_nan w .sub (.inr (.inl rfl)) t .f32 a a (sub_self_none ha h)
    have ho : FloatKind.f32.format.order (tapeNan (.nanBits .f32 a a) w) 0 = none := order_nanL (tapeNan32 w a a).1 (tapeNan32 w a a).2
    go_enter Try.func109, Try.ntmps109
    go_wp2_with (simp only [hop])
    go_ret
    exact Rd.mk1
  · have hop : ∀ t w, (binOp .sub t (.float .f32 a) (.float .f32 a)).run Try.prog w = .ok (.float .f32 0) w := fun t w => run_float_arith w .sub t .f32 a a 0 (sub_self_fin ha h)
    have ho : FloatKind.f32.format.order 0 0 = some .eq := by decide
    go_enter Try.func109, Try.ntmps109
    go_wp2_with (simp only [hop])
    go_ret
    exact Rd.mk0

/-- is a finite word greater than 0? -/
theorem gt0_word {a : Nat} (ha : a < 4294967296) (h : finB a = true) : (FloatKind.f32.format.order a 0 == some .gt) = decide (0 < a ∧ a < 2147483648) := by
  unfold finB at h
  have h' : a % 2147483648 < 2139095040 := by simpa using h
  by_cases c : a < 2147483648
  · rw [gt_amt (x := a) (y := 0) (by omega) (by omega)]; simp [c]
  · rw [decide_eq_false (by omega)]
    obtain ⟨r, rfl⟩ : ∃ r, a = 2147483648 + r := ⟨a - 2147483648, by omega⟩
    by_cases z : r = 0
    · subst z; rw [Nat.add_zero, order_negzero (by omega)]; rfl
    · rw [order_neg (by omega) (by omega) (by omega)]; rfl

theorem l01Amount_any (a : Nat) (ha : a < 4294967296) (w : World) :
    Calls Try.prog 65 #[.float .f32 a] w (Rd (.bool (amtB a)) w) := by
  have hc := call_f32bits
  cases h : finB a
  · have hr : amtB a = false := by unfold finB at h; unfold amtB; simp at h ⊢; omega
    rw [hr]
    go_enter Try.func65, Try.ntmps65
    go_wp2_with (go_at_call 109; refine (l01Finite_any a ha _).mono ?_; rintro e w' ⟨rfl, n, rfl⟩)
    go_ret
    exact Rd.mkN
  · have hg := gt0_word ha h
    by_cases c : 0 < a ∧ a < 2147483648
    · have hr : amtB a = true := by unfold finB at h; unfold amtB; simp at h ⊢; omega
      rw [hr]
      rw [decide_eq_true c] at hg
      clear c hr
      go_enter Try.func65, Try.ntmps65
      go_wp2_with (go_at_call 109; refine (l01Finite_any a ha _).mono ?_; rintro e w' ⟨rfl, n, rfl⟩)
      go_ret
      exact Rd.mkN
    · rw [decide_eq_false c] at hg
      by_cases z : a = 0
      · subst z
        have hr : amtB 0 = true := rfl
        rw [hr]
        go_enter Try.func65, Try.ntmps65
        go_wp2_with (go_at_call 109; refine (l01Finite_any _ ha _).mono ?_; rintro e w' ⟨rfl, n, rfl⟩)
        go_ret
        exact Rd.mkN
      · have hr : amtB a = false := by unfold finB at h; unfold amtB; simp at h ⊢; omega
        rw [hr]
        have hz : ((a : Int) == 0) = false := by simp [z]
        clear c z hr
        go_enter Try.func65, Try.ntmps65
        go_wp2_with (go_at_call 109; refine (l01Finite_any a ha _).mono ?_; rintro e w' ⟨rfl, n, rfl⟩)
        go_ret
        exact Rd.mkN

/-- 'at least 0' and 'at most the greatest', of any word -/
theorem ge0_word {a : Nat} (ha : a < 4294967296) : (FloatKind.f32.format.order a 0 == some .gt || FloatKind.f32.format.order a 0 == some .eq) = decide (a ≤ 2139095040 ∨ a = 2147483648) := by
  by_cases n : nanB a = true
  · rw [order_nanL ha n, decide_eq_false (by unfold nanB at n; simp at n; omega)]; rfl
  · have n' : a % 2147483648 ≤ 2139095040 := by unfold nanB at n; simp at n; omega
    by_cases c : a < 2147483648
    · rw [ge_amt (x := a) (y := 0) (by omega) (by omega), decide_eq_true (by omega), decide_eq_true (by omega)]
    · obtain ⟨r, rfl⟩ : ∃ r, a = 2147483648 + r := ⟨a - 2147483648, by omega⟩
      by_cases z : r = 0
      · subst z; rw [Nat.add_zero, order_negzero (by omega)]; rfl
      · rw [order_neg (by omega) (by omega) (by omega), decide_eq_false (by omega)]; rfl

theorem Signbit_any (a : Nat) (ha : a < 4294967296) (hn : nanB a = false) (w : World) :
    Calls Try.prog 133 #[.float .f64 (wideB a)] w fun e w' => e = .returned (.bool (decide (2147483648 ≤ a))) ∧ w = w' := by
  have hc := call_f64bits
  obtain ⟨h1, h2⟩ := wide_sign ha hn
  generalize wideB a = x at *
  by_cases c : 2147483648 ≤ a
  · rw [decide_eq_true c]
    have h3 : decide (wrap64 (x : Int) < 0) = true := decide_eq_true (by unfold wrap64; omega)
    clear h1 h2 c
    go_enter Try.func133, Try.ntmps133
    go_wp2
    go_ret
    exact ⟨rfl, rfl⟩
  · rw [decide_eq_false c]
    have h3 : decide (wrap64 (x : Int) < 0) = false := decide_eq_false (by unfold wrap64; omega)
    clear h1 h2 c
    go_enter Try.func133, Try.ntmps133
    go_wp2
    go_ret
    exact ⟨rfl, rfl⟩

theorem IsAmount_any (a : Nat) (ha : a < 4294967296) (w : World) :
    Calls Try.prog 112 #[.float .f32 a] w (Rd (.bool (amtB a)) w) := by
  have hg := ge0_word ha
  by_cases c : a ≤ 2139095040 ∨ a = 2147483648
  · rw [decide_eq_true c] at hg
    have hn : nanB a = false := by unfold nanB; simp; omega
    by_cases z : a = 2147483648
    · subst z
      have hm : (FloatKind.f32.format.order 2147483648 2139095039 == some .lt || FloatKind.f32.format.order 2147483648 2139095039 == some .eq) = true := by decide
      have hw := wide_at ha hn
      have hr : amtB 2147483648 = false := rfl
      rw [hr]
      clear c hr
      go_enter Try.func112, Try.ntmps112
      go_wp2_with (go_at_call 133; refine (Signbit_any _ ha hn _).mono ?_; rintro e w' ⟨rfl, rfl⟩)
      go_ret
      exact Rd.mk0
    · have hx : a ≤ 2139095040 := by omega
      have hm := le_amt (x := a) (y := 2139095039) hx (by omega)
      by_cases y : a < 2139095040
      · rw [decide_eq_true (by omega)] at hm
        have hw := wide_at ha hn
        have hr : amtB a = true := by unfold amtB; simpa using y
        rw [hr]
        have hs : decide (2147483648 ≤ a) = false := decide_eq_false (by omega)
        clear c z hx y hr
        go_enter Try.func112, Try.ntmps112
        go_wp2_with (go_at_call 133; refine (Signbit_any _ ha hn _).mono ?_; rintro e w' ⟨rfl, rfl⟩)
        go_ret
        exact Rd.mk0
      · rw [decide_eq_false (by omega)] at hm
        have hr : amtB a = false := by unfold amtB; simpa using y
        rw [hr]
        clear c z hx y hr
        go_enter Try.func112, Try.ntmps112
        go_wp2
        go_ret
        exact Rd.mk0
  · rw [decide_eq_false c] at hg
    have hr : amtB a = false := by unfold amtB; simp; omega
    rw [hr]
    clear c hr
    go_enter Try.func112, Try.ntmps112
    go_wp2
    go_ret
    exact Rd.mk0

end Go.Proofs.Ytboahhipobcabab

/-
  CONTRACTS: roads that are valid, roads handed over.
-/
namespace Go.Proofs.Ytboahhipobcabab
open Go Go.RowKit

theorem u32_lt {xs : List Nat} (h : ∀ x ∈ xs, x < 4294967296) (k : Nat) : nth xs k < 4294967296 := by
  simp only [nth, List.getD]
  cases e : xs[k]? with
  | none => simp
  | some v => simp; exact h v (List.mem_of_getElem? e)

/-- valid, of the numbers of a road -/
def paceB (x : Nat) : Bool := decide (1015021568 ≤ x ∧ x ≤ 1065353216)
def lanesB (x : Nat) : Bool := decide (1048576000 ≤ x ∧ x ≤ 1090519040)
def okB (cs : List Nat) (p b l : Nat) : Bool := cs.all shrB && paceB p && paceB b && lanesB l

/-- a word against constants that are amounts -/
theorem ge_word {a c : Nat} (ha : a < 4294967296) (hc : c ≤ 2139095040) (h0 : 0 < c) : (FloatKind.f32.format.order a c == some .gt || FloatKind.f32.format.order a c == some .eq) = decide (c ≤ a ∧ a ≤ 2139095040) := by
  by_cases n : nanB a = true
  · rw [order_nanL ha n, decide_eq_false (by unfold nanB at n; simp at n; omega)]; rfl
  · have n' : a % 2147483648 ≤ 2139095040 := by unfold nanB at n; simp at n; omega
    by_cases c : a < 2147483648
    · rw [ge_amt (x := a) (by omega) hc]; congr 1; apply propext; omega
    · obtain ⟨r, rfl⟩ : ∃ r, a = 2147483648 + r := ⟨a - 2147483648, by omega⟩
      rw [decide_eq_false (by omega)]
      by_cases z : r = 0
      · subst z; rw [Nat.add_zero, order_negzero hc, Nat.compare_eq_lt.2 h0]; rfl
      · rw [order_neg (by omega) (by omega) hc]; rfl

theorem nth_mem {cs : List Nat} {k : Nat} (h : k < cs.length) : nth cs k ∈ cs := by
  unfold nth
  rw [List.getD_eq_getElem?_getD, List.getElem?_eq_getElem h]
  exact List.getElem_mem h
theorem okB_no_car {cs : List Nat} (p b l : Nat) {k : Nat} (h : k < cs.length) (hs : shrB (nth cs k) = false) : okB cs p b l = false := by
  have : cs.all shrB = false := by
    rw [Bool.eq_false_iff]
    intro h2
    rw [List.all_eq_true.1 h2 _ (nth_mem h)] at hs
    cases hs
  unfold okB; rw [this]; rfl
theorem all_take {q : Nat → Bool} {cs : List Nat} {k : Nat} (h : (cs.take k).all q = true) (hk : k < cs.length) (hs : q (nth cs k) = true) : (cs.take (k + 1)).all q = true := by
  rw [List.take_succ_eq_append_getElem hk, List.all_append, h]
  unfold nth at hs
  rw [List.getD_eq_getElem?_getD, List.getElem?_eq_getElem hk] at hs
  simpa using hs

end Go.Proofs.Ytboahhipobcabab

/-
  CONTRACTS: the model's valid road, by a pointer and by value.
-/
namespace Go.Proofs.Ytboahhipobcabab
open Go Go.RowKit

/-- the block g holds a road -/
def RoadAt (w : World) (g : Nat) (cs : List Nat) (p b l : Nat) : Prop := ∃ T fr, w.heap[g]? = some (.cells (rd cs p b l) T fr)
section
variable {w : World} {g : Nat} {cs : List Nat} {p b l : Nat} (h : RoadAt w g cs p b l) (hl : cs.length = 16)
include h hl
theorem RoadAt.car {k : Nat} (hk : k < 16) : w.cell? ⟨g, k, none⟩ = some (.float .f32 (nth cs k)) := by
  obtain ⟨T, fr, hg⟩ := h; rw [cell_of_row w g k _ T fr hg]; exact rd_cell hl p b l hk
theorem RoadAt.pace : w.cell? ⟨g, 16, none⟩ = some (.float .f32 p) := by
  obtain ⟨T, fr, hg⟩ := h; rw [cell_of_row w g 16 _ T fr hg]; exact rd_pace hl p b l
theorem RoadAt.back : w.cell? ⟨g, 17, none⟩ = some (.float .f32 b) := by
  obtain ⟨T, fr, hg⟩ := h; rw [cell_of_row w g 17 _ T fr hg]; exact rd_back hl p b l
theorem RoadAt.lanes : w.cell? ⟨g, 18, none⟩ = some (.float .f32 l) := by
  obtain ⟨T, fr, hg⟩ := h; rw [cell_of_row w g 18 _ T fr hg]; exact rd_lanes hl p b l
end
theorem RoadAt.drewN {w : World} {g : Nat} {cs : List Nat} {p b l : Nat} (h : RoadAt w g cs p b l) (n : Nat) : RoadAt (w.drewN n) g cs p b l := h
theorem RoadAt.new (w : World) (cs : List Nat) (p b l : Nat) (T : TypeId) : RoadAt (w.alloc (.cells (rd cs p b l) T)) w.heap.size cs p b l := ⟨T, _, heap_last _ _⟩
theorem RoadAt.old {w : World} {g : Nat} {cs : List Nat} {p b l : Nat} (h : RoadAt w g cs p b l) (o : Obj) : RoadAt (w.alloc o) g cs p b l := by
  obtain ⟨T, fr, hg⟩ := h; exact ⟨T, fr, heap_old hg o⟩

end Go.Proofs.Ytboahhipobcabab

/-
  CONTRACTS: a law's road made the program's.
-/
namespace Go.Proofs.Ytboahhipobcabab
open Go Go.RowKit

/-- what a copy has after k places -/
def cur (ys : List Nat) (k : Nat) : List Nat := ys.take k ++ List.replicate (16 - k) 0
theorem cur_len {ys : List Nat} (h : ys.length = 16) (k : Nat) (hk : k ≤ 16) : (cur ys k).length = 16 := by simp [cur, h]; omega
theorem cur_set {ys : List Nat} (h : ys.length = 16) {k : Nat} (hk : k < 16) : (cur ys k).set k (nth ys k) = cur ys (k + 1) := by
  unfold cur nth
  rw [List.set_append_right _ _ (by simp; omega), List.take_succ_eq_append_getElem (by omega), List.getD_eq_getElem?_getD, List.getElem?_eq_getElem (by omega)]
  rw [show k - (List.take k ys).length = 0 from by simp; omega, show 16 - k = (16 - (k + 1)) + 1 from by omega, List.replicate_succ, List.append_assoc]
  rfl
theorem cur_all {ys : List Nat} (h : ys.length = 16) : cur ys 16 = ys := by simp [cur, ← h]

theorem below_alloc {B : Nat} {a w : World} (h : Below B a w) (hB : B ≤ w.heap.size) (c : Array Value) (t : TypeId) : Below B a (w.alloc (.cells c t)) := h.alloc hB _
theorem below3 (w : World) (A B C : Obj) : Below w.heap.size w (((w.alloc A).alloc B).alloc C) :=
  (((Below.refl _ _).alloc (Nat.le_refl _) _).alloc (by simp) _).alloc (by simp; omega) _

/-- a road in the making -/
def mk3 (cs : List Nat) (p b l : Nat) : Array Value := fl (cs ++ [p, b, l])
theorem mk3_p {cs : List Nat} (h : cs.length = 16) (p b l x : Nat) : (mk3 cs p b l).setIfInBounds 16 (.float .f32 x) = mk3 cs x b l := by
  unfold mk3; rw [fl_set, List.set_append_right _ _ (by omega), h]; rfl
theorem mk3_b {cs : List Nat} (h : cs.length = 16) (p b l x : Nat) : (mk3 cs p b l).setIfInBounds 17 (.float .f32 x) = mk3 cs p x l := by
  unfold mk3; rw [fl_set, List.set_append_right _ _ (by omega), h]; rfl
theorem mk3_l {cs : List Nat} (h : cs.length = 16) (p b l x : Nat) : (mk3 cs p b l).setIfInBounds 18 (.float .f32 x) = mk3 cs p b x := by
  unfold mk3; rw [fl_set, List.set_append_right _ _ (by omega), h]; rfl
theorem mk3_size {cs : List Nat} (h : cs.length = 16) (p b l : Nat) : (mk3 cs p b l).size = 19 := by simp [mk3, fl_size, h]

theorem cell_setRow_other (w : World) (g k j : Nat) (c : Array Value) (h : k ≠ g) : (w.setRow g c).cell? ⟨k, j, none⟩ = w.cell? ⟨k, j, none⟩ := by
  simp only [World.cell?]; rw [heap_setRow_other w g k c h]

theorem three (w : World) (A B C : Obj) : (((w.alloc A).alloc B).alloc C).heap[w.heap.size]? = some A ∧ (((w.alloc A).alloc B).alloc C).heap[w.heap.size + 1]? = some B ∧ (((w.alloc A).alloc B).alloc C).heap[w.heap.size + 1 + 1]? = some C := by
  refine ⟨heap_old (heap_old (heap_last _ _) _) _, heap_old (by have := heap_last (w.alloc A) B; rwa [World.size_alloc] at this) _, by have := heap_last ((w.alloc A).alloc B) C; rwa [World.size_alloc, World.size_alloc] at this⟩

end Go.Proofs.Ytboahhipobcabab
