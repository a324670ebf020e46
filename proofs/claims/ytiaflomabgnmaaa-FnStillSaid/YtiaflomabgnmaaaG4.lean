/-
  SEVERAL TEXTS IN ONE.
-/
import Derived.Test.YtiaflomabgnmaaaG3
import Derived.Test.YtiaflomabgnmaaaG1
import Derived.Deep.LoopGhost
import Derived.Deep.RegionWith

/-
  CONTRACTS: roads that are valid, roads handed over.
-/
namespace Go.Proofs.Ytiaflomabgnmaaa
open Go Go.RowKit

theorem u32_lt {xs : List Nat} (h : ∀ x ∈ xs, x < 4294967296) (k : Nat) : nth xs k < 4294967296 := by
  simp only [nth, List.getD]
  cases e : xs[k]? with
  | none => simp
  | some v => simp; exact h v (List.mem_of_getElem? e)

/-- valid, of the numbers of a road -/
def paceB (x : Nat) : Bool := decide (1015021568 ≤ x ∧ x ≤ 1065353216)
def lanesB (x : Nat) : Bool := decide (1048576000 ≤ x ∧ x ≤ 1090519040)
def okB (cs : List Nat) (p b l : Nat) : Bool := cs.all shrB && paceB p && paceB b && lanesB l

theorem isPace_any (a : Nat) (ha : a < 4294967296) (w : World) :
    Calls Try.prog 31 #[.float .f32 a] w (Rd (.bool (paceB a)) w) := by
  cases h : shrB a
  · have hr : paceB a = false := by unfold shrB at h; unfold paceB; simp at h ⊢; omega
    rw [hr]; clear hr
    go_enter Try.func31, Try.ntmps31
    go_wp2_with (go_at_call 21; refine (IsShare_any a ha _).mono ?_; rintro e w' ⟨rfl, n, rfl⟩)
    go_ret
    exact Rd.mkN
  · have hle : a ≤ 1065353216 := by unfold shrB at h; simpa using h
    have hm := ge_amt (x := a) (y := 1015021568) (by omega) (by omega)
    have hr : paceB a = decide (1015021568 ≤ a) := by unfold paceB; simp [hle]
    rw [← hr] at hm; clear hr
    go_enter Try.func31, Try.ntmps31
    go_wp2_with (go_at_call 21; refine (IsShare_any a ha _).mono ?_; rintro e w' ⟨rfl, n, rfl⟩)
    go_ret
    exact Rd.mkN

/-- a word against constants that are amounts -/
theorem ge_word {a c : Nat} (ha : a < 4294967296) (hc : c ≤ 2139095040) (h0 : 0 < c) : (FloatKind.f32.format.order a c == some .gt || FloatKind.f32.format.order a c == some .eq) = decide (c ≤ a ∧ a ≤ 2139095040) := by
  by_cases n : nanB a = true
  · rw [order_nanL ha n, decide_eq_false (by unfold nanB at n; simp at n; omega)]; rfl
  · have n' : a % 2147483648 ≤ 2139095040 := by unfold nanB at n; simp at n; omega
    by_cases c : a < 2147483648
    · rw [ge_amt (x := a) (by omega) hc]; congr 1; apply propext; omega
    · obtain ⟨r, rfl⟩ : ∃ r, a = 2147483648 + r := ⟨a - 2147483648, by omega⟩
      rw [decide_eq_false (by omega)]
      by_cases z : r = 0
      · subst z; rw [Nat.add_zero, order_negzero hc, Nat.compare_eq_lt.2 h0]; rfl
      · rw [order_neg (by omega) (by omega) hc]; rfl

theorem isLanes_any (a : Nat) (ha : a < 4294967296) (w : World) :
    Calls Try.prog 32 #[.float .f32 a] w (Rd (.bool (lanesB a)) w) := by
  have hg := ge_word (c := 1048576000) ha (by omega) (by omega)
  by_cases c : 1048576000 ≤ a ∧ a ≤ 2139095040
  · have hm := le_amt (x := a) (y := 1090519040) (by omega) (by omega)
    have hr : lanesB a = decide (a ≤ 1090519040) := by unfold lanesB; congr 1; apply propext; omega
    rw [decide_eq_true c] at hg
    rw [← hr] at hm
    clear c hr
    go_enter Try.func32, Try.ntmps32
    go_wp2
    go_ret
    exact Rd.mk0
  · have hr : lanesB a = false := by unfold lanesB; simp; omega
    rw [decide_eq_false c] at hg
    rw [hr]; clear c hr
    go_enter Try.func32, Try.ntmps32
    go_wp2
    go_ret
    exact Rd.mk0

theorem nth_mem {cs : List Nat} {k : Nat} (h : k < cs.length) : nth cs k ∈ cs := by
  unfold nth
  rw [List.getD_eq_getElem?_getD, List.getElem?_eq_getElem h]
  exact List.getElem_mem h
theorem okB_no_car {cs : List Nat} (p b l : Nat) {k : Nat} (h : k < cs.length) (hs : shrB (nth cs k) = false) : okB cs p b l = false := by
  have : cs.all shrB = false := by
    rw [Bool.eq_false_iff]
    intro h2
    rw [List.all_eq_true.1 h2 _ (nth_mem h)] at hs
    cases hs
  unfold okB; rw [this]; rfl
theorem all_take {q : Nat → Bool} {cs : List Nat} {k : Nat} (h : (cs.take k).all q = true) (hk : k < cs.length) (hs : q (nth cs k) = true) : (cs.take (k + 1)).all q = true := by
  rw [List.take_succ_eq_append_getElem hk, List.all_append, h]
  unfold nth at hs
  rw [List.getD_eq_getElem?_getD, List.getElem?_eq_getElem hk] at hs
  simpa using hs

theorem ValidRoad_any (cs : List Nat) (p b l : Nat) (hl : cs.length = 16) (hc : ∀ x ∈ cs, x < 4294967296) (hp : p < 4294967296) (hb : b < 4294967296) (hla : l < 4294967296) (w : World) :
    Calls Try.prog 17 #[.agg (rd cs p b l)] w fun e w' => e = .returned (.bool (okB cs p b l)) ∧ Below w.heap.size w w' := by
  have hL := run_loadAt_part (P := Try.prog) (w.alloc (.cells (rd cs p b l) 28)) w.heap.size 0 16 26 (rd cs p b l) 28 (0, 0) _ (heap_last _ _) Try.underlying26 rfl (by kernel_rfl) (by rw [rd_size hl]; omega)
  rw [Nat.zero_add, rd_cars hl] at hL
  have HL := Lib.hid hL
  clear hL
  go_enter Try.func17, Try.ntmps17
  go_wp2_with ((with_reducible refine is_load 26 _ rfl ?_); refine wpList_load_of rfl 26 _ rfl _ rfl _ HL.out ?_)
  clear HL
  go_loopw [7] (fun i wr => ∃ k n : Nat, k ≤ 16 ∧ i = .int .i64 k ∧ Hid ((cs.take k).all shrB = true) ∧ wr = (w.alloc (.cells (rd cs p b l) 28)).drewN n) (fun i _ => 16 - (intOf i).toNat)
  case atStart => exact ⟨0, 0, by omega, rfl, rfl, rfl⟩
  case round =>
    obtain ⟨k, n, hk, rfl, hall, rfl⟩ := hrel
    by_cases hlt : k < 16
    · have hi : ∀ W, (Instr.index 26 (.agg (fl cs)) (.int .i64 k)).run Try.prog W = .ok (.float .f32 (nth cs k)) W := fun W =>
        run_index_fl W 26 24 16 cs k Try.underlying26 Try.underlying24 (by kernel_rfl) hlt hl.symm
      have hx := u32_lt hc k
      cases hs : shrB (nth cs k)
      · have hno := okB_no_car p b l (k := k) (by omega) hs
        go_wp2_with (go_at_call 21; refine (IsShare_any _ hx _).mono ?_; rintro e w' ⟨rfl, n', rfl⟩)
        go_ret
        exact ⟨by rw [hno]; rfl, below_drewN ((Below.refl _ _).alloc (Nat.le_refl _) _) _⟩
      · go_wp2_with (go_at_call 21; refine (IsShare_any _ hx _).mono ?_; rintro e w' ⟨rfl, n', rfl⟩)
        exact ⟨⟨k + 1, n + n', by omega, by go_num, all_take hall.out (by omega) hs, rfl⟩, by simp [intOf]; omega⟩
    · have h16 : k = 16 := by omega
      have Hall : Hid (cs.all shrB = true) := by have := hall.out; rw [h16, ← hl, List.take_length] at this; exact this
      clear hall
      obtain rfl := h16
      have c16 := rd_pace hl p b l
      have c17 := rd_back hl p b l
      have c18 := rd_lanes hl p b l
      have hok : Hid (okB cs p b l = (paceB p && paceB b && lanesB l)) := by show okB cs p b l = _; unfold okB; rw [Hall.out, Bool.true_and]
      clear Hall
      cases h1 : paceB p
      · go_wp2_with (go_at_call 31; refine (isPace_any _ (by assumption) _).mono ?_; rintro e w' ⟨rfl, n', rfl⟩)
        go_ret
        exact ⟨by rw [hok.out, h1]; rfl, below_drewN ((Below.refl _ _).alloc (Nat.le_refl _) _) _⟩
      · cases h2 : paceB b
        · go_wp2_with (first | (go_at_call 31; refine (isPace_any _ (by assumption) _).mono ?_; rintro e w' ⟨rfl, n', rfl⟩))
          go_ret
          exact ⟨by rw [hok.out, h1, h2]; rfl, below_drewN ((Below.refl _ _).alloc (Nat.le_refl _) _) _⟩
        · go_wp2_with (first | (go_at_call 31; refine (isPace_any _ (by assumption) _).mono ?_; rintro e w' ⟨rfl, n', rfl⟩) | (go_at_call 32; refine (isLanes_any l hla _).mono ?_; rintro e w' ⟨rfl, n3, rfl⟩))
          go_ret
          exact ⟨by rw [hok.out, h1, h2]; rfl, below_drewN ((Below.refl _ _).alloc (Nat.le_refl _) _) _⟩
end Go.Proofs.Ytiaflomabgnmaaa

/-
  CONTRACTS: the model's valid road, by a pointer and by value.
-/
namespace Go.Proofs.Ytiaflomabgnmaaa
open Go Go.RowKit

/-- the block g holds a road -/
def RoadAt (w : World) (g : Nat) (cs : List Nat) (p b l : Nat) : Prop := ∃ T fr, w.heap[g]? = some (.cells (rd cs p b l) T fr)
section
variable {w : World} {g : Nat} {cs : List Nat} {p b l : Nat} (h : RoadAt w g cs p b l) (hl : cs.length = 16)
include h hl
theorem RoadAt.car {k : Nat} (hk : k < 16) : w.cell? ⟨g, k, none⟩ = some (.float .f32 (nth cs k)) := by
  obtain ⟨T, fr, hg⟩ := h; rw [cell_of_row w g k _ T fr hg]; exact rd_cell hl p b l hk

theorem RoadAt.pace : w.cell? ⟨g, 16, none⟩ = some (.float .f32 p) := by
  obtain ⟨T, fr, hg⟩ := h; rw [cell_of_row w g 16 _ T fr hg]; exact rd_pace hl p b l

theorem RoadAt.back : w.cell? ⟨g, 17, none⟩ = some (.float .f32 b) := by
  obtain ⟨T, fr, hg⟩ := h; rw [cell_of_row w g 17 _ T fr hg]; exact rd_back hl p b l

theorem RoadAt.lanes : w.cell? ⟨g, 18, none⟩ = some (.float .f32 l) := by
  obtain ⟨T, fr, hg⟩ := h; rw [cell_of_row w g 18 _ T fr hg]; exact rd_lanes hl p b l
end

theorem RoadAt.drewN {w : World} {g : Nat} {cs : List Nat} {p b l : Nat} (h : RoadAt w g cs p b l) (n : Nat) : RoadAt (w.drewN n) g cs p b l := h

theorem RoadAt.new (w : World) (cs : List Nat) (p b l : Nat) (T : TypeId) : RoadAt (w.alloc (.cells (rd cs p b l) T)) w.heap.size cs p b l := ⟨T, _, heap_last _ _⟩

theorem RoadAt.old {w : World} {g : Nat} {cs : List Nat} {p b l : Nat} (h : RoadAt w g cs p b l) (o : Obj) : RoadAt (w.alloc o) g cs p b l := by
  obtain ⟨T, fr, hg⟩ := h; exact ⟨T, fr, heap_old hg o⟩

end Go.Proofs.Ytiaflomabgnmaaa

/-
  CONTRACTS: a law's road made the program's.
-/
namespace Go.Proofs.Ytiaflomabgnmaaa
open Go Go.RowKit

/-- what a copy has after k places -/
def cur (ys : List Nat) (k : Nat) : List Nat := ys.take k ++ List.replicate (16 - k) 0

theorem cur_len {ys : List Nat} (h : ys.length = 16) (k : Nat) (hk : k ≤ 16) : (cur ys k).length = 16 := by simp [cur, h]; omega

theorem cur_set {ys : List Nat} (h : ys.length = 16) {k : Nat} (hk : k < 16) : (cur ys k).set k (nth ys k) = cur ys (k + 1) := by
  unfold cur nth
  rw [List.set_append_right _ _ (by simp; omega), List.take_succ_eq_append_getElem (by omega), List.getD_eq_getElem?_getD, List.getElem?_eq_getElem (by omega)]
  rw [show k - (List.take k ys).length = 0 from by simp; omega, show 16 - k = (16 - (k + 1)) + 1 from by omega, List.replicate_succ, List.append_assoc]
  rfl

theorem cur_all {ys : List Nat} (h : ys.length = 16) : cur ys 16 = ys := by simp [cur, ← h]

theorem below_alloc {B : Nat} {a w : World} (h : Below B a w) (hB : B ≤ w.heap.size) (c : Array Value) (t : TypeId) : Below B a (w.alloc (.cells c t)) := h.alloc hB _

theorem below3 (w : World) (A B C : Obj) : Below w.heap.size w (((w.alloc A).alloc B).alloc C) :=
  (((Below.refl _ _).alloc (Nat.le_refl _) _).alloc (by simp) _).alloc (by simp; omega) _

/-- a road in the making -/
def mk3 (cs : List Nat) (p b l : Nat) : Array Value := fl (cs ++ [p, b, l])

theorem mk3_p {cs : List Nat} (h : cs.length = 16) (p b l x : Nat) : (mk3 cs p b l).setIfInBounds 16 (.float .f32 x) = mk3 cs x b l := by
  unfold mk3; rw [fl_set, List.set_append_right _ _ (by omega), h]; rfl

theorem mk3_b {cs : List Nat} (h : cs.length = 16) (p b l x : Nat) : (mk3 cs p b l).setIfInBounds 17 (.float .f32 x) = mk3 cs p x l := by
  unfold mk3; rw [fl_set, List.set_append_right _ _ (by omega), h]; rfl

theorem mk3_l {cs : List Nat} (h : cs.length = 16) (p b l x : Nat) : (mk3 cs p b l).setIfInBounds 18 (.float .f32 x) = mk3 cs p b x := by
  unfold mk3; rw [fl_set, List.set_append_right _ _ (by omega), h]; rfl

theorem mk3_size {cs : List Nat} (h : cs.length = 16) (p b l : Nat) : (mk3 cs p b l).size = 19 := by simp [mk3, fl_size, h]

theorem cell_setRow_other (w : World) (g k j : Nat) (c : Array Value) (h : k ≠ g) : (w.setRow g c).cell? ⟨k, j, none⟩ = w.cell? ⟨k, j, none⟩ := by
  simp only [World.cell?]; rw [heap_setRow_other w g k c h]

theorem three (w : World) (A B C : Obj) : (((w.alloc A).alloc B).alloc C).heap[w.heap.size]? = some A ∧ (((w.alloc A).alloc B).alloc C).heap[w.heap.size + 1]? = some B ∧ (((w.alloc A).alloc B).alloc C).heap[w.heap.size + 1 + 1]? = some C := by
  refine ⟨heap_old (heap_old (heap_last _ _) _) _, heap_old (by have := heap_last (w.alloc A) B; rwa [World.size_alloc] at this) _, by have := heap_last ((w.alloc A).alloc B) C; rwa [World.size_alloc, World.size_alloc] at this⟩

end Go.Proofs.Ytiaflomabgnmaaa

/-
  CONTRACTS: how a law holds two answers that are one against each other.
-/
namespace Go.Proofs.Ytiaflomabgnmaaa
open Go Go.RowKit

theorem order64_zero {x : Nat} (h : x < 4294967296) (hn : nanB x = false) : (FloatKind.f64.format.order (wideB x) 0 == some .eq) = decide (x % 2147483648 = 0) := by
  obtain ⟨R, h1, h2, h3⟩ := wide_form h hn
  rw [h1]
  generalize decide (2147483648 ≤ x) = s
  show (S64.order (S64.word s R) (S64.word false 0) == some .eq) = _
  by_cases c : R = 9218868437227405312
  · subst c
    have hi := read_inf S64 d_bin s
    rw [d_inf] at hi
    obtain ⟨m, i, k1, -, -⟩ := read_fin S64 false (r := 0) (by rw [d_inf]; omega)
    unfold Ieee.Format.order
    rw [hi, k1, decide_eq_false (by omega)]
    cases s <;> rfl
  · rw [order_fin S64 s false (r := R) (q := 0) (by rw [d_inf]; omega) (by rw [d_inf]; omega), rv_zero]
    by_cases z : R = 0
    · rw [decide_eq_true (h3.1 z), z, rv_zero]; cases s <;> rfl
    · rw [decide_eq_false (fun e => z (h3.2 e))]
      have hp := rv_pos (p := S64.fractionBits) (r := R) (by omega)
      have : compare (sg s (rv S64.fractionBits R)) (sg false 0) ≠ .eq := by
        intro e
        have e' := Int.compare_eq_eq.1 e
        cases s <;> simp [sg] at e' <;> omega
      cases hc : compare (sg s (rv S64.fractionBits R)) (sg false 0) <;> simp_all

theorem zero_words {x : Nat} (h : x < 4294967296) (hz : x % 2147483648 = 0) : wideB x = 0 ∨ wideB x = 9223372036854775808 := by
  rcases (by omega : x = 0 ∨ x = 2147483648) with rfl | rfl
  · exact .inl (by decide)
  · exact .inr (by decide)

/-- two blocks behind those of w -/
def Two (w : World) (c1 : Array Value) (t1 : TypeId) (c2 : Array Value) (t2 : TypeId) (wr : World) : Prop :=
  wr.heap[w.heap.size]? = some (.cells c1 t1 (0, 0)) ∧ wr.heap[w.heap.size + 1]? = some (.cells c2 t2 (0, 0)) ∧ Below w.heap.size w wr

theorem Two.mk (w : World) (c1 : Array Value) (t1 : TypeId) (c2 : Array Value) (t2 : TypeId) : Two w c1 t1 c2 t2 ((w.alloc (.cells c1 t1)).alloc (.cells c2 t2)) :=
  ⟨heap_old (heap_last _ _) _, by have := heap_last (w.alloc (.cells c1 t1)) (.cells c2 t2); rwa [World.size_alloc] at this, ((Below.refl _ _).alloc (Nat.le_refl _) _).alloc (by simp) _⟩

theorem Two.drewN {w : World} {c1 : Array Value} {t1 : TypeId} {c2 : Array Value} {t2 : TypeId} {wr : World} (h : Two w c1 t1 c2 t2 wr) (n : Nat) : Two w c1 t1 c2 t2 (wr.drewN n) := ⟨h.1, h.2.1, below_drewN h.2.2 n⟩

theorem Two.cell1 {w : World} {c1 : Array Value} {t1 : TypeId} {c2 : Array Value} {t2 : TypeId} {wr : World} (h : Two w c1 t1 c2 t2 wr) {k : Nat} {v : Value} (hk : c1[k]? = some v) : wr.cell? ⟨w.heap.size, k, none⟩ = some v := by
  rw [cell_of_row _ _ _ _ _ _ h.1]; exact hk

theorem Two.cell2 {w : World} {c1 : Array Value} {t1 : TypeId} {c2 : Array Value} {t2 : TypeId} {wr : World} (h : Two w c1 t1 c2 t2 wr) {k : Nat} {v : Value} (hk : c2[k]? = some v) : wr.cell? ⟨w.heap.size + 1, k, none⟩ = some v := by
  rw [cell_of_row _ _ _ _ _ _ h.2.1]; exact hk

theorem Two.step {w : World} {c1 : Array Value} {t1 : TypeId} {c2 : Array Value} {t2 : TypeId} {wr w1 : World} (h : Two w c1 t1 c2 t2 wr) (hb : Below wr.heap.size wr w1) : Two w c1 t1 c2 t2 w1 := by
  have hlt : w.heap.size + 1 < wr.heap.size := by
    rcases Nat.lt_or_ge (w.heap.size + 1) wr.heap.size with c | c
    · exact c
    · have := h.2.1; rw [Array.getElem?_eq_none c] at this; cases this
  exact ⟨(hb.block _ (by omega)).trans h.1, (hb.block _ hlt).trans h.2.1, h.2.2.trans (hb.mono (by omega))⟩

/-- a valid road has no NaN -/
def goodL (cs : List Nat) (p b l : Nat) : Prop := cs.length = 16 ∧ (∀ x ∈ cs, x < 4294967296 ∧ nanB x = false) ∧ (p < 4294967296 ∧ nanB p = false) ∧ (b < 4294967296 ∧ nanB b = false) ∧ (l < 4294967296 ∧ nanB l = false)

theorem nan_le {x c : Nat} (h : x ≤ c) (hc : c ≤ 2139095040) : x < 4294967296 ∧ nanB x = false := by
  refine ⟨by omega, ?_⟩
  unfold nanB
  simp
  omega

theorem okB_good {cs : List Nat} {p b l : Nat} (hl : cs.length = 16) (h : okB cs p b l = true) : goodL cs p b l := by
  unfold okB paceB lanesB at h
  simp only [Bool.and_eq_true, List.all_eq_true, decide_eq_true_eq] at h
  obtain ⟨⟨⟨h1, h2⟩, h3⟩, h4⟩ := h
  refine ⟨hl, fun x hx => nan_le (c := 1065353216) (by have := h1 x hx; unfold shrB at this; simpa using this) (by omega), nan_le h2.2 (by omega), nan_le h3.2 (by omega), nan_le h4.2 (by omega)⟩

theorem zero_good : goodL (zeros 16) 0 0 0 := ⟨zeros_len 16, fun x hx => by obtain rfl := List.eq_of_mem_replicate hx; decide, by decide, by decide, by decide⟩

end Go.Proofs.Ytiaflomabgnmaaa
