/-
  SEVERAL TEXTS IN ONE.
-/
import Derived.Test.YtapnkkbkhifmeaaNum
import Derived.Test.YtapnkkbkhifmeaaCell
import Derived.Deep.LoopGhost

/-
  CONTRACTS: roads that are valid, roads handed over.
-/
namespace Go.Proofs.Ytapnkkbkhifmeaa
open Go Go.RowKit

theorem u32_lt {xs : List Nat} (h : ∀ x ∈ xs, x < 4294967296) (k : Nat) : nth xs k < 4294967296 := by
  simp only [nth, List.getD]
  cases e : xs[k]? with
  | none => simp
  | some v => simp; exact h v (List.mem_of_getElem? e)

/-- valid, of the numbers of a road -/
def paceB (x : Nat) : Bool := decide (1015021568 ≤ x ∧ x ≤ 1065353216)
def lanesB (x : Nat) : Bool := decide (1048576000 ≤ x ∧ x ≤ 1090519040)
def okB (cs : List Nat) (p b l : Nat) : Bool := cs.all shrB && paceB p && paceB b && lanesB l

theorem isPace_any (a : Nat) (ha : a < 4294967296) (w : World) :
    Calls Try.prog 30 #[.float .f32 a] w (Rd (.bool (paceB a)) w) := by
  cases h : shrB a
  · have hr : paceB a = false := by unfold shrB at h; unfold paceB; simp at h ⊢; omega
    rw [hr]; clear hr
    go_enter Try.func30, Try.ntmps30
    go_wp2_with (go_at_call 29; refine (IsShare_any a ha _).mono ?_; rintro e w' ⟨rfl, n, rfl⟩)
    go_ret
    exact Rd.mkN
  · have hle : a ≤ 1065353216 := by unfold shrB at h; simpa using h
    have hm := ge_amt (x := a) (y := 1015021568) (by omega) (by omega)
    have hr : paceB a = decide (1015021568 ≤ a) := by unfold paceB; simp [hle]
    rw [← hr] at hm; clear hr
    go_enter Try.func30, Try.ntmps30
    go_wp2_with (go_at_call 29; refine (IsShare_any a ha _).mono ?_; rintro e w' ⟨rfl, n, rfl⟩)
    go_ret
    exact Rd.mkN

/-- a word against constants that are amounts -/
theorem ge_word {a c : Nat} (ha : a < 4294967296) (hc : c ≤ 2139095040) (h0 : 0 < c) : (FloatKind.f32.format.order a c == some .gt || FloatKind.f32.format.order a c == some .eq) = decide (c ≤ a ∧ a ≤ 2139095040) := by
  by_cases n : nanB a = true
  · rw [order_nanL ha n, decide_eq_false (by unfold nanB at n; simp at n; omega)]; rfl
  · have n' : a % 2147483648 ≤ 2139095040 := by unfold nanB at n; simp at n; omega
    by_cases c : a < 2147483648
    · rw [ge_amt (x := a) (by omega) hc]; congr 1; apply propext; omega
    · obtain ⟨r, rfl⟩ : ∃ r, a = 2147483648 + r := ⟨a - 2147483648, by omega⟩
      rw [decide_eq_false (by omega)]
      by_cases z : r = 0
      · subst z; rw [Nat.add_zero, order_negzero hc, Nat.compare_eq_lt.2 h0]; rfl
      · rw [order_neg (by omega) (by omega) hc]; rfl

theorem isLanes_any (a : Nat) (ha : a < 4294967296) (w : World) :
    Calls Try.prog 31 #[.float .f32 a] w (Rd (.bool (lanesB a)) w) := by
  have hg := ge_word (c := 1048576000) ha (by omega) (by omega)
  by_cases c : 1048576000 ≤ a ∧ a ≤ 2139095040
  · have hm := le_amt (x := a) (y := 1090519040) (by omega) (by omega)
    have hr : lanesB a = decide (a ≤ 1090519040) := by unfold lanesB; congr 1; apply propext; omega
    rw [decide_eq_true c] at hg
    rw [← hr] at hm
    clear c hr
    go_enter Try.func31, Try.ntmps31
    go_wp2
    go_ret
    exact Rd.mk0
  · have hr : lanesB a = false := by unfold lanesB; simp; omega
    rw [decide_eq_false c] at hg
    rw [hr]; clear c hr
    go_enter Try.func31, Try.ntmps31
    go_wp2
    go_ret
    exact Rd.mk0

theorem nth_mem {cs : List Nat} {k : Nat} (h : k < cs.length) : nth cs k ∈ cs := by
  unfold nth
  rw [List.getD_eq_getElem?_getD, List.getElem?_eq_getElem h]
  exact List.getElem_mem h
theorem okB_no_car {cs : List Nat} (p b l : Nat) {k : Nat} (h : k < cs.length) (hs : shrB (nth cs k) = false) : okB cs p b l = false := by
  have : cs.all shrB = false := by
    rw [Bool.eq_false_iff]
    intro h2
    rw [List.all_eq_true.1 h2 _ (nth_mem h)] at hs
    cases hs
  unfold okB; rw [this]; rfl
theorem all_take {q : Nat → Bool} {cs : List Nat} {k : Nat} (h : (cs.take k).all q = true) (hk : k < cs.length) (hs : q (nth cs k) = true) : (cs.take (k + 1)).all q = true := by
  rw [List.take_succ_eq_append_getElem hk, List.all_append, h]
  unfold nth at hs
  rw [List.getD_eq_getElem?_getD, List.getElem?_eq_getElem hk] at hs
  simpa using hs

theorem ValidRoad_any (cs : List Nat) (p b l : Nat) (hl : cs.length = 16) (hc : ∀ x ∈ cs, x < 4294967296) (hp : p < 4294967296) (hb : b < 4294967296) (hla : l < 4294967296) (w : World) :
    Calls Try.prog 12 #[.agg (rd cs p b l)] w fun e w' => e = .returned (.bool (okB cs p b l)) ∧ Below w.heap.size w w' := by
  have hL := run_loadAt_part (P := Try.prog) (w.alloc (.cells (rd cs p b l) 28)) w.heap.size 0 16 26 (rd cs p b l) 28 (0, 0) _ (heap_last _ _) Try.underlying26 rfl (by kernel_rfl) (by rw [rd_size hl]; omega)
  rw [Nat.zero_add, rd_cars hl] at hL
  have HL := Lib.hid hL
  clear hL
  go_enter Try.func12, Try.ntmps12
  go_wp2_with ((with_reducible refine is_load 26 _ rfl ?_); refine wpList_load_of rfl 26 _ rfl _ rfl _ HL.out ?_)
  clear HL
  go_loopw [7] (fun i wr => ∃ k n : Nat, k ≤ 16 ∧ i = .int .i64 k ∧ Hid ((cs.take k).all shrB = true) ∧ wr = (w.alloc (.cells (rd cs p b l) 28)).drewN n) (fun i _ => 16 - (intOf i).toNat)
  case atStart => exact ⟨0, 0, by omega, rfl, rfl, rfl⟩
  case round =>
    obtain ⟨k, n, hk, rfl, hall, rfl⟩ := hrel
    by_cases hlt : k < 16
    · have hi : ∀ W, (Instr.index 26 (.agg (fl cs)) (.int .i64 k)).run Try.prog W = .ok (.float .f32 (nth cs k)) W := fun W =>
        run_index_fl W 26 24 16 cs k Try.underlying26 Try.underlying24 (by kernel_rfl) hlt hl.symm
      have hx := u32_lt hc k
      cases hs : shrB (nth cs k)
      · have hno := okB_no_car p b l (k := k) (by omega) hs
        go_wp2_with (go_at_call 29; refine (IsShare_any _ hx _).mono ?_; rintro e w' ⟨rfl, n', rfl⟩)
        go_ret
        exact ⟨by rw [hno]; rfl, below_drewN ((Below.refl _ _).alloc (Nat.le_refl _) _) _⟩
      · go_wp2_with (go_at_call 29; refine (IsShare_any _ hx _).mono ?_; rintro e w' ⟨rfl, n', rfl⟩)
        exact ⟨⟨k + 1, n + n', by omega, by go_num, all_take hall.out (by omega) hs, rfl⟩, by simp [intOf]; omega⟩
    · have h16 : k = 16 := by omega
      have Hall : Hid (cs.all shrB = true) := by have := hall.out; rw [h16, ← hl, List.take_length] at this; exact this
      clear hall
      obtain rfl := h16
      have c16 := rd_pace hl p b l
      have c17 := rd_back hl p b l
      have c18 := rd_lanes hl p b l
      have hok : Hid (okB cs p b l = (paceB p && paceB b && lanesB l)) := by show okB cs p b l = _; unfold okB; rw [Hall.out, Bool.true_and]
      clear Hall
      cases h1 : paceB p
      · go_wp2_with (go_at_call 30; refine (isPace_any _ (by assumption) _).mono ?_; rintro e w' ⟨rfl, n', rfl⟩)
        go_ret
        exact ⟨by rw [hok.out, h1]; rfl, below_drewN ((Below.refl _ _).alloc (Nat.le_refl _) _) _⟩
      · cases h2 : paceB b
        · go_wp2_with (first | (go_at_call 30; refine (isPace_any _ (by assumption) _).mono ?_; rintro e w' ⟨rfl, n', rfl⟩))
          go_ret
          exact ⟨by rw [hok.out, h1, h2]; rfl, below_drewN ((Below.refl _ _).alloc (Nat.le_refl _) _) _⟩
        · go_wp2_with (first | (go_at_call 30; refine (isPace_any _ (by assumption) _).mono ?_; rintro e w' ⟨rfl, n', rfl⟩) | (go_at_call 31; refine (isLanes_any l hla _).mono ?_; rintro e w' ⟨rfl, n3, rfl⟩))
          go_ret
          exact ⟨by rw [hok.out, h1, h2]; rfl, below_drewN ((Below.refl _ _).alloc (Nat.le_refl _) _) _⟩
end Go.Proofs.Ytapnkkbkhifmeaa

/-
  CONTRACTS: the model's valid road, by a pointer and by value.
-/
namespace Go.Proofs.Ytapnkkbkhifmeaa
open Go Go.RowKit

/-- the block g holds a road -/
def RoadAt (w : World) (g : Nat) (cs : List Nat) (p b l : Nat) : Prop := ∃ T fr, w.heap[g]? = some (.cells (rd cs p b l) T fr)
section
variable {w : World} {g : Nat} {cs : List Nat} {p b l : Nat} (h : RoadAt w g cs p b l) (hl : cs.length = 16)
include h hl
theorem RoadAt.car {k : Nat} (hk : k < 16) : w.cell? ⟨g, k, none⟩ = some (.float .f32 (nth cs k)) := by
  obtain ⟨T, fr, hg⟩ := h; rw [cell_of_row w g k _ T fr hg]; exact rd_cell hl p b l hk

theorem RoadAt.pace : w.cell? ⟨g, 16, none⟩ = some (.float .f32 p) := by
  obtain ⟨T, fr, hg⟩ := h; rw [cell_of_row w g 16 _ T fr hg]; exact rd_pace hl p b l

theorem RoadAt.back : w.cell? ⟨g, 17, none⟩ = some (.float .f32 b) := by
  obtain ⟨T, fr, hg⟩ := h; rw [cell_of_row w g 17 _ T fr hg]; exact rd_back hl p b l

theorem RoadAt.lanes : w.cell? ⟨g, 18, none⟩ = some (.float .f32 l) := by
  obtain ⟨T, fr, hg⟩ := h; rw [cell_of_row w g 18 _ T fr hg]; exact rd_lanes hl p b l
end

theorem RoadAt.drewN {w : World} {g : Nat} {cs : List Nat} {p b l : Nat} (h : RoadAt w g cs p b l) (n : Nat) : RoadAt (w.drewN n) g cs p b l := h

theorem RoadAt.new (w : World) (cs : List Nat) (p b l : Nat) (T : TypeId) : RoadAt (w.alloc (.cells (rd cs p b l) T)) w.heap.size cs p b l := ⟨T, _, heap_last _ _⟩

theorem RoadAt.old {w : World} {g : Nat} {cs : List Nat} {p b l : Nat} (h : RoadAt w g cs p b l) (o : Obj) : RoadAt (w.alloc o) g cs p b l := by
  obtain ⟨T, fr, hg⟩ := h; exact ⟨T, fr, heap_old hg o⟩

theorem l01Ok_any (g : Nat) (cs : List Nat) (p b l : Nat) (hl : cs.length = 16) (hc : ∀ x ∈ cs, x < 4294967296) (hp : p < 4294967296) (hb : b < 4294967296) (hla : l < 4294967296) (w : World) (hr : RoadAt w g cs p b l) :
    Calls Try.prog 38 #[.pointer (some ⟨g, 0, none⟩)] w (Rd (.bool (okB cs p b l)) w) := by
  go_enter Try.func38, Try.ntmps38
  go_wp2
  go_loopw [3] (fun i wr => ∃ k n : Nat, k ≤ 16 ∧ i = .int .i64 k ∧ Hid ((cs.take k).all shrB = true) ∧ wr = w.drewN n) (fun i _ => 16 - (intOf i).toNat)
  case atStart => exact ⟨0, 0, by omega, rfl, rfl, rfl⟩
  case round =>
    obtain ⟨k, n, hk, rfl, hall, rfl⟩ := hrel
    by_cases hlt : k < 16
    · have hi := hr.car hl hlt
      have hx := u32_lt hc k
      cases hs : shrB (nth cs k)
      · have hno := okB_no_car p b l (k := k) (by omega) hs
        go_wp2_with (go_at_call 57; refine (l01Share_any _ hx _).mono ?_; rintro e w' ⟨rfl, n', rfl⟩)
        go_ret
        exact ⟨by rw [hno]; rfl, _, rfl⟩
      · go_wp2_with (go_at_call 57; refine (l01Share_any _ hx _).mono ?_; rintro e w' ⟨rfl, n', rfl⟩)
        exact ⟨⟨k + 1, n + n', by omega, by go_num, all_take hall.out (by omega) hs, rfl⟩, by simp [intOf]; omega⟩
    · have h16 : k = 16 := by omega
      have Hall : Hid (cs.all shrB = true) := by have := hall.out; rw [h16, ← hl, List.take_length] at this; exact this
      clear hall
      obtain rfl := h16
      have c16 := hr.pace hl
      have c17 := hr.back hl
      have c18 := hr.lanes hl
      have hok : Hid (okB cs p b l = (paceB p && paceB b && lanesB l)) := by show okB cs p b l = _; unfold okB; rw [Hall.out, Bool.true_and]
      clear Hall hr
      cases h1 : shrB p
      · have hn : paceB p = false := by unfold shrB at h1; unfold paceB; simp at h1 ⊢; omega
        go_wp2_with (go_at_call 57; refine (l01Share_any _ (by assumption) _).mono ?_; rintro e w' ⟨rfl, n', rfl⟩)
        go_ret
        exact ⟨by rw [hok.out, hn]; rfl, _, rfl⟩
      · cases h2 : shrB b
        · have hn : paceB b = false := by unfold shrB at h2; unfold paceB; simp at h2 ⊢; omega
          go_wp2_with (go_at_call 57; refine (l01Share_any _ (by assumption) _).mono ?_; rintro e w' ⟨rfl, n', rfl⟩)
          go_ret
          exact ⟨by rw [hok.out, hn, Bool.and_false]; rfl, _, rfl⟩
        · have hle1 : p ≤ 1065353216 := by unfold shrB at h1; simpa using h1
          have hle2 : b ≤ 1065353216 := by unfold shrB at h2; simpa using h2
          have m1 := ge_amt (x := p) (y := 1015021568) (by omega) (by omega)
          have m2 := ge_amt (x := b) (y := 1015021568) (by omega) (by omega)
          rw [show decide (1015021568 ≤ p) = paceB p from by unfold paceB; simp [hle1]] at m1
          rw [show decide (1015021568 ≤ b) = paceB b from by unfold paceB; simp [hle2]] at m2
          clear hle1 hle2
          cases h3 : paceB p
          · rw [h3] at m1
            go_wp2_with (go_at_call 57; refine (l01Share_any _ (by assumption) _).mono ?_; rintro e w' ⟨rfl, n', rfl⟩)
            go_ret
            exact ⟨by rw [hok.out, h3]; rfl, _, rfl⟩
          · rw [h3] at m1
            cases h4 : paceB b
            · rw [h4] at m2
              go_wp2_with (go_at_call 57; refine (l01Share_any _ (by assumption) _).mono ?_; rintro e w' ⟨rfl, n', rfl⟩)
              go_ret
              exact ⟨by rw [hok.out, h3, h4]; rfl, _, rfl⟩
            · rw [h4] at m2
              have m3 := ge_word (c := 1048576000) hla (by omega) (by omega)
              by_cases c : 1048576000 ≤ l ∧ l ≤ 2139095040
              · have m4 := le_amt (x := l) (y := 1090519040) (by omega) (by omega)
                rw [decide_eq_true c] at m3
                rw [show decide (l ≤ 1090519040) = lanesB l from by unfold lanesB; simp [c.1]] at m4
                clear c
                go_wp2_with (go_at_call 57; refine (l01Share_any _ (by assumption) _).mono ?_; rintro e w' ⟨rfl, n', rfl⟩)
                go_ret
                exact ⟨by rw [hok.out, h3, h4]; rfl, _, rfl⟩
              · rw [decide_eq_false c] at m3
                have hn : lanesB l = false := by unfold lanesB; simp; omega
                clear c
                go_wp2_with (go_at_call 57; refine (l01Share_any _ (by assumption) _).mono ?_; rintro e w' ⟨rfl, n', rfl⟩)
                go_ret
                exact ⟨by rw [hok.out, h3, h4, hn]; rfl, _, rfl⟩

end Go.Proofs.Ytapnkkbkhifmeaa
