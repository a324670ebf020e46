/-
  CONTRACTS: the model's valid road, by a pointer and by value.
-/
import Derived.Test.YtcfoghckdloknaaRoad
namespace Go.Proofs.Ytcfoghckdloknaa
open Go Go.RowKit

/-- the block g holds a road -/
def RoadAt (w : World) (g : Nat) (cs : List Nat) (p b l : Nat) : Prop := ∃ T fr, w.heap[g]? = some (.cells (rd cs p b l) T fr)
section
variable {w : World} {g : Nat} {cs : List Nat} {p b l : Nat} (h : RoadAt w g cs p b l) (hl : cs.length = 16)
include h hl
theorem RoadAt.car {k : Nat} (hk : k < 16) : w.cell? ⟨g, k, none⟩ = some (.float .f32 (nth cs k)) := by
  obtain ⟨T, fr, hg⟩ := h; rw [cell_of_row w g k _ T fr hg]; exact rd_cell hl p b l hk

theorem RoadAt.pace : w.cell? ⟨g, 16, none⟩ = some (.float .f32 p) := by
  obtain ⟨T, fr, hg⟩ := h; rw [cell_of_row w g 16 _ T fr hg]; exact rd_pace hl p b l

theorem RoadAt.back : w.cell? ⟨g, 17, none⟩ = some (.float .f32 b) := by
  obtain ⟨T, fr, hg⟩ := h; rw [cell_of_row w g 17 _ T fr hg]; exact rd_back hl p b l

theorem RoadAt.lanes : w.cell? ⟨g, 18, none⟩ = some (.float .f32 l) := by
  obtain ⟨T, fr, hg⟩ := h; rw [cell_of_row w g 18 _ T fr hg]; exact rd_lanes hl p b l
end

theorem RoadAt.drewN {w : World} {g : Nat} {cs : List Nat} {p b l : Nat} (h : RoadAt w g cs p b l) (n : Nat) : RoadAt (w.drewN n) g cs p b l := h

theorem RoadAt.new (w : World) (cs : List Nat) (p b l : Nat) (T : TypeId) : RoadAt (w.alloc (.cells (rd cs p b l) T)) w.heap.size cs p b l := ⟨T, _, heap_last _ _⟩

theorem RoadAt.old {w : World} {g : Nat} {cs : List Nat} {p b l : Nat} (h : RoadAt w g cs p b l) (o : Obj) : RoadAt (w.alloc o) g cs p b l := by
  obtain ⟨T, fr, hg⟩ := h; exact ⟨T, fr, heap_old hg o⟩

theorem l01Ok_any (g : Nat) (cs : List Nat) (p b l : Nat) (hl : cs.length = 16) (hc : ∀ x ∈ cs, x < 4294967296) (hp : p < 4294967296) (hb : b < 4294967296) (hla : l < 4294967296) (w : World) (hr : RoadAt w g cs p b l) :
    Calls Try.prog 29 #[.pointer (some ⟨g, 0, none⟩)] w (Rd (.bool (okB cs p b l)) w) := by
  go_enter Try.func29, Try.ntmps29
  go_wp2
  go_loopw [3] (fun i wr => ∃ k n : Nat, k ≤ 16 ∧ i = .int .i64 k ∧ Hid ((cs.take k).all shrB = true) ∧ wr = w.drewN n) (fun i _ => 16 - (intOf i).toNat)
  case atStart => exact ⟨0, 0, by omega, rfl, rfl, rfl⟩
  case round =>
    obtain ⟨k, n, hk, rfl, hall, rfl⟩ := hrel
    by_cases hlt : k < 16
    · have hi := hr.car hl hlt
      have hx := u32_lt hc k
      cases hs : shrB (nth cs k)
      · have hno := okB_no_car p b l (k := k) (by omega) hs
        go_wp2_with (go_at_call 57; refine (l01Share_any _ hx _).mono ?_; rintro e w' ⟨rfl, n', rfl⟩)
        go_ret
        exact ⟨by rw [hno]; rfl, _, rfl⟩
      · go_wp2_with (go_at_call 57; refine (l01Share_any _ hx _).mono ?_; rintro e w' ⟨rfl, n', rfl⟩)
        exact ⟨⟨k + 1, n + n', by omega, by go_num, all_take hall.out (by omega) hs, rfl⟩, by simp [intOf]; omega⟩
    · have h16 : k = 16 := by omega
      have Hall : Hid (cs.all shrB = true) := by have := hall.out; rw [h16, ← hl, List.take_length] at this; exact this
      clear hall
      obtain rfl := h16
      have c16 := hr.pace hl
      have c17 := hr.back hl
      have c18 := hr.lanes hl
      have hok : Hid (okB cs p b l = (paceB p && paceB b && lanesB l)) := by show okB cs p b l = _; unfold okB; rw [Hall.out, Bool.true_and]
      clear Hall hr
      cases h1 : shrB p
      · have hn : paceB p = false := by unfold shrB at h1; unfold paceB; simp at h1 ⊢; omega
        go_wp2_with (go_at_call 57; refine (l01Share_any _ (by assumption) _).mono ?_; rintro e w' ⟨rfl, n', rfl⟩)
        go_ret
        exact ⟨by rw [hok.out, hn]; rfl, _, rfl⟩
      · cases h2 : shrB b
        · have hn : paceB b = false := by unfold shrB at h2; unfold paceB; simp at h2 ⊢; omega
          go_wp2_with (go_at_call 57; refine (l01Share_any _ (by assumption) _).mono ?_; rintro e w' ⟨rfl, n', rfl⟩)
          go_ret
          exact ⟨by rw [hok.out, hn, Bool.and_false]; rfl, _, rfl⟩
        · have hle1 : p ≤ 1065353216 := by unfold shrB at h1; simpa using h1
          have hle2 : b ≤ 1065353216 := by unfold shrB at h2; simpa using h2
          have m1 := ge_amt (x := p) (y := 1015021568) (by omega) (by omega)
          have m2 := ge_amt (x := b) (y := 1015021568) (by omega) (by omega)
          rw [show decide (1015021568 ≤ p) = paceB p from by unfold paceB; simp [hle1]] at m1
          rw [show decide (1015021568 ≤ b) = paceB b from by unfold paceB; simp [hle2]] at m2
          clear hle1 hle2
          cases h3 : paceB p
          · rw [h3] at m1
            go_wp2_with (go_at_call 57; refine (l01Share_any _ (by assumption) _).mono ?_; rintro e w' ⟨rfl, n', rfl⟩)
            go_ret
            exact ⟨by rw [hok.out, h3]; rfl, _, rfl⟩
          · rw [h3] at m1
            cases h4 : paceB b
            · rw [h4] at m2
              go_wp2_with (go_at_call 57; refine (l01Share_any _ (by assumption) _).mono ?_; rintro e w' ⟨rfl, n', rfl⟩)
              go_ret
              exact ⟨by rw [hok.out, h3, h4]; rfl, _, rfl⟩
            · rw [h4] at m2
              have m3 := ge_word (c := 1048576000) hla (by omega) (by omega)
              by_cases c : 1048576000 ≤ l ∧ l ≤ 2139095040
              · have m4 := le_amt (x := l) (y := 1090519040) (by omega) (by omega)
                rw [decide_eq_true c] at m3
                rw [show decide (l ≤ 1090519040) = lanesB l from by unfold lanesB; simp [c.1]] at m4
                clear c
                go_wp2_with (go_at_call 57; refine (l01Share_any _ (by assumption) _).mono ?_; rintro e w' ⟨rfl, n', rfl⟩)
                go_ret
                exact ⟨by rw [hok.out, h3, h4]; rfl, _, rfl⟩
              · rw [decide_eq_false c] at m3
                have hn : lanesB l = false := by unfold lanesB; simp; omega
                clear c
                go_wp2_with (go_at_call 57; refine (l01Share_any _ (by assumption) _).mono ?_; rintro e w' ⟨rfl, n', rfl⟩)
                go_ret
                exact ⟨by rw [hok.out, h3, h4, hn]; rfl, _, rfl⟩

end Go.Proofs.Ytcfoghckdloknaa
