/-
  CONTRACTS: the phase of a light, as the model has it.
-/
import Derived.Test.YtkhnhbmnmciiaabLightL
namespace Go.Proofs.Ytkhnhbmnmciiaab
open Go Go.ChangeShapes Go.WideShapes Go.ChangeAt Go.RowKit
set_option maxRecDepth 100000

theorem lpB_parts {xs : Slots} {b o s n : Int} {r : Bool} (h : lpB xs b o s n r = true) : okP xs b o = true ∧ 0 ≤ s ∧ s < (xs.length : Int) := by
  unfold lpB liB at h
  simp only [Bool.and_eq_true, decide_eq_true_eq] at h
  exact ⟨h.1, h.2.1.1⟩
/-- the phase of a light -/
def vLp (xs : Slots) (b o s n : Int) (r : Bool) : List Bool × Int := if lpB xs b o s n r then (if r then noes 8 else sb xs s.toNat, 0) else (noes 8, 1)
theorem vLp_no {xs : Slots} {b o s n : Int} {r : Bool} (h : lpB xs b o s n r = false) : vLp xs b o s n r = (noes 8, 1) := by unfold vLp; rw [h]; rfl
theorem vLp_red {xs : Slots} {b o s n : Int} (h : lpB xs b o s n true = true) : vLp xs b o s n true = (noes 8, 0) := by unfold vLp; rw [if_pos h]; rfl
theorem vLp_gr {xs : Slots} {b o n : Int} {k : Nat} (h : lpB xs b o k n false = true) : vLp xs b o k n false = (sb xs k, 0) := by unfold vLp; rw [if_pos h]; rfl
theorem vLp_len {xs : Slots} {b o s n : Int} {r : Bool} (hW : SlW xs) : (vLp xs b o s n r).1.length = 8 := by
  cases h : lpB xs b o s n r
  · rw [vLp_no h]; exact noes_len 8
  · cases r
    · obtain ⟨-, h1, h2⟩ := lpB_parts h
      obtain ⟨k, rfl⟩ : ∃ k : Nat, s = k := ⟨s.toNat, by omega⟩
      rw [vLp_gr h]
      exact (hW.at (by omega)).1
    · rw [vLp_red h]; exact noes_len 8

set_option maxHeartbeats 400000 in
theorem sLightPhase_any (G : Nat) (xs : Slots) (b o : Int) (hW : SlW xs) (T : TypeId) (s n : Int) (r : Bool) (hlen : xs.length ≤ 1048576) (w : World) (A0 : At w G (slC xs) T) :
    Calls Try.prog 54 #[.agg (plC (.slice (some ⟨G, 0, none⟩) xs.length xs.length) b o), .agg (ltC s n r)] w fun e w' => e = .returned (.tuple #[.agg (bl (vLp xs b o s n r).1), .int .i64 (vLp xs b o s n r).2]) ∧ Below w.heap.size w w' := by
  cases hok : lpB xs b o s n r
  · have P0 : At (((w.alloc (.cells (plC (.slice (some ⟨G, 0, none⟩) xs.length xs.length) b o) 29)).alloc (.cells (ltC s n r) 76)).alloc (.cells (bl (noes 8)) 36)) w.heap.size (plC (.slice (some ⟨G, 0, none⟩) xs.length xs.length) b o) 29 := ((At.new w _ _).alloc _).alloc _
    have L0 : At (((w.alloc (.cells (plC (.slice (some ⟨G, 0, none⟩) xs.length xs.length) b o) 29)).alloc (.cells (ltC s n r) 76)).alloc (.cells (bl (noes 8)) 36)) (w.heap.size + 1) (ltC s n r) 76 := (At.last1 w _ _ _).alloc _
    have R0 : At (((w.alloc (.cells (plC (.slice (some ⟨G, 0, none⟩) xs.length xs.length) b o) 29)).alloc (.cells (ltC s n r) 76)).alloc (.cells (bl (noes 8)) 36)) (w.heap.size + 1 + 1) (bl (noes 8)) 36 := by
      have := At.new ((w.alloc (.cells (plC (.slice (some ⟨G, 0, none⟩) xs.length xs.length) b o) 29)).alloc (.cells (ltC s n r) 76)) (bl (noes 8)) 36
      rwa [World.size_alloc, World.size_alloc] at this
    have A1 := ((A0.alloc (.cells (plC (.slice (some ⟨G, 0, none⟩) xs.length xs.length) b o) 29)).alloc (.cells (ltC s n r) 76)).alloc (.cells (bl (noes 8)) 36)
    have B0 := Lib.hid (bnew (bnew (b0 w (.cells (plC (.slice (some ⟨G, 0, none⟩) xs.length xs.length) b o) 29)) (.cells (ltC s n r) 76)) (.cells (bl (noes 8)) 36))
    have SZ0 : (bl (noes 8)).size = 8 := by rw [bl_size, noes_len]
    have KO := l04Light_any w.heap.size (w.heap.size + 1) 29 76 G xs b o hW T s n r hlen _ P0 L0 A1
    rw [hok] at KO
    have EQ : Ending.returned (Value.tuple #[.agg (bl (noes 8)), .int .i64 1]) = .returned (.tuple #[.agg (bl (vLp xs b o s n r).1), .int .i64 (vLp xs b o s n r).2]) := by rw [vLp_no hok]
    go_enter Try.func54, Try.ntmps54
    go_wp2_with fail
    refine KO.mono ?_
    rintro e w1 ⟨rfl, hb1⟩
    have R1 := R0.step hb1
    have B1 := Lib.hid (bthen B0.out hb1)
    have P1 := P0.step hb1
    have L1 := L0.step hb1
    have A2 := A1.step hb1
    clear P0 L0 R0 A1 B0 hb1 KO A0
    have R9 := R1.setRow (bl (noes 8))
    have B9 := Lib.hid (bset B1.out (g := w.heap.size + 1 + 1) (by omega) (bl (noes 8)))
    go_wp2_with (((with_reducible refine is_store 36 _ _ rfl ?_); refine wpList_store_at rfl 36 _ _ rfl _ rfl (bl (noes 8)) rfl (bl (noes 8)) _ (by with_reducible assumption) 8 (SZ0) (by rw [bl_size, noes_len]) (by kernel_rfl) (bl_one _) ?_))
    exact bodyPost_ret (v := .tuple #[.agg (bl (noes 8)), .int .i64 1]) (results_at_tmp (p := 4) (ty := 36) rfl _ _ _ (bl (noes 8)) _ (.int .i64 1) rfl rfl R9 _ Try.underlying36 rfl 8 (SZ0) (by kernel_rfl)) rfl ⟨EQ, B9.out⟩
  · obtain ⟨hP, h1, h2⟩ := lpB_parts hok
    cases r
    · obtain ⟨k, rfl⟩ : ∃ k : Nat, s = k := ⟨s.toNat, by omega⟩
      have hkl : k < xs.length := by omega
      have kd : (k : Int) < (xs.length : Int) := h2
      have hb8 := (hW.at hkl).1
      have SS := slC_size hW
      have hle : k * 9 + 8 ≤ (slC xs).size := by rw [SS]; omega
      have hph := slC_phase hW hkl (k := k * 9) rfl
      have SZ8 : (bl (sb xs k)).size = 8 := by rw [bl_size, hb8]
      clear SS
      have P0 : At (((w.alloc (.cells (plC (.slice (some ⟨G, 0, none⟩) xs.length xs.length) b o) 29)).alloc (.cells (ltC (k : Int) n false) 76)).alloc (.cells (bl (noes 8)) 36)) w.heap.size (plC (.slice (some ⟨G, 0, none⟩) xs.length xs.length) b o) 29 := ((At.new w _ _).alloc _).alloc _
      have L0 : At (((w.alloc (.cells (plC (.slice (some ⟨G, 0, none⟩) xs.length xs.length) b o) 29)).alloc (.cells (ltC (k : Int) n false) 76)).alloc (.cells (bl (noes 8)) 36)) (w.heap.size + 1) (ltC (k : Int) n false) 76 := (At.last1 w _ _ _).alloc _
      have R0 : At (((w.alloc (.cells (plC (.slice (some ⟨G, 0, none⟩) xs.length xs.length) b o) 29)).alloc (.cells (ltC (k : Int) n false) 76)).alloc (.cells (bl (noes 8)) 36)) (w.heap.size + 1 + 1) (bl (noes 8)) 36 := by
        have := At.new ((w.alloc (.cells (plC (.slice (some ⟨G, 0, none⟩) xs.length xs.length) b o) 29)).alloc (.cells (ltC (k : Int) n false) 76)) (bl (noes 8)) 36
        rwa [World.size_alloc, World.size_alloc] at this
      have A1 := ((A0.alloc (.cells (plC (.slice (some ⟨G, 0, none⟩) xs.length xs.length) b o) 29)).alloc (.cells (ltC (k : Int) n false) 76)).alloc (.cells (bl (noes 8)) 36)
      have B0 := Lib.hid (bnew (bnew (b0 w (.cells (plC (.slice (some ⟨G, 0, none⟩) xs.length xs.length) b o) 29)) (.cells (ltC (k : Int) n false) 76)) (.cells (bl (noes 8)) 36))
      have SZ0 : (bl (noes 8)).size = 8 := by rw [bl_size, noes_len]
      have KO := l04Light_any w.heap.size (w.heap.size + 1) 29 76 G xs b o hW T k n false hlen _ P0 L0 A1
      rw [hok] at KO
      have EQ : Ending.returned (Value.tuple #[.agg (bl (sb xs k)), .int .i64 0]) = .returned (.tuple #[.agg (bl (vLp xs b o k n false).1), .int .i64 (vLp xs b o k n false).2]) := by rw [vLp_gr hok]
      clear hP hok h1 h2
      go_enter Try.func54, Try.ntmps54
      go_wp2_with fail
      refine KO.mono ?_
      rintro e w1 ⟨rfl, hb1⟩
      have R1 := R0.step hb1
      have B1 := Lib.hid (bthen B0.out hb1)
      have P1 := P0.step hb1
      have L1 := L0.step hb1
      have A2 := A1.step hb1
      clear P0 L0 R0 A1 B0 hb1 KO A0
      have R9 := R1.setRow (bl (sb xs k))
      have B9 := Lib.hid (bset B1.out (g := w.heap.size + 1 + 1) (by omega) (bl (sb xs k)))
      go_wp2_with (first | ((with_reducible refine is_load 4 _ rfl ?_); refine wpList_load_cell rfl 4 _ rfl _ 2 rfl ((ltC (k : Int) n false)) _ (by with_reducible assumption) _ Try.underlying4 rfl (.bool false) (ltC_2 _ _ _) ?_) | ((with_reducible refine is_load 2 _ rfl ?_); refine wpList_load_cell rfl 2 _ rfl _ 0 rfl ((ltC (k : Int) n false)) _ (by with_reducible assumption) _ Try.underlying2 rfl (.int .i64 (k : Int)) (ltC_0 _ _ _) ?_) | ((with_reducible refine is_load 27 _ rfl ?_); refine wpList_load_cell rfl 27 _ rfl _ 0 rfl ((plC (.slice (some ⟨G, 0, none⟩) xs.length xs.length) b o)) _ (by with_reducible assumption) _ Try.underlying27 rfl ((.slice (some ⟨G, 0, none⟩) xs.length xs.length)) (plC_0 _ _ _) ?_) | ((with_reducible refine is_load 36 _ rfl ?_); refine wpList_load_part rfl 36 _ rfl _ (k * 9) rfl (slC xs) _ (by with_reducible assumption) 8 (hle) _ Try.underlying36 rfl (by kernel_rfl) (bl (sb xs k)) (hph) ?_) | ((with_reducible refine is_store 36 _ _ rfl ?_); refine wpList_store_at rfl 36 _ _ rfl _ rfl (bl (sb xs k)) rfl (bl (noes 8)) _ (by with_reducible assumption) 8 (SZ8) (by rw [bl_size, noes_len]) (by kernel_rfl) (bl_one _) ?_))
      exact bodyPost_ret (v := .tuple #[.agg (bl (sb xs k)), .int .i64 0]) (results_at_tmp (p := 4) (ty := 36) rfl _ _ _ (bl (sb xs k)) _ (.int .i64 0) rfl rfl R9 _ Try.underlying36 rfl 8 (SZ8) (by kernel_rfl)) rfl ⟨EQ, B9.out⟩
    · have P0 : At (((w.alloc (.cells (plC (.slice (some ⟨G, 0, none⟩) xs.length xs.length) b o) 29)).alloc (.cells (ltC s n true) 76)).alloc (.cells (bl (noes 8)) 36)) w.heap.size (plC (.slice (some ⟨G, 0, none⟩) xs.length xs.length) b o) 29 := ((At.new w _ _).alloc _).alloc _
      have L0 : At (((w.alloc (.cells (plC (.slice (some ⟨G, 0, none⟩) xs.length xs.length) b o) 29)).alloc (.cells (ltC s n true) 76)).alloc (.cells (bl (noes 8)) 36)) (w.heap.size + 1) (ltC s n true) 76 := (At.last1 w _ _ _).alloc _
      have R0 : At (((w.alloc (.cells (plC (.slice (some ⟨G, 0, none⟩) xs.length xs.length) b o) 29)).alloc (.cells (ltC s n true) 76)).alloc (.cells (bl (noes 8)) 36)) (w.heap.size + 1 + 1) (bl (noes 8)) 36 := by
        have := At.new ((w.alloc (.cells (plC (.slice (some ⟨G, 0, none⟩) xs.length xs.length) b o) 29)).alloc (.cells (ltC s n true) 76)) (bl (noes 8)) 36
        rwa [World.size_alloc, World.size_alloc] at this
      have A1 := ((A0.alloc (.cells (plC (.slice (some ⟨G, 0, none⟩) xs.length xs.length) b o) 29)).alloc (.cells (ltC s n true) 76)).alloc (.cells (bl (noes 8)) 36)
      have B0 := Lib.hid (bnew (bnew (b0 w (.cells (plC (.slice (some ⟨G, 0, none⟩) xs.length xs.length) b o) 29)) (.cells (ltC s n true) 76)) (.cells (bl (noes 8)) 36))
      have SZ0 : (bl (noes 8)).size = 8 := by rw [bl_size, noes_len]
      have KO := l04Light_any w.heap.size (w.heap.size + 1) 29 76 G xs b o hW T s n true hlen _ P0 L0 A1
      rw [hok] at KO
      have EQ : Ending.returned (Value.tuple #[.agg (bl (noes 8)), .int .i64 0]) = .returned (.tuple #[.agg (bl (vLp xs b o s n true).1), .int .i64 (vLp xs b o s n true).2]) := by rw [vLp_red hok]
      clear hP hok h1 h2
      go_enter Try.func54, Try.ntmps54
      go_wp2_with fail
      refine KO.mono ?_
      rintro e w1 ⟨rfl, hb1⟩
      have R1 := R0.step hb1
      have B1 := Lib.hid (bthen B0.out hb1)
      have P1 := P0.step hb1
      have L1 := L0.step hb1
      have A2 := A1.step hb1
      clear P0 L0 R0 A1 B0 hb1 KO A0
      have R9 := R1.setRow (bl (noes 8))
      have B9 := Lib.hid (bset B1.out (g := w.heap.size + 1 + 1) (by omega) (bl (noes 8)))
      go_wp2_with (first | ((with_reducible refine is_load 4 _ rfl ?_); refine wpList_load_cell rfl 4 _ rfl _ 2 rfl ((ltC s n true)) _ (by with_reducible assumption) _ Try.underlying4 rfl (.bool true) (ltC_2 _ _ _) ?_) | ((with_reducible refine is_store 36 _ _ rfl ?_); refine wpList_store_at rfl 36 _ _ rfl _ rfl (bl (noes 8)) rfl (bl (noes 8)) _ (by with_reducible assumption) 8 (SZ0) (by rw [bl_size, noes_len]) (by kernel_rfl) (bl_one _) ?_))
      exact bodyPost_ret (v := .tuple #[.agg (bl (noes 8)), .int .i64 0]) (results_at_tmp (p := 4) (ty := 36) rfl _ _ _ (bl (noes 8)) _ (.int .i64 0) rfl rfl R9 _ Try.underlying36 rfl 8 (SZ0) (by kernel_rfl)) rfl ⟨EQ, B9.out⟩

end Go.Proofs.Ytkhnhbmnmciiaab
