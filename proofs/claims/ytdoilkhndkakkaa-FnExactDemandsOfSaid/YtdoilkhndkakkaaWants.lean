/-
  CONTRACTS: WantsOf.
-/
import Derived.Test.YtdoilkhndkakkaaFits
namespace Go.Proofs.Ytdoilkhndkakkaa
open Go Go.RowKit
set_option maxRecDepth 100000

def vWants (i o : Int) (ts ps ss : List Nat) : List Nat × Int := if sendC i o ts ps ss = 0 then (prodT ts ss, 0) else (zeros 16, sendC i o ts ps ss)
theorem zlit16 : (#[.float .f32 0, .float .f32 0, .float .f32 0, .float .f32 0, .float .f32 0, .float .f32 0, .float .f32 0, .float .f32 0, .float .f32 0, .float .f32 0, .float .f32 0, .float .f32 0, .float .f32 0, .float .f32 0, .float .f32 0, .float .f32 0] : Array Value) = fl (zeros 16) := rfl
theorem vWants_good {i o : Int} {ts ps ss : List Nat} (hlt : ts.length = 16) : (vWants i o ts ps ss).1.length = 16 ∧ ∀ x ∈ (vWants i o ts ps ss).1, x < 4294967296 ∧ nanB x = false := by
  unfold vWants
  split
  · rename_i h
    obtain ⟨h1, h2⟩ := sendC_zero h
    exact ⟨prodT_len _ _, fun x hx => nan_le (Nat.le_of_lt (prodT_fin hlt h1 h2 x hx)) (by omega)⟩
  · exact ⟨zeros_len _, zeros_good _⟩

set_option maxHeartbeats 400000 in
theorem WantsOf_b (i o : Int) (ts ps : List Nat) (hi : -9223372036854775808 ≤ i ∧ i ≤ 9223372036854775807) (ho : -9223372036854775808 ≤ o ∧ o ≤ 9223372036854775807) (hlt : ts.length = 16) (hlp : ps.length = 4) (hct : ∀ x ∈ ts, x < 4294967296) (hcp : ∀ x ∈ ps, x < 4294967296) (ss : List Nat) (hls : ss.length = 4) (hcs : ∀ x ∈ ss, x < 4294967296) (w : World) :
    Calls Try.prog 27 #[.agg (jn i o ts ps), .agg (fl ss)] w fun e w' => e = .returned (.tuple #[.agg (fl (vWants i o ts ps ss).1), .int .i64 (vWants i o ts ps ss).2]) ∧ Below w.heap.size w w' := by
  have A0 : At (((w.alloc (.cells (jn i o ts ps) 31)).alloc (.cells (fl ss) 29)).alloc (.cells (#[.float .f32 0, .float .f32 0, .float .f32 0, .float .f32 0, .float .f32 0, .float .f32 0, .float .f32 0, .float .f32 0, .float .f32 0, .float .f32 0, .float .f32 0, .float .f32 0, .float .f32 0, .float .f32 0, .float .f32 0, .float .f32 0]) 28)) w.heap.size (jn i o ts ps) 31 := ((At.new w _ _).alloc _).alloc _
  have S0 : At (((w.alloc (.cells (jn i o ts ps) 31)).alloc (.cells (fl ss) 29)).alloc (.cells (#[.float .f32 0, .float .f32 0, .float .f32 0, .float .f32 0, .float .f32 0, .float .f32 0, .float .f32 0, .float .f32 0, .float .f32 0, .float .f32 0, .float .f32 0, .float .f32 0, .float .f32 0, .float .f32 0, .float .f32 0, .float .f32 0]) 28)) (w.heap.size + 1) (fl ss) 29 := (At.last1 w _ _ _).alloc _
  have R0 : At (((w.alloc (.cells (jn i o ts ps) 31)).alloc (.cells (fl ss) 29)).alloc (.cells (#[.float .f32 0, .float .f32 0, .float .f32 0, .float .f32 0, .float .f32 0, .float .f32 0, .float .f32 0, .float .f32 0, .float .f32 0, .float .f32 0, .float .f32 0, .float .f32 0, .float .f32 0, .float .f32 0, .float .f32 0, .float .f32 0]) 28)) (w.heap.size + 1 + 1) (#[.float .f32 0, .float .f32 0, .float .f32 0, .float .f32 0, .float .f32 0, .float .f32 0, .float .f32 0, .float .f32 0, .float .f32 0, .float .f32 0, .float .f32 0, .float .f32 0, .float .f32 0, .float .f32 0, .float .f32 0, .float .f32 0]) 28 := At.last2 w _ _ _ _
  have B0 := Lib.hid (bnew (bnew (b0 w (.cells (jn i o ts ps) 31)) (.cells (fl ss) 29)) (.cells (#[.float .f32 0, .float .f32 0, .float .f32 0, .float .f32 0, .float .f32 0, .float .f32 0, .float .f32 0, .float .f32 0, .float .f32 0, .float .f32 0, .float .f32 0, .float .f32 0, .float .f32 0, .float .f32 0, .float .f32 0, .float .f32 0]) 28))
  have SZ := jn_size hlt hlp i o
  have SS : (fl ss).size = 4 := by rw [fl_size, hls]
  have SPR : (fl (prodT ts ss)).size = 16 := by rw [fl_size, prodT_len]
  by_cases hz : sendC i o ts ps ss = 0
  · have ev : (vWants i o ts ps ss) = (prodT ts ss, 0) := by unfold vWants; rw [if_pos hz]
    obtain ⟨h1, h2⟩ := sendC_zero hz
    rw [ev]
    clear ev
    go_enter Try.func27, Try.ntmps27
    go_wp2_with (first | ((with_reducible refine is_load 31 _ rfl ?_); refine wpList_load_at rfl 31 _ rfl _ rfl (jn i o ts ps) _ A0 22 (SZ) _ Try.underlying31 rfl (by kernel_rfl) ?_) | ((with_reducible refine is_load 29 _ rfl ?_); refine wpList_load_at rfl 29 _ rfl _ rfl (fl ss) _ S0 4 (SS) _ Try.underlying29 rfl (by kernel_rfl) ?_))
    refine (refusalOfSends_b i o ts ps hi ho hlt hlp hct hcp ss hls hcs _).mono ?_
    rw [hz]
    clear hz
    rintro e w1 ⟨rfl, hb1⟩
    have A1 := A0.step hb1
    have S1 := S0.step hb1
    have R1 := R0.step hb1
    have B1 := Lib.hid (bthen B0.out hb1)
    clear A0 S0 R0 B0 hb1
    go_wp2_with (first | ((with_reducible refine is_load 31 _ rfl ?_); refine wpList_load_at rfl 31 _ rfl _ rfl (jn i o ts ps) _ A1 22 (SZ) _ Try.underlying31 rfl (by kernel_rfl) ?_) | ((with_reducible refine is_load 29 _ rfl ?_); refine wpList_load_at rfl 29 _ rfl _ rfl (fl ss) _ S1 4 (SS) _ Try.underlying29 rfl (by kernel_rfl) ?_))
    refine (turnsOf_b i o ts ps hi ho hlt hlp hct hcp ss hls hcs h1 h2 _).mono ?_
    rintro e w2 ⟨rfl, hb2⟩
    have R2 := R1.step hb2
    have B2 := Lib.hid (bthen B1.out hb2)
    clear A1 S1 R1 B1 hb2
    have R9 := R2.setRow (fl (prodT ts ss))
    have B9 := Lib.hid (bset B2.out (g := w.heap.size + 1 + 1) (by omega) (fl (prodT ts ss)))
    go_wp2_with (((with_reducible refine is_store 28 (.tmp 4) (.tmp 16) rfl ?_); refine wpList_store_at rfl 28 (.tmp 4) (.tmp 16) rfl _ rfl (fl (prodT ts ss)) rfl (#[.float .f32 0, .float .f32 0, .float .f32 0, .float .f32 0, .float .f32 0, .float .f32 0, .float .f32 0, .float .f32 0, .float .f32 0, .float .f32 0, .float .f32 0, .float .f32 0, .float .f32 0, .float .f32 0, .float .f32 0, .float .f32 0]) _ R2 16 (SPR) (rfl) (by kernel_rfl) (fl_one _) ?_))
    exact bodyPost_ret (v := .tuple #[.agg (fl (prodT ts ss)), .int .i64 0]) (results_at_tmp (p := 4) (ty := 28) rfl _ _ _ (fl (prodT ts ss)) _ (.int .i64 0) rfl rfl R9 _ Try.underlying28 rfl 16 (SPR) (by kernel_rfl)) rfl ⟨rfl, B9.out⟩
  · have ev : (vWants i o ts ps ss) = (zeros 16, sendC i o ts ps ss) := by unfold vWants; rw [if_neg hz]
    rw [ev, ← zlit16]
    have KR := refusalOfSends_b i o ts ps hi ho hlt hlp hct hcp ss hls hcs
    have hzb : (sendC i o ts ps ss == 0) = false := by simpa using hz
    generalize sendC i o ts ps ss = c at KR hzb ⊢
    clear ev hz
    go_enter Try.func27, Try.ntmps27
    go_wp2_with (first | ((with_reducible refine is_load 31 _ rfl ?_); refine wpList_load_at rfl 31 _ rfl _ rfl (jn i o ts ps) _ A0 22 (SZ) _ Try.underlying31 rfl (by kernel_rfl) ?_) | ((with_reducible refine is_load 29 _ rfl ?_); refine wpList_load_at rfl 29 _ rfl _ rfl (fl ss) _ S0 4 (SS) _ Try.underlying29 rfl (by kernel_rfl) ?_))
    refine (KR _).mono ?_
    rintro e w1 ⟨rfl, hb1⟩
    have R1 := R0.step hb1
    have B1 := Lib.hid (bthen B0.out hb1)
    clear A0 S0 R0 B0 hb1 KR
    have R9 := R1.setRow (#[.float .f32 0, .float .f32 0, .float .f32 0, .float .f32 0, .float .f32 0, .float .f32 0, .float .f32 0, .float .f32 0, .float .f32 0, .float .f32 0, .float .f32 0, .float .f32 0, .float .f32 0, .float .f32 0, .float .f32 0, .float .f32 0])
    have B9 := Lib.hid (bset B1.out (g := w.heap.size + 1 + 1) (by omega) (#[.float .f32 0, .float .f32 0, .float .f32 0, .float .f32 0, .float .f32 0, .float .f32 0, .float .f32 0, .float .f32 0, .float .f32 0, .float .f32 0, .float .f32 0, .float .f32 0, .float .f32 0, .float .f32 0, .float .f32 0, .float .f32 0]))
    go_wp2_with (((with_reducible refine is_store 28 (.tmp 4) (.tmp 12) rfl ?_); refine wpList_store_at rfl 28 (.tmp 4) (.tmp 12) rfl _ rfl (#[.float .f32 0, .float .f32 0, .float .f32 0, .float .f32 0, .float .f32 0, .float .f32 0, .float .f32 0, .float .f32 0, .float .f32 0, .float .f32 0, .float .f32 0, .float .f32 0, .float .f32 0, .float .f32 0, .float .f32 0, .float .f32 0]) rfl (#[.float .f32 0, .float .f32 0, .float .f32 0, .float .f32 0, .float .f32 0, .float .f32 0, .float .f32 0, .float .f32 0, .float .f32 0, .float .f32 0, .float .f32 0, .float .f32 0, .float .f32 0, .float .f32 0, .float .f32 0, .float .f32 0]) _ R1 16 (rfl) (rfl) (by kernel_rfl) ((by rw [zlit16]; exact fl_one _)) ?_))
    exact bodyPost_ret (v := .tuple #[.agg (#[.float .f32 0, .float .f32 0, .float .f32 0, .float .f32 0, .float .f32 0, .float .f32 0, .float .f32 0, .float .f32 0, .float .f32 0, .float .f32 0, .float .f32 0, .float .f32 0, .float .f32 0, .float .f32 0, .float .f32 0, .float .f32 0]), .int .i64 c]) (results_at_tmp (p := 4) (ty := 28) rfl _ _ _ (#[.float .f32 0, .float .f32 0, .float .f32 0, .float .f32 0, .float .f32 0, .float .f32 0, .float .f32 0, .float .f32 0, .float .f32 0, .float .f32 0, .float .f32 0, .float .f32 0, .float .f32 0, .float .f32 0, .float .f32 0, .float .f32 0]) _ (.int .i64 c) rfl rfl R9 _ Try.underlying28 rfl 16 (rfl) (by kernel_rfl)) rfl ⟨rfl, B9.out⟩

set_option maxHeartbeats 1000000 in
theorem sWantsOf_b (i o : Int) (ts ps : List Nat) (hi : -9223372036854775808 ≤ i ∧ i ≤ 9223372036854775807) (ho : -9223372036854775808 ≤ o ∧ o ≤ 9223372036854775807) (hlt : ts.length = 16) (hlp : ps.length = 4) (hct : ∀ x ∈ ts, x < 4294967296) (hcp : ∀ x ∈ ps, x < 4294967296) (ss : List Nat) (hls : ss.length = 4) (hcs : ∀ x ∈ ss, x < 4294967296) (w : World) :
    Calls Try.prog 25 #[.agg (jn i o ts ps), .agg (fl ss)] w fun e w' => e = .returned (.tuple #[.agg (fl (vWants i o ts ps ss).1), .int .i64 (vWants i o ts ps ss).2]) ∧ Below w.heap.size w w' := by
  have A0 : At (((w.alloc (.cells (jn i o ts ps) 31)).alloc (.cells (fl ss) 29)).alloc (.cells (#[.float .f32 0, .float .f32 0, .float .f32 0, .float .f32 0, .float .f32 0, .float .f32 0, .float .f32 0, .float .f32 0, .float .f32 0, .float .f32 0, .float .f32 0, .float .f32 0, .float .f32 0, .float .f32 0, .float .f32 0, .float .f32 0]) 28)) w.heap.size (jn i o ts ps) 31 := ((At.new w _ _).alloc _).alloc _
  have S0 : At (((w.alloc (.cells (jn i o ts ps) 31)).alloc (.cells (fl ss) 29)).alloc (.cells (#[.float .f32 0, .float .f32 0, .float .f32 0, .float .f32 0, .float .f32 0, .float .f32 0, .float .f32 0, .float .f32 0, .float .f32 0, .float .f32 0, .float .f32 0, .float .f32 0, .float .f32 0, .float .f32 0, .float .f32 0, .float .f32 0]) 28)) (w.heap.size + 1) (fl ss) 29 := (At.last1 w _ _ _).alloc _
  have R0 : At (((w.alloc (.cells (jn i o ts ps) 31)).alloc (.cells (fl ss) 29)).alloc (.cells (#[.float .f32 0, .float .f32 0, .float .f32 0, .float .f32 0, .float .f32 0, .float .f32 0, .float .f32 0, .float .f32 0, .float .f32 0, .float .f32 0, .float .f32 0, .float .f32 0, .float .f32 0, .float .f32 0, .float .f32 0, .float .f32 0]) 28)) (w.heap.size + 1 + 1) (#[.float .f32 0, .float .f32 0, .float .f32 0, .float .f32 0, .float .f32 0, .float .f32 0, .float .f32 0, .float .f32 0, .float .f32 0, .float .f32 0, .float .f32 0, .float .f32 0, .float .f32 0, .float .f32 0, .float .f32 0, .float .f32 0]) 28 := At.last2 w _ _ _ _
  have B0 := Lib.hid (bnew (bnew (b0 w (.cells (jn i o ts ps) 31)) (.cells (fl ss) 29)) (.cells (#[.float .f32 0, .float .f32 0, .float .f32 0, .float .f32 0, .float .f32 0, .float .f32 0, .float .f32 0, .float .f32 0, .float .f32 0, .float .f32 0, .float .f32 0, .float .f32 0, .float .f32 0, .float .f32 0, .float .f32 0, .float .f32 0]) 28))
  have SZ := jn_size hlt hlp i o
  have SS : (fl ss).size = 4 := by rw [fl_size, hls]
  have SPR : (fl (prodT ts ss)).size = 16 := by rw [fl_size, prodT_len]
  cases h1 : okJ i o ts ps
  · have ev : (vWants i o ts ps ss) = (zeros 16, 1) := by unfold vWants sendC; rw [h1]; rfl
    rw [ev, ← zlit16]
    clear ev
    go_enter Try.func25, Try.ntmps25
    go_wp2_with fail
    refine (l03Ok_b _ i o ts ps hi ho hlt hlp hct hcp _ _ A0).mono ?_
    rw [h1]
    rintro e w1 ⟨rfl, n1, rfl⟩
    have R1 := R0.drewN n1
    have B1 := Lib.hid (bdrew B0.out n1)
    generalize hw1 : World.drewN _ _ = w1 at R1 B1 ⊢
    clear A0 S0 R0 B0 hw1
    have R9 := R1.setRow (#[.float .f32 0, .float .f32 0, .float .f32 0, .float .f32 0, .float .f32 0, .float .f32 0, .float .f32 0, .float .f32 0, .float .f32 0, .float .f32 0, .float .f32 0, .float .f32 0, .float .f32 0, .float .f32 0, .float .f32 0, .float .f32 0])
    have B9 := Lib.hid (bset B1.out (g := w.heap.size + 1 + 1) (by omega) (#[.float .f32 0, .float .f32 0, .float .f32 0, .float .f32 0, .float .f32 0, .float .f32 0, .float .f32 0, .float .f32 0, .float .f32 0, .float .f32 0, .float .f32 0, .float .f32 0, .float .f32 0, .float .f32 0, .float .f32 0, .float .f32 0]))
    go_wp2_with (((with_reducible refine is_store 28 (.tmp 4) (.tmp 11) rfl ?_); refine wpList_store_at rfl 28 (.tmp 4) (.tmp 11) rfl _ rfl (#[.float .f32 0, .float .f32 0, .float .f32 0, .float .f32 0, .float .f32 0, .float .f32 0, .float .f32 0, .float .f32 0, .float .f32 0, .float .f32 0, .float .f32 0, .float .f32 0, .float .f32 0, .float .f32 0, .float .f32 0, .float .f32 0]) rfl (#[.float .f32 0, .float .f32 0, .float .f32 0, .float .f32 0, .float .f32 0, .float .f32 0, .float .f32 0, .float .f32 0, .float .f32 0, .float .f32 0, .float .f32 0, .float .f32 0, .float .f32 0, .float .f32 0, .float .f32 0, .float .f32 0]) _ R1 16 (rfl) (rfl) (by kernel_rfl) ((by rw [zlit16]; exact fl_one _)) ?_))
    exact bodyPost_ret (v := .tuple #[.agg (#[.float .f32 0, .float .f32 0, .float .f32 0, .float .f32 0, .float .f32 0, .float .f32 0, .float .f32 0, .float .f32 0, .float .f32 0, .float .f32 0, .float .f32 0, .float .f32 0, .float .f32 0, .float .f32 0, .float .f32 0, .float .f32 0]), .int .i64 1]) (results_at_tmp (p := 4) (ty := 28) rfl _ _ _ (#[.float .f32 0, .float .f32 0, .float .f32 0, .float .f32 0, .float .f32 0, .float .f32 0, .float .f32 0, .float .f32 0, .float .f32 0, .float .f32 0, .float .f32 0, .float .f32 0, .float .f32 0, .float .f32 0, .float .f32 0, .float .f32 0]) _ (.int .i64 1) rfl rfl R9 _ Try.underlying28 rfl 16 (rfl) (by kernel_rfl)) rfl ⟨rfl, B9.out⟩
  cases h2 : amtTo i ss 4
  · have ev : (vWants i o ts ps ss) = (zeros 16, 2) := by unfold vWants sendC; rw [h1, h2]; rfl
    rw [ev, ← zlit16]
    clear ev
    go_enter Try.func25, Try.ntmps25
    go_wp2_with fail
    refine (l03Ok_b _ i o ts ps hi ho hlt hlp hct hcp _ _ A0).mono ?_
    rw [h1]
    rintro e w1 ⟨rfl, n1, rfl⟩
    have A1 := A0.drewN n1
    have S1 := S0.drewN n1
    have R1 := R0.drewN n1
    have B1 := Lib.hid (bdrew B0.out n1)
    generalize hw1 : World.drewN _ _ = w1 at A1 S1 R1 B1 ⊢
    clear A0 S0 R0 B0 hw1
    go_wp2_with (first | ((with_reducible refine is_load 29 _ rfl ?_); refine wpList_load_at rfl 29 _ rfl _ rfl (fl ss) _ S1 4 (SS) _ Try.underlying29 rfl (by kernel_rfl) ?_) | ((with_reducible refine is_load 2 _ rfl ?_); refine wpList_load_cell rfl 2 _ rfl _ 0 rfl (jn i o ts ps) _ A1 _ Try.underlying2 rfl (.int .i64 i) (jn_ins i o ts ps) ?_))
    refine (l03Fits_b ss hls hcs i _).mono ?_
    rw [h2]
    rintro e w2 ⟨rfl, hb2⟩
    have R2 := R1.step hb2
    have B2 := Lib.hid (bthen B1.out hb2)
    clear A1 S1 R1 B1 hb2
    have R9 := R2.setRow (#[.float .f32 0, .float .f32 0, .float .f32 0, .float .f32 0, .float .f32 0, .float .f32 0, .float .f32 0, .float .f32 0, .float .f32 0, .float .f32 0, .float .f32 0, .float .f32 0, .float .f32 0, .float .f32 0, .float .f32 0, .float .f32 0])
    have B9 := Lib.hid (bset B2.out (g := w.heap.size + 1 + 1) (by omega) (#[.float .f32 0, .float .f32 0, .float .f32 0, .float .f32 0, .float .f32 0, .float .f32 0, .float .f32 0, .float .f32 0, .float .f32 0, .float .f32 0, .float .f32 0, .float .f32 0, .float .f32 0, .float .f32 0, .float .f32 0, .float .f32 0]))
    go_wp2_with (((with_reducible refine is_store 28 (.tmp 4) (.tmp 17) rfl ?_); refine wpList_store_at rfl 28 (.tmp 4) (.tmp 17) rfl _ rfl (#[.float .f32 0, .float .f32 0, .float .f32 0, .float .f32 0, .float .f32 0, .float .f32 0, .float .f32 0, .float .f32 0, .float .f32 0, .float .f32 0, .float .f32 0, .float .f32 0, .float .f32 0, .float .f32 0, .float .f32 0, .float .f32 0]) rfl (#[.float .f32 0, .float .f32 0, .float .f32 0, .float .f32 0, .float .f32 0, .float .f32 0, .float .f32 0, .float .f32 0, .float .f32 0, .float .f32 0, .float .f32 0, .float .f32 0, .float .f32 0, .float .f32 0, .float .f32 0, .float .f32 0]) _ R2 16 (rfl) (rfl) (by kernel_rfl) ((by rw [zlit16]; exact fl_one _)) ?_))
    exact bodyPost_ret (v := .tuple #[.agg (#[.float .f32 0, .float .f32 0, .float .f32 0, .float .f32 0, .float .f32 0, .float .f32 0, .float .f32 0, .float .f32 0, .float .f32 0, .float .f32 0, .float .f32 0, .float .f32 0, .float .f32 0, .float .f32 0, .float .f32 0, .float .f32 0]), .int .i64 2]) (results_at_tmp (p := 4) (ty := 28) rfl _ _ _ (#[.float .f32 0, .float .f32 0, .float .f32 0, .float .f32 0, .float .f32 0, .float .f32 0, .float .f32 0, .float .f32 0, .float .f32 0, .float .f32 0, .float .f32 0, .float .f32 0, .float .f32 0, .float .f32 0, .float .f32 0, .float .f32 0]) _ (.int .i64 2) rfl rfl R9 _ Try.underlying28 rfl 16 (rfl) (by kernel_rfl)) rfl ⟨rfl, B9.out⟩
  have ev : (vWants i o ts ps ss) = (prodT ts ss, 0) := by unfold vWants sendC; rw [h1, h2]; rfl
  rw [ev]
  have HF := Lib.hid (prodT_fin hlt h1 h2)
  have HT := Lib.hid (okJ_turns hlt h1)
  have HS := Lib.hid (amtTo_amt h2)
  clear ev
  go_enter Try.func25, Try.ntmps25
  go_wp2_with fail
  refine (l03Ok_b _ i o ts ps hi ho hlt hlp hct hcp _ _ A0).mono ?_
  rw [h1]
  rintro e w1 ⟨rfl, n1, rfl⟩
  have A1 := A0.drewN n1
  have S1 := S0.drewN n1
  have R1 := R0.drewN n1
  have B1 := Lib.hid (bdrew B0.out n1)
  generalize hw1 : World.drewN _ _ = w1 at A1 S1 R1 B1 ⊢
  clear A0 S0 R0 B0 hw1
  go_wp2_with (first | ((with_reducible refine is_load 29 _ rfl ?_); refine wpList_load_at rfl 29 _ rfl _ rfl (fl ss) _ S1 4 (SS) _ Try.underlying29 rfl (by kernel_rfl) ?_) | ((with_reducible refine is_load 2 _ rfl ?_); refine wpList_load_cell rfl 2 _ rfl _ 0 rfl (jn i o ts ps) _ A1 _ Try.underlying2 rfl (.int .i64 i) (jn_ins i o ts ps) ?_))
  refine (l03Fits_b ss hls hcs i _).mono ?_
  rw [h2]
  clear h1 h2
  rintro e w2 ⟨rfl, hb2⟩
  have A2 := A1.step hb2
  have S2 := S1.step hb2
  have R2 := R1.step hb2
  have B2 := Lib.hid (bthen B1.out hb2)
  clear A1 S1 R1 B1 hb2
  have L2 := At.new w2 (#[.float .f32 0, .float .f32 0, .float .f32 0, .float .f32 0, .float .f32 0, .float .f32 0, .float .f32 0, .float .f32 0, .float .f32 0, .float .f32 0, .float .f32 0, .float .f32 0, .float .f32 0, .float .f32 0, .float .f32 0, .float .f32 0]) 28
  have L3 := L2.setRow (#[.float .f32 0, .float .f32 0, .float .f32 0, .float .f32 0, .float .f32 0, .float .f32 0, .float .f32 0, .float .f32 0, .float .f32 0, .float .f32 0, .float .f32 0, .float .f32 0, .float .f32 0, .float .f32 0, .float .f32 0, .float .f32 0])
  have A3 := (A2.alloc (.cells (#[.float .f32 0, .float .f32 0, .float .f32 0, .float .f32 0, .float .f32 0, .float .f32 0, .float .f32 0, .float .f32 0, .float .f32 0, .float .f32 0, .float .f32 0, .float .f32 0, .float .f32 0, .float .f32 0, .float .f32 0, .float .f32 0]) 28)).setRow_other (k := w2.heap.size) (Nat.ne_of_lt A2.lt) (#[.float .f32 0, .float .f32 0, .float .f32 0, .float .f32 0, .float .f32 0, .float .f32 0, .float .f32 0, .float .f32 0, .float .f32 0, .float .f32 0, .float .f32 0, .float .f32 0, .float .f32 0, .float .f32 0, .float .f32 0, .float .f32 0])
  have S3 := (S2.alloc (.cells (#[.float .f32 0, .float .f32 0, .float .f32 0, .float .f32 0, .float .f32 0, .float .f32 0, .float .f32 0, .float .f32 0, .float .f32 0, .float .f32 0, .float .f32 0, .float .f32 0, .float .f32 0, .float .f32 0, .float .f32 0, .float .f32 0]) 28)).setRow_other (k := w2.heap.size) (Nat.ne_of_lt S2.lt) (#[.float .f32 0, .float .f32 0, .float .f32 0, .float .f32 0, .float .f32 0, .float .f32 0, .float .f32 0, .float .f32 0, .float .f32 0, .float .f32 0, .float .f32 0, .float .f32 0, .float .f32 0, .float .f32 0, .float .f32 0, .float .f32 0])
  have R3 := (R2.alloc (.cells (#[.float .f32 0, .float .f32 0, .float .f32 0, .float .f32 0, .float .f32 0, .float .f32 0, .float .f32 0, .float .f32 0, .float .f32 0, .float .f32 0, .float .f32 0, .float .f32 0, .float .f32 0, .float .f32 0, .float .f32 0, .float .f32 0]) 28)).setRow_other (k := w2.heap.size) (Nat.ne_of_lt R2.lt) (#[.float .f32 0, .float .f32 0, .float .f32 0, .float .f32 0, .float .f32 0, .float .f32 0, .float .f32 0, .float .f32 0, .float .f32 0, .float .f32 0, .float .f32 0, .float .f32 0, .float .f32 0, .float .f32 0, .float .f32 0, .float .f32 0])
  have B3 := Lib.hid (bset (bnew B2.out (.cells (#[.float .f32 0, .float .f32 0, .float .f32 0, .float .f32 0, .float .f32 0, .float .f32 0, .float .f32 0, .float .f32 0, .float .f32 0, .float .f32 0, .float .f32 0, .float .f32 0, .float .f32 0, .float .f32 0, .float .f32 0, .float .f32 0]) 28)) (g := w2.heap.size) B2.out.size (#[.float .f32 0, .float .f32 0, .float .f32 0, .float .f32 0, .float .f32 0, .float .f32 0, .float .f32 0, .float .f32 0, .float .f32 0, .float .f32 0, .float .f32 0, .float .f32 0, .float .f32 0, .float .f32 0, .float .f32 0, .float .f32 0]))
  have GT : w.heap.size + 1 + 1 < w2.heap.size := R2.lt
  obtain ⟨g, hg⟩ : ∃ g, g = w2.heap.size := ⟨_, rfl⟩
  go_wp2_with (((with_reducible refine is_store 28 (.tmp 6) (.tmp 18) rfl ?_); refine wpList_store_at rfl 28 (.tmp 6) (.tmp 18) rfl _ rfl (#[.float .f32 0, .float .f32 0, .float .f32 0, .float .f32 0, .float .f32 0, .float .f32 0, .float .f32 0, .float .f32 0, .float .f32 0, .float .f32 0, .float .f32 0, .float .f32 0, .float .f32 0, .float .f32 0, .float .f32 0, .float .f32 0]) rfl (#[.float .f32 0, .float .f32 0, .float .f32 0, .float .f32 0, .float .f32 0, .float .f32 0, .float .f32 0, .float .f32 0, .float .f32 0, .float .f32 0, .float .f32 0, .float .f32 0, .float .f32 0, .float .f32 0, .float .f32 0, .float .f32 0]) _ L2 16 (rfl) (rfl) (by kernel_rfl) ((by rw [zlit16]; exact fl_one _)) ?_))
  rw [← hg] at A3 S3 R3 L3 B3 GT ⊢
  go_loopw [7] (fun i' wr => ∃ k : Nat, k ≤ 4 ∧ i' = .int .i64 k ∧ At wr w.heap.size (jn i o ts ps) 31 ∧ At wr (w.heap.size + 1) (fl ss) 29 ∧ At wr (w.heap.size + 1 + 1) (#[.float .f32 0, .float .f32 0, .float .f32 0, .float .f32 0, .float .f32 0, .float .f32 0, .float .f32 0, .float .f32 0, .float .f32 0, .float .f32 0, .float .f32 0, .float .f32 0, .float .f32 0, .float .f32 0, .float .f32 0, .float .f32 0]) 28 ∧ At wr g (fl (cpN 16 (prodT ts ss) (4 * k))) 28 ∧ Hid (Below w.heap.size w wr)) (fun i' _ => 4 - (intOf i').toNat)
  case atStart => exact ⟨0, by omega, rfl, A3, S3, R3, L3, B3⟩
  case round =>
    clear A3 S3 R3 L3 B3 A2 S2 R2 B2 L2 hg
    obtain ⟨k, hk, rfl, A4, S4, R4, P4, B4⟩ := hrel
    by_cases hlk : k < 4
    · have rl := row4_len hlt hlk
      have s2 : IntKind.i64.wrap ((k : Int) + 1) = (k : Int) + 1 := IntWalk.i64_in _ (by omega)
      have hkd : decide ((k : Int) < 4) = true := decide_eq_true (by omega)
      go_wp2
      go_loopw [8] (fun i' wr' => ∃ n : Nat, n ≤ 4 ∧ i' = .int .i64 n ∧ At wr' w.heap.size (jn i o ts ps) 31 ∧ At wr' (w.heap.size + 1) (fl ss) 29 ∧ At wr' (w.heap.size + 1 + 1) (#[.float .f32 0, .float .f32 0, .float .f32 0, .float .f32 0, .float .f32 0, .float .f32 0, .float .f32 0, .float .f32 0, .float .f32 0, .float .f32 0, .float .f32 0, .float .f32 0, .float .f32 0, .float .f32 0, .float .f32 0, .float .f32 0]) 28 ∧ At wr' g (fl (cpN 16 (prodT ts ss) (4 * k + n))) 28 ∧ Hid (Below w.heap.size w wr')) (fun i' _ => 4 - (intOf i').toNat)
      case atStart => exact ⟨0, by omega, rfl, A4, S4, R4, P4, B4⟩
      case round =>
        clear A4 S4 R4 P4 B4
        obtain ⟨n, hn', rfl, A4, S4, R4, P4, B4⟩ := hrel
        by_cases hn : n < 4
        · have s3 : IntKind.i64.wrap ((n : Int) + 1) = (n : Int) + 1 := IntWalk.i64_in _ (by omega)
          have dS : (fl ss)[k]? = some (.float .f32 (nth ss k)) := fl_get (by omega)
          have dJ : (jn i o ts ps)[2 + k * 4 + n]? = some (.float .f32 (nth (row4 ts k) n)) := by rw [row4_nth hlt k hn]; exact jn_turn hlt hlp i o (k := 4 * k + n) (by omega) (by omega)
          have hmul : ∀ t W, (binOp .mul t (.float .f32 (nth ss k)) (.float .f32 (nth (row4 ts k) n))).run Try.prog W = .ok (.float .f32 (nth (prodT ts ss) (4 * k + n))) W := fun t W => by
            rw [prodT_nth hlt ss hlk hn]
            exact run_float_arith W .mul t .f32 _ _ _ (mul_part (HS.out k hlk) (HT.out _ (row4_mem k (nth_mem (by omega))))).1
          have hC := Cb.const wr
          go_wp2
          refine wp_region_cb_tail 14 (by kernel_rfl) (by kernel_rfl) ?_
          simp only [List.take, List.drop]
          repeat (first
            | go_big_quiet_skip
            | (go_big_quiet_want; first
              | (refine q_cell 22 _ rfl _ Try.underlying22 _ rfl S4 _ dS ?_; go_simp; go_big_quiet_on)
              | (refine q_cell 22 _ rfl _ Try.underlying22 _ rfl A4 _ dJ ?_; go_simp; go_big_quiet_on)
              | (go_big_quiet_op; go_big_quiet_on)))
          refine wpQuiet_nil ?_
          intro w9 hw9
          have A6 := A4.step hw9
          have S6 := S4.step hw9
          have R6 := R4.step hw9
          have P6 := P4.step hw9
          have B6 := Lib.hid (bthen B4.out hw9)
          clear A4 S4 R4 P4 B4 hw9 hC dS dJ hmul
          have A7 := A6.setRow_other (k := g) (by omega) (fl (cpN 16 (prodT ts ss) (4 * k + (n + 1))))
          have S7 := S6.setRow_other (k := g) (by omega) (fl (cpN 16 (prodT ts ss) (4 * k + (n + 1))))
          have R7 := R6.setRow_other (k := g) (by omega) (fl (cpN 16 (prodT ts ss) (4 * k + (n + 1))))
          have P7 := P6.setRow (fl (cpN 16 (prodT ts ss) (4 * k + (n + 1))))
          have B7 := Lib.hid (bset B6.out (g := g) (by omega) (fl (cpN 16 (prodT ts ss) (4 * k + (n + 1)))))
          go_wp2_with (((with_reducible refine is_store 22 (.tmp 40) (.tmp 38) rfl ?_); refine wpList_store_cell rfl 22 (.tmp 40) (.tmp 38) rfl _ _ rfl (.float .f32 (nth (prodT ts ss) (4 * k + n))) rfl (fl (cpN 16 (prodT ts ss) (4 * k + n))) _ P6 (by rw [fl_size, cpN_len (prodT_len _ _) _ (by omega)]; omega) (by kernel_rfl) rfl (fl (cpN 16 (prodT ts ss) (4 * k + (n + 1)))) (by rw [fl_set, show k * 4 + n = 4 * k + n from by omega, cpN_set (prodT_len _ _) (by omega)]; rfl) ?_))
          exact ⟨⟨n + 1, by omega, by go_num, A7, S7, R7, P7, B7⟩, by simp [intOf]; omega⟩
        · obtain rfl : n = 4 := by omega
          go_wp2
          exact ⟨⟨k + 1, by omega, by go_num, A4, S4, R4, P4, B4⟩, by simp [intOf]; omega⟩
    · obtain rfl : k = 4 := by omega
      rw [show 4 * 4 = 16 from rfl, cpN_all (prodT_len _ _)] at P4
      go_wp2_with (((with_reducible refine is_load 28 _ rfl ?_); refine wpList_load_at rfl 28 _ rfl _ rfl (fl (prodT ts ss)) _ P4 16 (SPR) _ Try.underlying28 rfl (by kernel_rfl) ?_))
      refine (l03Told_b (prodT ts ss) (prodT_len _ _) HF.out _).mono ?_
      rintro e w6 ⟨rfl, hb6⟩
      have R6 := R4.step hb6
      have B6 := Lib.hid (bthen B4.out hb6)
      clear A4 S4 R4 P4 B4 hb6
      have R9 := R6.setRow (fl (prodT ts ss))
      have B9 := Lib.hid (bset B6.out (g := w.heap.size + 1 + 1) (by omega) (fl (prodT ts ss)))
      go_wp2_with (((with_reducible refine is_store 28 (.tmp 4) (.tmp 43) rfl ?_); refine wpList_store_at rfl 28 (.tmp 4) (.tmp 43) rfl _ rfl (fl (prodT ts ss)) rfl (#[.float .f32 0, .float .f32 0, .float .f32 0, .float .f32 0, .float .f32 0, .float .f32 0, .float .f32 0, .float .f32 0, .float .f32 0, .float .f32 0, .float .f32 0, .float .f32 0, .float .f32 0, .float .f32 0, .float .f32 0, .float .f32 0]) _ R6 16 (SPR) (rfl) (by kernel_rfl) (fl_one _) ?_))
      exact bodyPost_ret (v := .tuple #[.agg (fl (prodT ts ss)), .int .i64 0]) (results_at_tmp (p := 4) (ty := 28) rfl _ _ _ (fl (prodT ts ss)) _ (.int .i64 0) rfl rfl R9 _ Try.underlying28 rfl 16 (SPR) (by kernel_rfl)) rfl ⟨rfl, B9.out⟩

end Go.Proofs.Ytdoilkhndkakkaa
