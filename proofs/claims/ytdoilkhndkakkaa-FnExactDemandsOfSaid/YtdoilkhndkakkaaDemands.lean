/-
  CONTRACTS: DemandsOf.
-/
import Derived.Test.YtdoilkhndkakkaaWants
import Derived.Test.YtdoilkhndkakkaaCols
namespace Go.Proofs.Ytdoilkhndkakkaa
open Go Go.RowKit
set_option maxRecDepth 100000

def vDemands (i o : Int) (ts ps ss : List Nat) : List Nat × Int := if sendC i o ts ps ss = 0 then vFour (colT (prodT ts ss)) else (zeros 4, sendC i o ts ps ss)
theorem prodT_amt {i o : Int} {ts ps ss : List Nat} (hlt : ts.length = 16) (h : okJ i o ts ps = true) (h2 : amtTo i ss 4 = true) : ∀ p, p < 16 → nth (prodT ts ss) p ≤ 2139095040 := fun p hp =>
  Nat.le_of_lt (prodT_fin hlt h h2 _ (nth_mem (by rw [prodT_len]; exact hp)))
theorem colT_amt {fs : List Nat} (h : ∀ p, p < 16 → nth fs p ≤ 2139095040) : ∀ k, k < 4 → nth (colT fs) k ≤ 2139095040 := fun k hk => by
  rw [colT_nth fs hk]; exact csum_amt h hk 4 (by omega)
theorem vFour_good {xs : List Nat} (hl : xs.length = 4) : (vFour xs).1.length = 4 ∧ ∀ x ∈ (vFour xs).1, x < 4294967296 ∧ nanB x = false := by
  unfold vFour
  split
  · rename_i h
    refine ⟨hl, fun x hx => ?_⟩
    obtain ⟨k, hk, rfl⟩ := List.mem_iff_getElem.1 hx
    have := List.all_eq_true.1 h k (by simpa [hl] using hk)
    unfold amtB nth at this
    rw [List.getD_eq_getElem?_getD, List.getElem?_eq_getElem hk, Option.getD_some] at this
    simp at this
    exact nan_le (Nat.le_of_lt this) (by omega)
  · exact ⟨zeros_len _, zeros_good _⟩
theorem vDemands_good (i o : Int) (ts ps ss : List Nat) : (vDemands i o ts ps ss).1.length = 4 ∧ ∀ x ∈ (vDemands i o ts ps ss).1, x < 4294967296 ∧ nanB x = false := by
  unfold vDemands
  split
  · exact vFour_good (colT_len _)
  · exact ⟨zeros_len _, zeros_good _⟩

set_option maxHeartbeats 1000000 in
theorem DemandsOf_b (i o : Int) (ts ps : List Nat) (hi : -9223372036854775808 ≤ i ∧ i ≤ 9223372036854775807) (ho : -9223372036854775808 ≤ o ∧ o ≤ 9223372036854775807) (hlt : ts.length = 16) (hlp : ps.length = 4) (hct : ∀ x ∈ ts, x < 4294967296) (hcp : ∀ x ∈ ps, x < 4294967296) (ss : List Nat) (hls : ss.length = 4) (hcs : ∀ x ∈ ss, x < 4294967296) (w : World) :
    Calls Try.prog 30 #[.agg (jn i o ts ps), .agg (fl ss)] w fun e w' => e = .returned (.tuple #[.agg (fl (vDemands i o ts ps ss).1), .int .i64 (vDemands i o ts ps ss).2]) ∧ Below w.heap.size w w' := by
  have A0 : At (((w.alloc (.cells (jn i o ts ps) 31)).alloc (.cells (fl ss) 29)).alloc (.cells (#[.float .f32 0, .float .f32 0, .float .f32 0, .float .f32 0]) 29)) w.heap.size (jn i o ts ps) 31 := ((At.new w _ _).alloc _).alloc _
  have S0 : At (((w.alloc (.cells (jn i o ts ps) 31)).alloc (.cells (fl ss) 29)).alloc (.cells (#[.float .f32 0, .float .f32 0, .float .f32 0, .float .f32 0]) 29)) (w.heap.size + 1) (fl ss) 29 := (At.last1 w _ _ _).alloc _
  have R0 : At (((w.alloc (.cells (jn i o ts ps) 31)).alloc (.cells (fl ss) 29)).alloc (.cells (#[.float .f32 0, .float .f32 0, .float .f32 0, .float .f32 0]) 29)) (w.heap.size + 1 + 1) (#[.float .f32 0, .float .f32 0, .float .f32 0, .float .f32 0]) 29 := At.last2 w _ _ _ _
  have B0 := Lib.hid (bnew (bnew (b0 w (.cells (jn i o ts ps) 31)) (.cells (fl ss) 29)) (.cells (#[.float .f32 0, .float .f32 0, .float .f32 0, .float .f32 0]) 29))
  have SZ := jn_size hlt hlp i o
  have SS : (fl ss).size = 4 := by rw [fl_size, hls]
  have SC : (fl (colT (prodT ts ss))).size = 4 := by rw [fl_size, colT_len]
  have SPR : (fl (prodT ts ss)).size = 16 := by rw [fl_size, prodT_len]
  by_cases hz : sendC i o ts ps ss = 0
  · obtain ⟨h1, h2⟩ := sendC_zero hz
    have HP := prodT_amt hlt h1 h2
    have HC := colT_amt HP
    have ev : (vDemands i o ts ps ss) = vFour (colT (prodT ts ss)) := by unfold vDemands; rw [if_pos hz]
    rw [ev]
    clear ev
    go_enter Try.func30, Try.ntmps30
    go_wp2_with (first | ((with_reducible refine is_load 31 _ rfl ?_); refine wpList_load_at rfl 31 _ rfl _ rfl (jn i o ts ps) _ A0 22 (SZ) _ Try.underlying31 rfl (by kernel_rfl) ?_) | ((with_reducible refine is_load 29 _ rfl ?_); refine wpList_load_at rfl 29 _ rfl _ rfl (fl ss) _ S0 4 (SS) _ Try.underlying29 rfl (by kernel_rfl) ?_))
    refine (refusalOfSends_b i o ts ps hi ho hlt hlp hct hcp ss hls hcs _).mono ?_
    rw [hz]
    clear hz
    rintro e w1 ⟨rfl, hb1⟩
    have A1 := A0.step hb1
    have S1 := S0.step hb1
    have R1 := R0.step hb1
    have B1 := Lib.hid (bthen B0.out hb1)
    clear A0 S0 R0 B0 hb1
    go_wp2_with (first | ((with_reducible refine is_load 31 _ rfl ?_); refine wpList_load_at rfl 31 _ rfl _ rfl (jn i o ts ps) _ A1 22 (SZ) _ Try.underlying31 rfl (by kernel_rfl) ?_) | ((with_reducible refine is_load 29 _ rfl ?_); refine wpList_load_at rfl 29 _ rfl _ rfl (fl ss) _ S1 4 (SS) _ Try.underlying29 rfl (by kernel_rfl) ?_))
    refine (turnsOf_b i o ts ps hi ho hlt hlp hct hcp ss hls hcs h1 h2 _).mono ?_
    rintro e w2 ⟨rfl, hb2⟩
    have R2 := R1.step hb2
    have B2 := Lib.hid (bthen B1.out hb2)
    clear A1 S1 R1 B1 hb2 h1 h2
    go_wp2_with fail
    refine (OutFlows_amt (prodT ts ss) (prodT_len _ _) HP _).mono ?_
    rintro e w3 ⟨rfl, hb3⟩
    have R3 := R2.step hb3
    have B3 := Lib.hid (bthen B2.out hb3)
    clear R2 B2 hb3
    have D3 := At.new w3 (#[.float .f32 0, .float .f32 0, .float .f32 0, .float .f32 0]) 29
    have D4 := D3.setRow (fl (colT (prodT ts ss)))
    have R4 := (R3.alloc (.cells (#[.float .f32 0, .float .f32 0, .float .f32 0, .float .f32 0]) 29)).setRow_other (k := w3.heap.size) (Nat.ne_of_lt R3.lt) (fl (colT (prodT ts ss)))
    have B4 := Lib.hid (bset (bnew B3.out (.cells (#[.float .f32 0, .float .f32 0, .float .f32 0, .float .f32 0]) 29)) (g := w3.heap.size) B3.out.size (fl (colT (prodT ts ss))))
    go_wp2_with (first | ((with_reducible refine is_store 29 (.tmp 7) (.tmp 18) rfl ?_); refine wpList_store_at rfl 29 (.tmp 7) (.tmp 18) rfl _ rfl (fl (colT (prodT ts ss))) rfl (#[.float .f32 0, .float .f32 0, .float .f32 0, .float .f32 0]) _ D3 4 (SC) (rfl) (by kernel_rfl) (fl_one _) ?_) | ((with_reducible refine is_load 29 _ rfl ?_); refine wpList_load_at rfl 29 _ rfl _ rfl (fl (colT (prodT ts ss))) _ D4 4 (SC) _ Try.underlying29 rfl (by kernel_rfl) ?_))
    refine (areFinite_amt (colT (prodT ts ss)) (colT_len _) HC _).mono ?_
    rintro e w5 ⟨rfl, hb5⟩
    have R5 := R4.step hb5
    have D5 := D4.step hb5
    have B5 := Lib.hid (bthen B4.out hb5)
    clear R3 B3 D3 D4 R4 B4 hb5
    cases hf : finTo (colT (prodT ts ss)) 4
    · have e2 : Hid (vFour (colT (prodT ts ss)) = (zeros 4, 4)) := Lib.hid (by unfold vFour; rw [hf]; rfl)
      have R9 := R5.setRow (#[.float .f32 0, .float .f32 0, .float .f32 0, .float .f32 0])
      have B9 := Lib.hid (bset B5.out (g := w.heap.size + 1 + 1) (by omega) (#[.float .f32 0, .float .f32 0, .float .f32 0, .float .f32 0]))
      go_wp2_with (((with_reducible refine is_store 29 (.tmp 4) (.tmp 22) rfl ?_); refine wpList_store_at rfl 29 (.tmp 4) (.tmp 22) rfl _ rfl (#[.float .f32 0, .float .f32 0, .float .f32 0, .float .f32 0]) rfl (#[.float .f32 0, .float .f32 0, .float .f32 0, .float .f32 0]) _ R5 4 (rfl) (rfl) (by kernel_rfl) ((by rw [zlit4]; exact fl_one _)) ?_))
      exact bodyPost_ret (v := .tuple #[.agg (#[.float .f32 0, .float .f32 0, .float .f32 0, .float .f32 0]), .int .i64 4]) (results_at_tmp (p := 4) (ty := 29) rfl _ _ _ (#[.float .f32 0, .float .f32 0, .float .f32 0, .float .f32 0]) _ (.int .i64 4) rfl rfl R9 _ Try.underlying29 rfl 4 (rfl) (by kernel_rfl)) rfl ⟨by rw [e2.out]; rfl, B9.out⟩
    · have e2 : Hid (vFour (colT (prodT ts ss)) = (colT (prodT ts ss), 0)) := Lib.hid (by unfold vFour; rw [hf]; rfl)
      have R9 := R5.setRow (fl (colT (prodT ts ss)))
      have B9 := Lib.hid (bset B5.out (g := w.heap.size + 1 + 1) (by omega) (fl (colT (prodT ts ss))))
      go_wp2_with (first | ((with_reducible refine is_load 29 _ rfl ?_); refine wpList_load_at rfl 29 _ rfl _ rfl (fl (colT (prodT ts ss))) _ D5 4 (SC) _ Try.underlying29 rfl (by kernel_rfl) ?_) | ((with_reducible refine is_store 29 (.tmp 4) (.tmp 23) rfl ?_); refine wpList_store_at rfl 29 (.tmp 4) (.tmp 23) rfl _ rfl (fl (colT (prodT ts ss))) rfl (#[.float .f32 0, .float .f32 0, .float .f32 0, .float .f32 0]) _ R5 4 (SC) (rfl) (by kernel_rfl) (fl_one _) ?_))
      exact bodyPost_ret (v := .tuple #[.agg (fl (colT (prodT ts ss))), .int .i64 0]) (results_at_tmp (p := 4) (ty := 29) rfl _ _ _ (fl (colT (prodT ts ss))) _ (.int .i64 0) rfl rfl R9 _ Try.underlying29 rfl 4 (SC) (by kernel_rfl)) rfl ⟨by rw [e2.out], B9.out⟩
  · have ev : (vDemands i o ts ps ss) = (zeros 4, sendC i o ts ps ss) := by unfold vDemands; rw [if_neg hz]
    rw [ev, ← zlit4]
    have KR := refusalOfSends_b i o ts ps hi ho hlt hlp hct hcp ss hls hcs
    have hzb : (sendC i o ts ps ss == 0) = false := by simpa using hz
    generalize sendC i o ts ps ss = c at KR hzb ⊢
    clear ev hz
    go_enter Try.func30, Try.ntmps30
    go_wp2_with (first | ((with_reducible refine is_load 31 _ rfl ?_); refine wpList_load_at rfl 31 _ rfl _ rfl (jn i o ts ps) _ A0 22 (SZ) _ Try.underlying31 rfl (by kernel_rfl) ?_) | ((with_reducible refine is_load 29 _ rfl ?_); refine wpList_load_at rfl 29 _ rfl _ rfl (fl ss) _ S0 4 (SS) _ Try.underlying29 rfl (by kernel_rfl) ?_))
    refine (KR _).mono ?_
    rintro e w1 ⟨rfl, hb1⟩
    have R1 := R0.step hb1
    have B1 := Lib.hid (bthen B0.out hb1)
    clear A0 S0 R0 B0 hb1 KR
    have R9 := R1.setRow (#[.float .f32 0, .float .f32 0, .float .f32 0, .float .f32 0])
    have B9 := Lib.hid (bset B1.out (g := w.heap.size + 1 + 1) (by omega) (#[.float .f32 0, .float .f32 0, .float .f32 0, .float .f32 0]))
    go_wp2_with (((with_reducible refine is_store 29 (.tmp 4) (.tmp 13) rfl ?_); refine wpList_store_at rfl 29 (.tmp 4) (.tmp 13) rfl _ rfl (#[.float .f32 0, .float .f32 0, .float .f32 0, .float .f32 0]) rfl (#[.float .f32 0, .float .f32 0, .float .f32 0, .float .f32 0]) _ R1 4 (rfl) (rfl) (by kernel_rfl) ((by rw [zlit4]; exact fl_one _)) ?_))
    exact bodyPost_ret (v := .tuple #[.agg (#[.float .f32 0, .float .f32 0, .float .f32 0, .float .f32 0]), .int .i64 c]) (results_at_tmp (p := 4) (ty := 29) rfl _ _ _ (#[.float .f32 0, .float .f32 0, .float .f32 0, .float .f32 0]) _ (.int .i64 c) rfl rfl R9 _ Try.underlying29 rfl 4 (rfl) (by kernel_rfl)) rfl ⟨rfl, B9.out⟩

set_option maxHeartbeats 1000000 in
theorem sDemandsOf_b (i o : Int) (ts ps : List Nat) (hi : -9223372036854775808 ≤ i ∧ i ≤ 9223372036854775807) (ho : -9223372036854775808 ≤ o ∧ o ≤ 9223372036854775807) (hlt : ts.length = 16) (hlp : ps.length = 4) (hct : ∀ x ∈ ts, x < 4294967296) (hcp : ∀ x ∈ ps, x < 4294967296) (ss : List Nat) (hls : ss.length = 4) (hcs : ∀ x ∈ ss, x < 4294967296) (w : World) :
    Calls Try.prog 29 #[.agg (jn i o ts ps), .agg (fl ss)] w fun e w' => e = .returned (.tuple #[.agg (fl (vDemands i o ts ps ss).1), .int .i64 (vDemands i o ts ps ss).2]) ∧ Below w.heap.size w w' := by
  have A0 : At (((w.alloc (.cells (jn i o ts ps) 31)).alloc (.cells (fl ss) 29)).alloc (.cells (#[.float .f32 0, .float .f32 0, .float .f32 0, .float .f32 0]) 29)) w.heap.size (jn i o ts ps) 31 := ((At.new w _ _).alloc _).alloc _
  have S0 : At (((w.alloc (.cells (jn i o ts ps) 31)).alloc (.cells (fl ss) 29)).alloc (.cells (#[.float .f32 0, .float .f32 0, .float .f32 0, .float .f32 0]) 29)) (w.heap.size + 1) (fl ss) 29 := (At.last1 w _ _ _).alloc _
  have R0 : At (((w.alloc (.cells (jn i o ts ps) 31)).alloc (.cells (fl ss) 29)).alloc (.cells (#[.float .f32 0, .float .f32 0, .float .f32 0, .float .f32 0]) 29)) (w.heap.size + 1 + 1) (#[.float .f32 0, .float .f32 0, .float .f32 0, .float .f32 0]) 29 := At.last2 w _ _ _ _
  have B0 := Lib.hid (bnew (bnew (b0 w (.cells (jn i o ts ps) 31)) (.cells (fl ss) 29)) (.cells (#[.float .f32 0, .float .f32 0, .float .f32 0, .float .f32 0]) 29))
  have SZ := jn_size hlt hlp i o
  have SS : (fl ss).size = 4 := by rw [fl_size, hls]
  have SC : (fl (colT (prodT ts ss))).size = 4 := by rw [fl_size, colT_len]
  have SPR : (fl (prodT ts ss)).size = 16 := by rw [fl_size, prodT_len]
  have KW := sWantsOf_b i o ts ps hi ho hlt hlp hct hcp ss hls hcs
  by_cases hz : sendC i o ts ps ss = 0
  · obtain ⟨h1, h2⟩ := sendC_zero hz
    have HP := prodT_amt hlt h1 h2
    have HC := colT_amt HP
    have ev : (vDemands i o ts ps ss) = vFour (colT (prodT ts ss)) := by unfold vDemands; rw [if_pos hz]
    have ew : (vWants i o ts ps ss) = (prodT ts ss, 0) := by unfold vWants; rw [if_pos hz]
    rw [ev]
    rw [ew] at KW
    clear ev ew h1 h2 hz
    go_enter Try.func29, Try.ntmps29
    go_wp2_with (first | ((with_reducible refine is_load 31 _ rfl ?_); refine wpList_load_at rfl 31 _ rfl _ rfl (jn i o ts ps) _ A0 22 (SZ) _ Try.underlying31 rfl (by kernel_rfl) ?_) | ((with_reducible refine is_load 29 _ rfl ?_); refine wpList_load_at rfl 29 _ rfl _ rfl (fl ss) _ S0 4 (SS) _ Try.underlying29 rfl (by kernel_rfl) ?_))
    refine (KW _).mono ?_
    rintro e w1 ⟨rfl, hb1⟩
    have R1 := R0.step hb1
    have B1 := Lib.hid (bthen B0.out hb1)
    clear A0 S0 R0 B0 hb1 KW
    have D1 := At.new w1 (#[.float .f32 0, .float .f32 0, .float .f32 0, .float .f32 0, .float .f32 0, .float .f32 0, .float .f32 0, .float .f32 0, .float .f32 0, .float .f32 0, .float .f32 0, .float .f32 0, .float .f32 0, .float .f32 0, .float .f32 0, .float .f32 0]) 28
    have D2 := D1.setRow (fl (prodT ts ss))
    have R2 := (R1.alloc (.cells (#[.float .f32 0, .float .f32 0, .float .f32 0, .float .f32 0, .float .f32 0, .float .f32 0, .float .f32 0, .float .f32 0, .float .f32 0, .float .f32 0, .float .f32 0, .float .f32 0, .float .f32 0, .float .f32 0, .float .f32 0, .float .f32 0]) 28)).setRow_other (k := w1.heap.size) (Nat.ne_of_lt R1.lt) (fl (prodT ts ss))
    have B2 := Lib.hid (bset (bnew B1.out (.cells (#[.float .f32 0, .float .f32 0, .float .f32 0, .float .f32 0, .float .f32 0, .float .f32 0, .float .f32 0, .float .f32 0, .float .f32 0, .float .f32 0, .float .f32 0, .float .f32 0, .float .f32 0, .float .f32 0, .float .f32 0, .float .f32 0]) 28)) (g := w1.heap.size) B1.out.size (fl (prodT ts ss)))
    go_wp2_with (((with_reducible refine is_store 28 (.tmp 6) (.tmp 12) rfl ?_); refine wpList_store_at rfl 28 (.tmp 6) (.tmp 12) rfl _ rfl (fl (prodT ts ss)) rfl (#[.float .f32 0, .float .f32 0, .float .f32 0, .float .f32 0, .float .f32 0, .float .f32 0, .float .f32 0, .float .f32 0, .float .f32 0, .float .f32 0, .float .f32 0, .float .f32 0, .float .f32 0, .float .f32 0, .float .f32 0, .float .f32 0]) _ D1 16 (SPR) (rfl) (by kernel_rfl) (fl_one _) ?_))
    refine (l03Columns_amt _ (prodT ts ss) 28 (prodT_len _ _) HP _ D2).mono ?_
    rintro e w3 ⟨rfl, hb3⟩
    have R3 := R2.step hb3
    have B3 := Lib.hid (bthen B2.out hb3)
    clear R1 B1 D1 D2 R2 B2 hb3
    go_wp2_with fail
    have KF := l03Four_amt (colT (prodT ts ss)) (colT_len _) HC
    have SV : (fl (vFour (colT (prodT ts ss))).1).size = 4 := by rw [fl_size, (vFour_good (colT_len _)).1]
    obtain ⟨P, hP⟩ : ∃ P, P = vFour (colT (prodT ts ss)) := ⟨_, rfl⟩
    rw [← hP] at KF SV
    have HPP := Lib.hid hP
    clear hP
    refine (KF _).mono ?_
    rintro e w4 ⟨rfl, hb4⟩
    have R4 := R3.step hb4
    have B4 := Lib.hid (bthen B3.out hb4)
    clear R3 B3 hb4 KF
    have R9 := R4.setRow (fl P.1)
    have B9 := Lib.hid (bset B4.out (g := w.heap.size + 1 + 1) (by omega) (fl P.1))
    go_wp2_with (((with_reducible refine is_store 29 (.tmp 4) (.tmp 20) rfl ?_); refine wpList_store_at rfl 29 (.tmp 4) (.tmp 20) rfl _ rfl (fl P.1) rfl (#[.float .f32 0, .float .f32 0, .float .f32 0, .float .f32 0]) _ R4 4 (SV) (rfl) (by kernel_rfl) (fl_one _) ?_))
    exact bodyPost_ret (v := .tuple #[.agg (fl P.1), .int .i64 P.2]) (results_at_tmp (p := 4) (ty := 29) rfl _ _ _ (fl P.1) _ (.int .i64 P.2) rfl rfl R9 _ Try.underlying29 rfl 4 (SV) (by kernel_rfl)) rfl ⟨by rw [HPP.out], B9.out⟩
  · have ev : (vDemands i o ts ps ss) = (zeros 4, sendC i o ts ps ss) := by unfold vDemands; rw [if_neg hz]
    have ew : (vWants i o ts ps ss) = (zeros 16, sendC i o ts ps ss) := by unfold vWants; rw [if_neg hz]
    rw [ev, ← zlit4]
    rw [ew, ← zlit16] at KW
    have hzb : (sendC i o ts ps ss == 0) = false := by simpa using hz
    generalize sendC i o ts ps ss = c at KW hzb ⊢
    clear ev ew hz
    go_enter Try.func29, Try.ntmps29
    go_wp2_with (first | ((with_reducible refine is_load 31 _ rfl ?_); refine wpList_load_at rfl 31 _ rfl _ rfl (jn i o ts ps) _ A0 22 (SZ) _ Try.underlying31 rfl (by kernel_rfl) ?_) | ((with_reducible refine is_load 29 _ rfl ?_); refine wpList_load_at rfl 29 _ rfl _ rfl (fl ss) _ S0 4 (SS) _ Try.underlying29 rfl (by kernel_rfl) ?_))
    refine (KW _).mono ?_
    rintro e w1 ⟨rfl, hb1⟩
    have R1 := R0.step hb1
    have B1 := Lib.hid (bthen B0.out hb1)
    clear A0 S0 R0 B0 hb1 KW
    have D1 := At.new w1 (#[.float .f32 0, .float .f32 0, .float .f32 0, .float .f32 0, .float .f32 0, .float .f32 0, .float .f32 0, .float .f32 0, .float .f32 0, .float .f32 0, .float .f32 0, .float .f32 0, .float .f32 0, .float .f32 0, .float .f32 0, .float .f32 0]) 28
    have R2 := (R1.alloc (.cells (#[.float .f32 0, .float .f32 0, .float .f32 0, .float .f32 0, .float .f32 0, .float .f32 0, .float .f32 0, .float .f32 0, .float .f32 0, .float .f32 0, .float .f32 0, .float .f32 0, .float .f32 0, .float .f32 0, .float .f32 0, .float .f32 0]) 28)).setRow_other (k := w1.heap.size) (Nat.ne_of_lt R1.lt) (#[.float .f32 0, .float .f32 0, .float .f32 0, .float .f32 0, .float .f32 0, .float .f32 0, .float .f32 0, .float .f32 0, .float .f32 0, .float .f32 0, .float .f32 0, .float .f32 0, .float .f32 0, .float .f32 0, .float .f32 0, .float .f32 0])
    have B2 := Lib.hid (bset (bnew B1.out (.cells (#[.float .f32 0, .float .f32 0, .float .f32 0, .float .f32 0, .float .f32 0, .float .f32 0, .float .f32 0, .float .f32 0, .float .f32 0, .float .f32 0, .float .f32 0, .float .f32 0, .float .f32 0, .float .f32 0, .float .f32 0, .float .f32 0]) 28)) (g := w1.heap.size) B1.out.size (#[.float .f32 0, .float .f32 0, .float .f32 0, .float .f32 0, .float .f32 0, .float .f32 0, .float .f32 0, .float .f32 0, .float .f32 0, .float .f32 0, .float .f32 0, .float .f32 0, .float .f32 0, .float .f32 0, .float .f32 0, .float .f32 0]))
    have R9 := R2.setRow (#[.float .f32 0, .float .f32 0, .float .f32 0, .float .f32 0])
    have B9 := Lib.hid (bset B2.out (g := w.heap.size + 1 + 1) (by omega) (#[.float .f32 0, .float .f32 0, .float .f32 0, .float .f32 0]))
    go_wp2_with (first | ((with_reducible refine is_store 28 (.tmp 6) (.tmp 12) rfl ?_); refine wpList_store_at rfl 28 (.tmp 6) (.tmp 12) rfl _ rfl (#[.float .f32 0, .float .f32 0, .float .f32 0, .float .f32 0, .float .f32 0, .float .f32 0, .float .f32 0, .float .f32 0, .float .f32 0, .float .f32 0, .float .f32 0, .float .f32 0, .float .f32 0, .float .f32 0, .float .f32 0, .float .f32 0]) rfl (#[.float .f32 0, .float .f32 0, .float .f32 0, .float .f32 0, .float .f32 0, .float .f32 0, .float .f32 0, .float .f32 0, .float .f32 0, .float .f32 0, .float .f32 0, .float .f32 0, .float .f32 0, .float .f32 0, .float .f32 0, .float .f32 0]) _ D1 16 (rfl) (rfl) (by kernel_rfl) ((by rw [zlit16]; exact fl_one _)) ?_) | ((with_reducible refine is_store 29 (.tmp 4) (.tmp 16) rfl ?_); refine wpList_store_at rfl 29 (.tmp 4) (.tmp 16) rfl _ rfl (#[.float .f32 0, .float .f32 0, .float .f32 0, .float .f32 0]) rfl (#[.float .f32 0, .float .f32 0, .float .f32 0, .float .f32 0]) _ R2 4 (rfl) (rfl) (by kernel_rfl) ((by rw [zlit4]; exact fl_one _)) ?_))
    exact bodyPost_ret (v := .tuple #[.agg (#[.float .f32 0, .float .f32 0, .float .f32 0, .float .f32 0]), .int .i64 c]) (results_at_tmp (p := 4) (ty := 29) rfl _ _ _ (#[.float .f32 0, .float .f32 0, .float .f32 0, .float .f32 0]) _ (.int .i64 c) rfl rfl R9 _ Try.underlying29 rfl 4 (rfl) (by kernel_rfl)) rfl ⟨rfl, B9.out⟩

end Go.Proofs.Ytdoilkhndkakkaa
