/-
  CONTRACTS: the turn with the greatest count, as the program has it.
-/
import Derived.Test.YteoplkhhlligcaaBusyS
namespace Go.Proofs.Yteoplkhhlligcaa
open Go Go.ChangeShapes Go.WideShapes Go.ChangeAt Go.RowKit
set_option maxRecDepth 100000

set_option maxHeartbeats 1000000 in
theorem maxFunc_any (G : Nat) (xs : Ts) (cap : Nat) (hW : TW xs) (hn : xs.length ≤ 1048576) (T : TypeId) (h96 : xs.length ≤ 96) (hn0 : 0 < xs.length) (w : World) (h0 : At w G (tC xs) T) :
    Calls Try.prog 66 #[(.slice (some ⟨G, 0, none⟩) xs.length cap), .func (Fn.func 67) #[] #[]] w fun e w' => e = .returned (.agg (t1 (tn xs (mx xs xs.length)) (tc xs (mx xs xs.length)) (tf xs (mx xs xs.length)))) ∧ Below w.heap.size w w' := by
  have HX := Lib.hid h0
  obtain ⟨n, hnn⟩ : ∃ n, n = xs.length := ⟨_, rfl⟩
  rw [← hnn] at h96 hn0 ⊢
  have HN := Lib.hid hnn
  have hz : (0 : Int) < (n : Int) := by omega
  clear hnn h0 hn hW
  go_enter Try.func66, Try.ntmps66
  have hs0 := tC_tally (xs := xs) (i := 0) (k := 0) (by rw [← HN.out]; exact hn0) rfl
  have SS := tC_size xs
  have hle0 : 0 + 3 ≤ (tC xs).size := by rw [SS, ← HN.out]; omega
  have R0 := At.new w #[.int .i64 0, .int .i16 0, .int .i16 0] 38
  have A0 := HX.out.alloc (.cells #[.int .i64 0, .int .i16 0, .int .i16 0] 38)
  have B0 := Lib.hid (b0 w (.cells #[.int .i64 0, .int .i16 0, .int .i16 0] 38))
  have M0 : At ((w.alloc (.cells #[.int .i64 0, .int .i16 0, .int .i16 0] 38)).alloc (.cells #[.int .i64 0, .int .i16 0, .int .i16 0] 38)) (w.heap.size + 1) #[.int .i64 0, .int .i16 0, .int .i16 0] 38 := At.last1 w _ _ _
  have hne : w.heap.size ≠ w.heap.size + 1 := by omega
  have hGl := HX.out.lt
  have R1 := (R0.alloc (.cells #[.int .i64 0, .int .i16 0, .int .i16 0] 38)).setRow_other (k := w.heap.size + 1) hne (t1 (tn xs 0) (tc xs 0) (tf xs 0))
  have A1 := (A0.alloc (.cells #[.int .i64 0, .int .i16 0, .int .i16 0] 38)).setRow_other (k := w.heap.size + 1) (by omega) (t1 (tn xs 0) (tc xs 0) (tf xs 0))
  have M1 := M0.setRow (t1 (tn xs 0) (tc xs 0) (tf xs 0))
  have B1 := Lib.hid (bset (bnew B0.out (.cells #[.int .i64 0, .int .i16 0, .int .i16 0] 38)) (g := w.heap.size + 1) (by omega) (t1 (tn xs 0) (tc xs 0) (tf xs 0)))
  clear R0 B0
  go_wp2_with (first | ((with_reducible refine is_load 38 _ rfl ?_); refine wpList_load_part rfl 38 _ rfl _ 0 rfl (tC xs) _ (by with_reducible assumption) 3 (hle0) _ Try.underlying38 rfl (by kernel_rfl) ((t1 (tn xs 0) (tc xs 0) (tf xs 0))) (hs0) ?_) | ((with_reducible refine is_store 38 _ _ rfl ?_); refine wpList_store_at rfl 38 _ _ rfl _ rfl ((t1 (tn xs 0) (tc xs 0) (tf xs 0))) rfl (#[.int .i64 0, .int .i16 0, .int .i16 0]) _ (by with_reducible assumption) 3 (t1_size _ _ _) (rfl) (by kernel_rfl) (t1_one _ _ _) ?_))
  clear A0 M0 hs0 hle0
  go_loopw [6] (fun i wr => ∃ k j : Nat, 1 ≤ k ∧ k ≤ n ∧ j < k ∧ i = .int .i64 (k : Int) ∧ Hid (j = mx xs k) ∧ At wr G (tC xs) T ∧ At wr w.heap.size #[.int .i64 0, .int .i16 0, .int .i16 0] 38 ∧ At wr (w.heap.size + 1) (t1 (tn xs j) (tc xs j) (tf xs j)) 38 ∧ Hid (Below w.heap.size w wr)) (fun i _ => n - (intOf i).toNat)
  case atStart => exact ⟨1, 0, by omega, by omega, by omega, rfl, Lib.hid (mx_one xs).symm, A1, R1, M1, B1⟩
  case round =>
    clear A1 R1 M1 B1
    obtain ⟨k, j, hk1, hk, hj, rfl, hm, A1, R1, M1, B1⟩ := hrel
    by_cases hlt : k < n
    · have s2 : IntKind.i64.wrap ((k : Int) + 1) = (k : Int) + 1 := IntWalk.i64_in _ (by omega)
      have kd : (k : Int) < (n : Int) := by omega
      have hkl : k < xs.length := by rw [← HN.out]; exact hlt
      have hle : k * 3 + 3 ≤ (tC xs).size := by rw [SS]; omega
      have hsl := tC_tally hkl (k := k * 3) rfl
      have hC := Cb.const wr
      obtain ⟨v, hv, hp⟩ : ∃ v : Int, cmpI (tc xs k) (tc xs j) = v ∧ ((v = 1 ∧ tc xs j < tc xs k) ∨ (v = 0 ∧ ¬ tc xs j < tc xs k) ∨ (v = -1 ∧ ¬ tc xs j < tc xs k)) := by
        by_cases p : tc xs j < tc xs k
        · exact ⟨_, rfl, .inl ⟨cmpI_gt p, p⟩⟩
        · by_cases q : tc xs k < tc xs j
          · exact ⟨_, rfl, .inr (.inr ⟨cmpI_lt q, p⟩)⟩
          · exact ⟨_, rfl, .inr (.inl ⟨cmpI_eq (by omega), p⟩)⟩
      have KC := busyCmp_any (tn xs k) (tc xs k) (tf xs k) (tn xs j) (tc xs j) (tf xs j)
      rw [hv] at KC
      clear hv hkl
      go_wp2
      refine wp_region_cb (by kernel_rfl) (by kernel_rfl) ?_
      repeat (first
        | go_big_quiet_skip
        | (go_big_quiet_want; first
          | (refine q_part 38 _ rfl (k * 3) rfl A1 3 hle _ Try.underlying38 rfl (by kernel_rfl) (t1 (tn xs k) (tc xs k) (tf xs k)) hsl ?_; go_simp; go_big_quiet_on)
          | (refine q_row 38 _ rfl rfl M1 3 (t1_size _ _ _) _ Try.underlying38 rfl (by kernel_rfl) ?_; go_simp; go_big_quiet_on)
          | (go_big_quiet_op; go_big_quiet_on)
          | (go_big_quiet_op; apply Exists.intro; refine ⟨fun w' hw' => ?_, ?_⟩; (go_at_call 67; exact (KC _).mono fun _ _ h => ⟨h.1, hw'.step h.2⟩); go_big_quiet_on)))
      refine wpQuiet_nil ?_
      intro w2 hw2
      have A2 := A1.step hw2
      have R2 := R1.step hw2
      have M2 := M1.step hw2
      have B2 := Lib.hid (bthen B1.out hw2)
      clear A1 R1 M1 B1 hw2 hC KC
      rcases hp with ⟨rfl, p⟩ | ⟨rfl, p⟩ | ⟨rfl, p⟩
      · have hm2 := Lib.hid (mx_yes (k := k) (by rw [← hm.out]; omega)).symm
        have A3 := A2.setRow_other (k := w.heap.size + 1) (by omega) (t1 (tn xs k) (tc xs k) (tf xs k))
        have R3 := R2.setRow_other (k := w.heap.size + 1) hne (t1 (tn xs k) (tc xs k) (tf xs k))
        have M3 := M2.setRow (t1 (tn xs k) (tc xs k) (tf xs k))
        have B3 := Lib.hid (bset B2.out (g := w.heap.size + 1) (by omega) (t1 (tn xs k) (tc xs k) (tf xs k)))
        go_wp2_with (first | ((with_reducible refine is_load 38 _ rfl ?_); refine wpList_load_part rfl 38 _ rfl _ (k * 3) rfl (tC xs) _ (by with_reducible assumption) 3 (hle) _ Try.underlying38 rfl (by kernel_rfl) ((t1 (tn xs k) (tc xs k) (tf xs k))) (hsl) ?_) | ((with_reducible refine is_store 38 _ _ rfl ?_); refine wpList_store_at rfl 38 _ _ rfl _ rfl ((t1 (tn xs k) (tc xs k) (tf xs k))) rfl ((t1 (tn xs j) (tc xs j) (tf xs j))) _ (by with_reducible assumption) 3 (t1_size _ _ _) (t1_size _ _ _) (by kernel_rfl) (t1_one _ _ _) ?_))
        exact ⟨⟨k + 1, k, by omega, by omega, by omega, by go_num, hm2, A3, R3, M3, B3⟩, by simp [intOf]; omega⟩
      · have hm2 := Lib.hid (hm.out.trans (mx_no (k := k) (by rw [← hm.out]; omega)).symm)
        go_wp2
        exact ⟨⟨k + 1, j, by omega, by omega, by omega, by go_num, hm2, A2, R2, M2, B2⟩, by simp [intOf]; omega⟩
      · have hm2 := Lib.hid (hm.out.trans (mx_no (k := k) (by rw [← hm.out]; omega)).symm)
        go_wp2
        exact ⟨⟨k + 1, j, by omega, by omega, by omega, by go_num, hm2, A2, R2, M2, B2⟩, by simp [intOf]; omega⟩
    · obtain rfl : n = k := by omega
      have R9 := R1.setRow (t1 (tn xs j) (tc xs j) (tf xs j))
      have B9 := Lib.hid (bset B1.out (g := w.heap.size) (by omega) (t1 (tn xs j) (tc xs j) (tf xs j)))
      go_wp2_with (first | ((with_reducible refine is_load 38 _ rfl ?_); refine wpList_load_at rfl 38 _ rfl _ rfl ((t1 (tn xs j) (tc xs j) (tf xs j))) _ (by with_reducible assumption) 3 (t1_size _ _ _) _ Try.underlying38 rfl (by kernel_rfl) ?_) | ((with_reducible refine is_store 38 _ _ rfl ?_); refine wpList_store_at rfl 38 _ _ rfl _ rfl ((t1 (tn xs j) (tc xs j) (tf xs j))) rfl (#[.int .i64 0, .int .i16 0, .int .i16 0]) _ (by with_reducible assumption) 3 (t1_size _ _ _) (rfl) (by kernel_rfl) (t1_one _ _ _) ?_))
      exact bodyPost_ret (v := .agg (t1 (tn xs j) (tc xs j) (tf xs j))) (results_at (p := 4) (ty := 38) rfl _ _ _ (t1 (tn xs j) (tc xs j) (tf xs j)) _ rfl R9 _ Try.underlying38 rfl 3 (t1_size _ _ _) (by kernel_rfl)) rfl ⟨by rw [← hm.out], B9.out⟩

set_option maxHeartbeats 400000 in
theorem BusiestTurn_any (G : Nat) (xs : Ts) (cap : Nat) (hW : TW xs) (hn : xs.length ≤ 1048576) (T : TypeId) (w : World) (h0 : At w G (tC xs) T) :
    Calls Try.prog 39 #[(.slice (some ⟨G, 0, none⟩) xs.length cap)] w fun e w' => e = .returned (.tuple #[.int .i64 (vBusy xs).1, .int .i64 (vBusy xs).2]) ∧ Below w.heap.size w w' := by
  have KV := refusalOfSome_any G xs cap hW hn T w h0
  by_cases h : someC xs = 0
  · rw [vBusy_yes h]
    rw [h] at KV
    obtain ⟨hok, hne⟩ := someC_of h
    have h96 := okT_len hok
    have HX := Lib.hid h0
    have hjl := mx_lt xs xs.length (by omega)
    have KM := fun w h0 => maxFunc_any G xs cap hW hn T h96 (by omega) w h0
    have hRes := Lib.hid (rfl : tn xs (mx xs xs.length) = tn xs (mx xs xs.length))
    generalize mx xs xs.length = j at KM hRes ⊢
    clear h0 h hn hok hjl hne hW
    generalize xs.length = n at KV KM
    go_enter Try.func39, Try.ntmps39
    go_wp2_with fail
    refine KV.mono ?_
    rintro e w1 ⟨rfl, hb1⟩
    have B1 := Lib.hid hb1
    have K1 := KM _ (HX.out.step hb1)
    clear hb1 KV KM
    go_wp2_with fail
    refine K1.mono ?_
    rintro e w2 ⟨rfl, hb2⟩
    have B2 := Lib.hid (bthen B1.out hb2)
    clear K1 B1 hb2
    have N0 := At.new w2 #[.int .i64 0, .int .i16 0, .int .i16 0] 38
    have N1 := N0.setRow (t1 (tn xs j) (tc xs j) (tf xs j))
    have c0 := N1.cell (t1_0 _ _ _)
    have B3 := Lib.hid (bset (bnew B2.out (.cells #[.int .i64 0, .int .i16 0, .int .i16 0] 38)) (g := w2.heap.size) B2.out.size (t1 (tn xs j) (tc xs j) (tf xs j)))
    go_wp2_with (((with_reducible refine is_store 38 _ _ rfl ?_); refine wpList_store_at rfl 38 _ _ rfl _ rfl ((t1 (tn xs j) (tc xs j) (tf xs j))) rfl (#[.int .i64 0, .int .i16 0, .int .i16 0]) _ (by with_reducible assumption) 3 (t1_size _ _ _) (rfl) (by kernel_rfl) (t1_one _ _ _) ?_))
    go_ret2
    exact ⟨rfl, B3.out⟩
  · rw [vBusy_no h]
    generalize someC xs = sc at KV h
    generalize xs.length = n at KV
    go_enter Try.func39, Try.ntmps39
    go_wp2_with fail
    refine KV.mono ?_
    rintro e w1 ⟨rfl, hb1⟩
    go_wp2_with fail
    go_ret2
    exact ⟨rfl, hb1⟩

end Go.Proofs.Yteoplkhhlligcaa
