/-
  CONTRACTS: the first turn at which a detector is stuck, as the program has it.
-/
import Derived.Test.YtejbaoakpkpciaaG16
namespace Go.Proofs.Ytejbaoakpkpciaa
open Go Go.ChangeShapes Go.WideShapes Go.ChangeAt Go.RowKit
set_option maxRecDepth 100000

set_option maxHeartbeats 1000000 in
theorem FirstStuck_any (G : Nat) (xs : Ts) (cap : Nat) (hW : TW xs) (hn : xs.length ≤ 1048576) (T : TypeId) (tm : Int) (w : World) (h0 : At w G (tC xs) T) :
    Calls Try.prog 9 #[(.slice (some ⟨G, 0, none⟩) xs.length cap), .int .i64 tm] w fun e w' => e = .returned (.tuple #[.int .i64 (vStuck xs tm).1, .int .i64 (vStuck xs tm).2]) ∧ Below w.heap.size w w' := by
  have KV := ValidTallies_any G xs cap hW hn T w h0
  have KT := isRowLength_b tm
  cases h : okT xs
  · rw [vStuck_1 h]
    rw [h] at KV
    generalize xs.length = n at KV
    go_enter Try.func9, Try.ntmps9
    go_wp2_with fail
    refine KV.mono ?_
    rintro e w1 ⟨rfl, hb1⟩
    go_wp2_with fail
    go_ret2
    exact ⟨rfl, hb1⟩
  · rw [h] at KV
    cases h2 : inB 1 96 tm
    · rw [vStuck_2 h h2]
      rw [h2] at KT
      generalize xs.length = n at KV
      go_enter Try.func9, Try.ntmps9
      go_wp2_with fail
      refine KV.mono ?_
      rintro e w1 ⟨rfl, hb1⟩
      go_wp2_with fail
      refine (KT _).mono ?_
      rintro e w2 ⟨rfl, n2, rfl⟩
      go_wp2_with fail
      go_ret2
      exact ⟨rfl, bdrew hb1 _⟩
    · rw [h2] at KT
      have h96 := okT_len h
      have HX := Lib.hid h0
      have HO := Lib.hid (And.intro h h2)
      obtain ⟨n, hnn⟩ : ∃ n, n = xs.length := ⟨_, rfl⟩
      rw [← hnn] at h96 KV ⊢
      have HN := Lib.hid hnn
      clear hnn h0 h hn hW h2
      go_enter Try.func9, Try.ntmps9
      go_wp2_with fail
      refine KV.mono ?_
      rintro e w1 ⟨rfl, hb1⟩
      go_wp2_with fail
      refine (KT _).mono ?_
      rintro e w2 ⟨rfl, n2, rfl⟩
      have A1 := (HX.out.step hb1).drewN n2
      have B1 := Lib.hid (bdrew hb1 n2)
      clear hb1 KV KT
      generalize World.drewN _ n2 = w3 at A1 B1 ⊢
      go_wp2_with fail
      go_loopw [6, 17] (fun s i wr => ∃ (k : Nat) (m : Int), k ≤ n ∧ s = .int .i64 m ∧ i = .int .i64 (k : Int) ∧ Hid (m = rowS xs k) ∧ Hid (firstHit (hitS xs tm) k = none) ∧ At wr G (tC xs) T ∧ Hid (Below w.heap.size w wr)) (fun _ i _ => n - (intOf i).toNat)
      case atStart => exact ⟨0, 0, by omega, rfl, rfl, Lib.hid rfl, Lib.hid rfl, A1, B1⟩
      case round =>
        clear A1 B1
        obtain ⟨k, m, hk, rfl, rfl, hm, hno, A1, B1⟩ := hrel
        have hmb := rowS_bd xs k
        rw [← hm.out] at hmb
        by_cases hlt : k < n
        · have s2 : IntKind.i64.wrap ((k : Int) + 1) = (k : Int) + 1 := IntWalk.i64_in _ (by omega)
          have kd : (k : Int) < (n : Int) := by omega
          have hkl : k < xs.length := by rw [← HN.out]; exact hlt
          have s4 : IntKind.i64.wrap (m + 1) = m + 1 := IntWalk.i64_in _ (by omega)
          have hsl := tC_tally hkl (k := k * 3) rfl
          have SS := tC_size xs
          have hle : k * 3 + 3 ≤ (tC xs).size := by rw [SS]; omega
          have N0 := At.new wr #[.int .i64 0, .int .i16 0, .int .i16 0] 32
          have N1 := N0.setRow (t1 (tn xs k) (tc xs k) (tf xs k))
          have c0 := N1.cell (t1_0 _ _ _)
          have c1 := N1.cell (t1_1 _ _ _)
          have A2 := (A1.alloc (.cells #[.int .i64 0, .int .i16 0, .int .i16 0] 32)).setRow_other (k := wr.heap.size) (Nat.ne_of_lt A1.lt) (t1 (tn xs k) (tc xs k) (tf xs k))
          have B2 := Lib.hid (bset (bnew B1.out (.cells #[.int .i64 0, .int .i16 0, .int .i16 0] 32)) (g := wr.heap.size) B1.out.size (t1 (tn xs k) (tc xs k) (tf xs k)))
          clear B1
          by_cases z : tc xs k = 0
          · have hr := Lib.hid (rowS_zero z).symm
            have z1 : (tc xs k == 0) = true := by simpa using z
            clear z
            by_cases hh : tm = (0 : Int)
            · have hv := Lib.hid (vStuck_0 HO.out.1 HO.out.2 hkl hno.out (by rw [← hr.out]; exact hh.symm))
              
              go_wp2_with (first | ((with_reducible refine is_load 32 _ rfl ?_); refine wpList_load_part rfl 32 _ rfl _ (k * 3) rfl (tC xs) _ (by with_reducible assumption) 3 (hle) _ Try.underlying32 rfl (by kernel_rfl) ((t1 (tn xs k) (tc xs k) (tf xs k))) (hsl) ?_) | ((with_reducible refine is_store 32 _ _ rfl ?_); refine wpList_store_at rfl 32 _ _ rfl _ rfl ((t1 (tn xs k) (tc xs k) (tf xs k))) rfl (#[.int .i64 0, .int .i16 0, .int .i16 0]) _ (by with_reducible assumption) 3 (t1_size _ _ _) (rfl) (by kernel_rfl) (t1_one _ _ _) ?_))
              go_wp2_with fail
              go_ret2
              exact ⟨by rw [hv.out]; rfl, B2.out⟩
            · have hno2 := Lib.hid (firstHit_miss hno.out (show hitS xs tm k = false from decide_eq_false (by rw [← hr.out]; exact fun e => hh e.symm)))
              
              go_wp2_with (first | ((with_reducible refine is_load 32 _ rfl ?_); refine wpList_load_part rfl 32 _ rfl _ (k * 3) rfl (tC xs) _ (by with_reducible assumption) 3 (hle) _ Try.underlying32 rfl (by kernel_rfl) ((t1 (tn xs k) (tc xs k) (tf xs k))) (hsl) ?_) | ((with_reducible refine is_store 32 _ _ rfl ?_); refine wpList_store_at rfl 32 _ _ rfl _ rfl ((t1 (tn xs k) (tc xs k) (tf xs k))) rfl (#[.int .i64 0, .int .i16 0, .int .i16 0]) _ (by with_reducible assumption) 3 (t1_size _ _ _) (rfl) (by kernel_rfl) (t1_one _ _ _) ?_))
              go_wp2_with fail
              exact ⟨⟨k + 1, (0 : Int), by omega, rfl, by go_num, hr, hno2, A2, B2⟩, by simp [intOf]; omega⟩
          · have hz : (tc xs k == 0) = false := by simpa using z
            have hz2 : decide (tc xs k = 0) = false := decide_eq_false z
            by_cases kz : 0 < k
            · have hkp : k - 1 < xs.length := by omega
              have hslP := tC_tally hkp (k := (k - 1) * 3) rfl
              have hleP : (k - 1) * 3 + 3 ≤ (tC xs).size := by rw [SS]; omega
              have s3 : IntKind.i64.wrap ((k : Int) - 1) = ((k - 1 : Nat) : Int) := by rw [IntWalk.i64_in _ (by omega)]; omega
              have kn : ((k - 1 : Nat) : Int) < (n : Int) := by omega
              have kn0 : (0 : Int) ≤ ((k - 1 : Nat) : Int) := by omega
              have KR := isRepeated_any (tn xs (k - 1)) (tc xs (k - 1)) (tf xs (k - 1)) (tn xs k) (tc xs k) (tf xs k)
              by_cases q : tc xs (k - 1) = tc xs k ∧ tf xs (k - 1) = tf xs k
              · have hr := Lib.hid (show m + 1 = rowS xs (k + 1) from by rw [rowS_more z ⟨rowS_pos kz (by rw [q.1]; exact z), q⟩, hm.out])
                rw [decide_eq_true q] at KR
                clear hkp SS q
                by_cases hh : tm = (m + 1)
                · have hv := Lib.hid (vStuck_0 HO.out.1 HO.out.2 hkl hno.out (by rw [← hr.out]; exact hh.symm))
                  
                  go_wp2_with (first | ((with_reducible refine is_load 32 _ rfl ?_); refine wpList_load_part rfl 32 _ rfl _ (k * 3) rfl (tC xs) _ (by with_reducible assumption) 3 (hle) _ Try.underlying32 rfl (by kernel_rfl) ((t1 (tn xs k) (tc xs k) (tf xs k))) (hsl) ?_) | ((with_reducible refine is_store 32 _ _ rfl ?_); refine wpList_store_at rfl 32 _ _ rfl _ rfl ((t1 (tn xs k) (tc xs k) (tf xs k))) rfl (#[.int .i64 0, .int .i16 0, .int .i16 0]) _ (by with_reducible assumption) 3 (t1_size _ _ _) (rfl) (by kernel_rfl) (t1_one _ _ _) ?_))
                  have N3 := N1
                  have A3 := A2
                  have B3 := B2
                  clear c0 c1 N0 N1 A1 A2 B2
                  generalize World.setRow _ _ (t1 (tn xs k) (tc xs k) (tf xs k)) = w4 at N3 A3 B3 ⊢
                  have hC := Cb.const w4
                  refine wp_region_cb (by kernel_rfl) (by kernel_rfl) ?_
                  repeat (first
                          | go_big_quiet_skip
                          | (go_big_quiet_want; first
                            | (refine q_part 32 _ rfl ((k - 1) * 3) rfl A3 3 hleP _ Try.underlying32 rfl (by kernel_rfl) (t1 (tn xs (k - 1)) (tc xs (k - 1)) (tf xs (k - 1))) hslP ?_; go_simp; go_big_quiet_on)
                            | (refine q_row 32 _ rfl rfl N3 3 (t1_size _ _ _) _ Try.underlying32 rfl (by kernel_rfl) ?_; go_simp; go_big_quiet_on)
                            | (go_big_quiet_op; go_big_quiet_on)
                            | (go_big_quiet_op; apply Exists.intro; refine ⟨fun w' hw' => ?_, ?_⟩; (go_at_call 29; exact (KR _).mono fun _ _ h => ⟨h.1, hw'.step h.2⟩); go_big_quiet_on)))
                  refine wpQuiet_nil ?_
                  intro w5 hw5
                  have N5 := N3.step hw5
                  have A5 := A3.step hw5
                  have B5 := Lib.hid (bthen B3.out hw5)
                  have c0 := N5.cell (t1_0 _ _ _)
                  clear N3 A3 B3 hw5 hC
                  go_wp2_with fail
                  go_ret2
                  exact ⟨by rw [hv.out]; rfl, B5.out⟩
                · have hno2 := Lib.hid (firstHit_miss hno.out (show hitS xs tm k = false from decide_eq_false (by rw [← hr.out]; exact fun e => hh e.symm)))
                  
                  go_wp2_with (first | ((with_reducible refine is_load 32 _ rfl ?_); refine wpList_load_part rfl 32 _ rfl _ (k * 3) rfl (tC xs) _ (by with_reducible assumption) 3 (hle) _ Try.underlying32 rfl (by kernel_rfl) ((t1 (tn xs k) (tc xs k) (tf xs k))) (hsl) ?_) | ((with_reducible refine is_store 32 _ _ rfl ?_); refine wpList_store_at rfl 32 _ _ rfl _ rfl ((t1 (tn xs k) (tc xs k) (tf xs k))) rfl (#[.int .i64 0, .int .i16 0, .int .i16 0]) _ (by with_reducible assumption) 3 (t1_size _ _ _) (rfl) (by kernel_rfl) (t1_one _ _ _) ?_))
                  have N3 := N1
                  have A3 := A2
                  have B3 := B2
                  clear c0 c1 N0 N1 A1 A2 B2
                  generalize World.setRow _ _ (t1 (tn xs k) (tc xs k) (tf xs k)) = w4 at N3 A3 B3 ⊢
                  have hC := Cb.const w4
                  refine wp_region_cb (by kernel_rfl) (by kernel_rfl) ?_
                  repeat (first
                          | go_big_quiet_skip
                          | (go_big_quiet_want; first
                            | (refine q_part 32 _ rfl ((k - 1) * 3) rfl A3 3 hleP _ Try.underlying32 rfl (by kernel_rfl) (t1 (tn xs (k - 1)) (tc xs (k - 1)) (tf xs (k - 1))) hslP ?_; go_simp; go_big_quiet_on)
                            | (refine q_row 32 _ rfl rfl N3 3 (t1_size _ _ _) _ Try.underlying32 rfl (by kernel_rfl) ?_; go_simp; go_big_quiet_on)
                            | (go_big_quiet_op; go_big_quiet_on)
                            | (go_big_quiet_op; apply Exists.intro; refine ⟨fun w' hw' => ?_, ?_⟩; (go_at_call 29; exact (KR _).mono fun _ _ h => ⟨h.1, hw'.step h.2⟩); go_big_quiet_on)))
                  refine wpQuiet_nil ?_
                  intro w5 hw5
                  have N5 := N3.step hw5
                  have A5 := A3.step hw5
                  have B5 := Lib.hid (bthen B3.out hw5)
                  have c0 := N5.cell (t1_0 _ _ _)
                  clear N3 A3 B3 hw5 hC
                  go_wp2_with fail
                  exact ⟨⟨k + 1, (m + 1), by omega, rfl, by go_num, hr, hno2, A5, B5⟩, by simp [intOf]; omega⟩
              · have hr := Lib.hid (show (1 : Int) = rowS xs (k + 1) from (rowS_one z (fun h => q h.2)).symm)
                rw [decide_eq_false q] at KR
                clear hkp SS q
                by_cases hh : tm = (1 : Int)
                · have hv := Lib.hid (vStuck_0 HO.out.1 HO.out.2 hkl hno.out (by rw [← hr.out]; exact hh.symm))
                  
                  go_wp2_with (first | ((with_reducible refine is_load 32 _ rfl ?_); refine wpList_load_part rfl 32 _ rfl _ (k * 3) rfl (tC xs) _ (by with_reducible assumption) 3 (hle) _ Try.underlying32 rfl (by kernel_rfl) ((t1 (tn xs k) (tc xs k) (tf xs k))) (hsl) ?_) | ((with_reducible refine is_store 32 _ _ rfl ?_); refine wpList_store_at rfl 32 _ _ rfl _ rfl ((t1 (tn xs k) (tc xs k) (tf xs k))) rfl (#[.int .i64 0, .int .i16 0, .int .i16 0]) _ (by with_reducible assumption) 3 (t1_size _ _ _) (rfl) (by kernel_rfl) (t1_one _ _ _) ?_))
                  have N3 := N1
                  have A3 := A2
                  have B3 := B2
                  clear c0 c1 N0 N1 A1 A2 B2
                  generalize World.setRow _ _ (t1 (tn xs k) (tc xs k) (tf xs k)) = w4 at N3 A3 B3 ⊢
                  have hC := Cb.const w4
                  refine wp_region_cb (by kernel_rfl) (by kernel_rfl) ?_
                  repeat (first
                          | go_big_quiet_skip
                          | (go_big_quiet_want; first
                            | (refine q_part 32 _ rfl ((k - 1) * 3) rfl A3 3 hleP _ Try.underlying32 rfl (by kernel_rfl) (t1 (tn xs (k - 1)) (tc xs (k - 1)) (tf xs (k - 1))) hslP ?_; go_simp; go_big_quiet_on)
                            | (refine q_row 32 _ rfl rfl N3 3 (t1_size _ _ _) _ Try.underlying32 rfl (by kernel_rfl) ?_; go_simp; go_big_quiet_on)
                            | (go_big_quiet_op; go_big_quiet_on)
                            | (go_big_quiet_op; apply Exists.intro; refine ⟨fun w' hw' => ?_, ?_⟩; (go_at_call 29; exact (KR _).mono fun _ _ h => ⟨h.1, hw'.step h.2⟩); go_big_quiet_on)))
                  refine wpQuiet_nil ?_
                  intro w5 hw5
                  have N5 := N3.step hw5
                  have A5 := A3.step hw5
                  have B5 := Lib.hid (bthen B3.out hw5)
                  have c0 := N5.cell (t1_0 _ _ _)
                  clear N3 A3 B3 hw5 hC
                  go_wp2_with fail
                  go_ret2
                  exact ⟨by rw [hv.out]; rfl, B5.out⟩
                · have hno2 := Lib.hid (firstHit_miss hno.out (show hitS xs tm k = false from decide_eq_false (by rw [← hr.out]; exact fun e => hh e.symm)))
                  
                  go_wp2_with (first | ((with_reducible refine is_load 32 _ rfl ?_); refine wpList_load_part rfl 32 _ rfl _ (k * 3) rfl (tC xs) _ (by with_reducible assumption) 3 (hle) _ Try.underlying32 rfl (by kernel_rfl) ((t1 (tn xs k) (tc xs k) (tf xs k))) (hsl) ?_) | ((with_reducible refine is_store 32 _ _ rfl ?_); refine wpList_store_at rfl 32 _ _ rfl _ rfl ((t1 (tn xs k) (tc xs k) (tf xs k))) rfl (#[.int .i64 0, .int .i16 0, .int .i16 0]) _ (by with_reducible assumption) 3 (t1_size _ _ _) (rfl) (by kernel_rfl) (t1_one _ _ _) ?_))
                  have N3 := N1
                  have A3 := A2
                  have B3 := B2
                  clear c0 c1 N0 N1 A1 A2 B2
                  generalize World.setRow _ _ (t1 (tn xs k) (tc xs k) (tf xs k)) = w4 at N3 A3 B3 ⊢
                  have hC := Cb.const w4
                  refine wp_region_cb (by kernel_rfl) (by kernel_rfl) ?_
                  repeat (first
                          | go_big_quiet_skip
                          | (go_big_quiet_want; first
                            | (refine q_part 32 _ rfl ((k - 1) * 3) rfl A3 3 hleP _ Try.underlying32 rfl (by kernel_rfl) (t1 (tn xs (k - 1)) (tc xs (k - 1)) (tf xs (k - 1))) hslP ?_; go_simp; go_big_quiet_on)
                            | (refine q_row 32 _ rfl rfl N3 3 (t1_size _ _ _) _ Try.underlying32 rfl (by kernel_rfl) ?_; go_simp; go_big_quiet_on)
                            | (go_big_quiet_op; go_big_quiet_on)
                            | (go_big_quiet_op; apply Exists.intro; refine ⟨fun w' hw' => ?_, ?_⟩; (go_at_call 29; exact (KR _).mono fun _ _ h => ⟨h.1, hw'.step h.2⟩); go_big_quiet_on)))
                  refine wpQuiet_nil ?_
                  intro w5 hw5
                  have N5 := N3.step hw5
                  have A5 := A3.step hw5
                  have B5 := Lib.hid (bthen B3.out hw5)
                  have c0 := N5.cell (t1_0 _ _ _)
                  clear N3 A3 B3 hw5 hC
                  go_wp2_with fail
                  exact ⟨⟨k + 1, (1 : Int), by omega, rfl, by go_num, hr, hno2, A5, B5⟩, by simp [intOf]; omega⟩
            · have kz' : decide (0 < k) = false := decide_eq_false kz
              have k0 : k = 0 := by omega
              have hr := Lib.hid (show (1 : Int) = rowS xs (k + 1) from (rowS_one z (fun h => by rw [k0] at h; have := h.1; rw [show rowS xs 0 = 0 from rfl] at this; omega)).symm)
              clear SS k0
              by_cases hh : tm = (1 : Int)
              · have hv := Lib.hid (vStuck_0 HO.out.1 HO.out.2 hkl hno.out (by rw [← hr.out]; exact hh.symm))
                
                go_wp2_with (first | ((with_reducible refine is_load 32 _ rfl ?_); refine wpList_load_part rfl 32 _ rfl _ (k * 3) rfl (tC xs) _ (by with_reducible assumption) 3 (hle) _ Try.underlying32 rfl (by kernel_rfl) ((t1 (tn xs k) (tc xs k) (tf xs k))) (hsl) ?_) | ((with_reducible refine is_store 32 _ _ rfl ?_); refine wpList_store_at rfl 32 _ _ rfl _ rfl ((t1 (tn xs k) (tc xs k) (tf xs k))) rfl (#[.int .i64 0, .int .i16 0, .int .i16 0]) _ (by with_reducible assumption) 3 (t1_size _ _ _) (rfl) (by kernel_rfl) (t1_one _ _ _) ?_))
                have N3 := N1
                have A3 := A2
                have B3 := B2
                clear c0 c1 N0 N1 A1 A2 B2
                generalize World.setRow _ _ (t1 (tn xs k) (tc xs k) (tf xs k)) = w4 at N3 A3 B3 ⊢
                have hC := Cb.const w4
                refine wp_region_cb (by kernel_rfl) (by kernel_rfl) ?_
                repeat (first
                        | go_big_quiet_skip
                        | (go_big_quiet_want; first
                          | (go_big_quiet_op; go_big_quiet_on)))
                refine wpQuiet_nil ?_
                intro w5 hw5
                have N5 := N3.step hw5
                have A5 := A3.step hw5
                have B5 := Lib.hid (bthen B3.out hw5)
                have c0 := N5.cell (t1_0 _ _ _)
                clear N3 A3 B3 hw5 hC
                go_wp2_with fail
                go_ret2
                exact ⟨by rw [hv.out]; rfl, B5.out⟩
              · have hno2 := Lib.hid (firstHit_miss hno.out (show hitS xs tm k = false from decide_eq_false (by rw [← hr.out]; exact fun e => hh e.symm)))
                
                go_wp2_with (first | ((with_reducible refine is_load 32 _ rfl ?_); refine wpList_load_part rfl 32 _ rfl _ (k * 3) rfl (tC xs) _ (by with_reducible assumption) 3 (hle) _ Try.underlying32 rfl (by kernel_rfl) ((t1 (tn xs k) (tc xs k) (tf xs k))) (hsl) ?_) | ((with_reducible refine is_store 32 _ _ rfl ?_); refine wpList_store_at rfl 32 _ _ rfl _ rfl ((t1 (tn xs k) (tc xs k) (tf xs k))) rfl (#[.int .i64 0, .int .i16 0, .int .i16 0]) _ (by with_reducible assumption) 3 (t1_size _ _ _) (rfl) (by kernel_rfl) (t1_one _ _ _) ?_))
                have N3 := N1
                have A3 := A2
                have B3 := B2
                clear c0 c1 N0 N1 A1 A2 B2
                generalize World.setRow _ _ (t1 (tn xs k) (tc xs k) (tf xs k)) = w4 at N3 A3 B3 ⊢
                have hC := Cb.const w4
                refine wp_region_cb (by kernel_rfl) (by kernel_rfl) ?_
                repeat (first
                        | go_big_quiet_skip
                        | (go_big_quiet_want; first
                          | (go_big_quiet_op; go_big_quiet_on)))
                refine wpQuiet_nil ?_
                intro w5 hw5
                have N5 := N3.step hw5
                have A5 := A3.step hw5
                have B5 := Lib.hid (bthen B3.out hw5)
                have c0 := N5.cell (t1_0 _ _ _)
                clear N3 A3 B3 hw5 hC
                go_wp2_with fail
                exact ⟨⟨k + 1, (1 : Int), by omega, rfl, by go_num, hr, hno2, A5, B5⟩, by simp [intOf]; omega⟩
        · obtain rfl : n = k := by omega
          have hv := Lib.hid (vStuck_6 HO.out.1 HO.out.2 (by rw [← HN.out]; exact hno.out))
          go_wp2_with fail
          go_ret2
          exact ⟨by rw [hv.out]; rfl, B1.out⟩

end Go.Proofs.Ytejbaoakpkpciaa
