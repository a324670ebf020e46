/-
  CONTRACTS: smoothed counts, as the program has them.
-/
import Derived.Test.YteoplkhhlligcabSmooS
import Derived.Test.YteoplkhhlligcabTail
namespace Go.Proofs.Yteoplkhhlligcab
open Go Go.ChangeShapes Go.WideShapes Go.ChangeAt Go.RowKit
set_option maxRecDepth 100000

set_option maxHeartbeats 2000000 in
theorem SmoothCounts_any (G : Nat) (xs : Ts) (cap : Nat) (hW : TW xs) (hn : xs.length ≤ 1048576) (T : TypeId) (s : Nat) (hs : s < 4294967296) (w : World) (h0 : At w G (tC xs) T) :
    Calls Try.prog 16 #[(.slice (some ⟨G, 0, none⟩) xs.length cap), .float .f32 s] w fun e w' => FR w w' (vSmooth xs s).1 (vSmooth xs s).2 e := by
  have KV := ValidTallies_any G xs cap hW hn T w h0
  have KT := IsShare_any s hs
  obtain ⟨i0, hi, hz0, hz1, hz2⟩ := info_float
  cases h : okT xs
  · rw [vSmooth_1 h]
    rw [h] at KV
    generalize xs.length = n at KV
    go_enter Try.func16, Try.ntmps16
    go_wp2_with fail
    refine KV.mono ?_
    rintro e w1 ⟨rfl, hb1⟩
    go_wp2_with fail
    go_ret2
    exact ⟨⟨_, rfl, OwnF.nil _ _⟩, hb1⟩
  · rw [h] at KV
    cases h2 : shrB s
    · rw [vSmooth_2 h h2]
      rw [h2] at KT
      generalize xs.length = n at KV
      go_enter Try.func16, Try.ntmps16
      go_wp2_with fail
      refine KV.mono ?_
      rintro e w1 ⟨rfl, hb1⟩
      go_wp2_with fail
      refine (KT _).mono ?_
      rintro e w2 ⟨rfl, n2, rfl⟩
      have hb2 := bdrew hb1 n2
      generalize World.drewN _ n2 = w2 at hb2 ⊢
      go_wp2_with fail
      go_ret2
      exact ⟨⟨_, rfl, OwnF.nil _ _⟩, hb2⟩
    · rw [vSmooth_0 h h2]
      rw [h2] at KT
      have hsh : s ≤ 1065353216 := of_decide_eq_true h2
      have h96 := okT_len h
      have HX := Lib.hid h0
      have HG := Lib.hid (show ∀ q, w.heap.size ≤ q → q ≠ G from fun q hq => by have := h0.lt; omega)
      have HC := Lib.hid (fun k hk => (cnt_wd h hW (i := k) hk).1)
      have HO := Lib.hid (fun i hi => sm_ops h hW hsh (i := i) hi)
      obtain ⟨n, hnn⟩ : ∃ n, n = xs.length := ⟨_, rfl⟩
      rw [← hnn] at h96 KV ⊢
      have HN := Lib.hid hnn
      clear hnn h0 h hn hW h2
      go_enter Try.func16, Try.ntmps16
      go_wp2_with fail
      refine KV.mono ?_
      rintro e w1 ⟨rfl, hb1⟩
      go_wp2_with fail
      refine (KT _).mono ?_
      rintro e w2 ⟨rfl, n2, rfl⟩
      have hb2 := bdrew hb1 n2
      generalize World.drewN _ n2 = w2 at hb2 ⊢
      clear hb1 KV KT
      have hmk := run_make_floats w2 n (by omega)
      have S1 := At.new w2 (fl (zeros n)) 23
      have A1 := (HX.out.step hb2).alloc (.cells (fl (zeros n)) 23)
      have B1 := Lib.hid (bnew hb2 (.cells (fl (zeros n)) 23))
      have hgs : w.heap.size ≤ w2.heap.size := hb2.size
      have hgG : G < w2.heap.size := (HX.out.step hb2).lt
      clear hb2
      go_wp2_with ((at_make; refine wpList_make_run rfl _ _ _ rfl _ _ _ rfl rfl hmk ?_))
      clear hmk
      obtain ⟨gs, hgse⟩ : ∃ gs, gs = w2.heap.size := ⟨_, rfl⟩
      rw [← hgse] at S1 hgs hgG ⊢
      clear hgse
      go_loopw [20] (fun i wr => ∃ k : Nat, k ≤ n ∧ i = .int .i64 (k : Int) ∧ At wr gs (fl (smR xs s n k)) 23 ∧ At wr G (tC xs) T ∧ Hid (Below w.heap.size w wr)) (fun i _ => n - (intOf i).toNat)
      case atStart => exact ⟨0, by omega, rfl, by rw [smR_0]; exact S1, A1, B1⟩
      case round =>
        clear A1 B1 S1
        obtain ⟨k, hk, rfl, S1, A1, B1⟩ := hrel
        by_cases hlt : k < n
        · have s2 : IntKind.i64.wrap ((k : Int) + 1) = (k : Int) + 1 := IntWalk.i64_in _ (by omega)
          have kd : (k : Int) < (n : Int) := by omega
          have hkl : k < xs.length := by rw [← HN.out]; exact hlt
          have fc := cntF (HC.out k hkl)
          have hsl := tC_tally hkl (k := k * 3) rfl
          have SS := tC_size xs
          have hle : k * 3 + 3 ≤ (tC xs).size := by rw [SS]; omega
          have N0 := At.new wr #[.int .i64 0, .int .i16 0, .int .i16 0] 96
          have N1 := N0.setRow (t1 (tn xs k) (tc xs k) (tf xs k))
          have c1 := N1.cell (t1_1 _ _ _)
          have A2 := (A1.alloc (.cells #[.int .i64 0, .int .i16 0, .int .i16 0] 96)).setRow_other (k := wr.heap.size) (Nat.ne_of_lt A1.lt) (t1 (tn xs k) (tc xs k) (tf xs k))
          have S2 := (S1.alloc (.cells #[.int .i64 0, .int .i16 0, .int .i16 0] 96)).setRow_other (k := wr.heap.size) (Nat.ne_of_lt S1.lt) (t1 (tn xs k) (tc xs k) (tf xs k))
          have B2 := Lib.hid (bset (bnew B1.out (.cells #[.int .i64 0, .int .i16 0, .int .i16 0] 96)) (g := wr.heap.size) B1.out.size (t1 (tn xs k) (tc xs k) (tf xs k)))
          clear B1 SS
          by_cases kz : 0 < k
          · have kz' : decide (0 < k) = true := decide_eq_true kz
            obtain ⟨o1, o2, o3, o4⟩ := HO.out (k - 1) (by omega)
            rw [show k - 1 + 1 = k from by omega] at o3 o4
            have s3 : IntKind.i64.wrap ((k : Int) - 1) = ((k - 1 : Nat) : Int) := by rw [IntWalk.i64_in _ (by omega)]; omega
            have kn : ((k - 1 : Nat) : Int) < (n : Int) := by omega
            have kn0 : (0 : Int) ≤ ((k - 1 : Nat) : Int) := by omega
            have hk1 : k - 1 < k := by omega
            have q1 := fun t w => run_float_arith (P := Try.prog) w .sub t .f32 _ _ _ o1
            have q2 := fun t w => run_float_arith (P := Try.prog) w .mul t .f32 _ _ _ o2
            have q3 := fun t w => run_float_arith (P := Try.prog) w .mul t .f32 _ _ _ o3
            have q4 := fun t w => run_float_arith (P := Try.prog) w .add t .f32 _ _ _ o4
            clear o1 o2 o3 o4 hkl
            generalize k - 1 = k' at *
            generalize subB 1065353216 s = Q at *
            generalize mulB (smN xs s k') Q = M1 at *
            generalize fN (tc xs k).toNat = C0 at *
            generalize mulB C0 s = M2 at *
            have A3 := A2.setRow_other (k := gs) (by omega) (fl (smM xs s n k C0))
            have S3 := S2.setRow (fl (smM xs s n k C0))
            have B3 := Lib.hid (bset B2.out (g := gs) hgs (fl (smM xs s n k C0)))
            go_wp2_with (first | ((with_reducible refine is_load 96 _ rfl ?_); refine wpList_load_part rfl 96 _ rfl _ (k * 3) rfl (tC xs) _ (by with_reducible assumption) 3 (hle) _ Try.underlying96 rfl (by kernel_rfl) ((t1 (tn xs k) (tc xs k) (tf xs k))) (hsl) ?_) | ((with_reducible refine is_store 96 _ _ rfl ?_); refine wpList_store_at rfl 96 _ _ rfl _ rfl ((t1 (tn xs k) (tc xs k) (tf xs k))) rfl (#[.int .i64 0, .int .i16 0, .int .i16 0]) _ (by with_reducible assumption) 3 (t1_size _ _ _) (rfl) (by kernel_rfl) (t1_one _ _ _) ?_) | ((with_reducible refine is_store 23 _ _ rfl ?_); refine wpList_store_cell rfl 23 _ _ rfl _ k rfl (.float .f32 C0) rfl (fl (smR xs s n k)) _ (by with_reducible assumption) (by rw [fl_size, smR_len (by omega)]; omega) (by kernel_rfl) rfl (fl (smM xs s n k C0)) (by rw [fl_set, smR_set hlt]) ?_))
            clear N0 N1 c1 A1 A2 S1 S2 B2 hsl hle
            generalize World.setRow _ gs _ = w4 at A3 S3 B3 ⊢
            have e1 : (fl (smM xs s n k C0))[k']? = some (.float .f32 (smN xs s k')) := by rw [fl_get (by rw [smM_len hlt]; omega), smM_lo hk1]
            have e2 : (fl (smM xs s n k C0))[k]? = some (.float .f32 C0) := by rw [fl_get (by rw [smM_len hlt]; omega), smM_at]
            have hC := Cb.const w4
            go_simp
            refine wp_region_cb_tail 18 (by kernel_rfl) (by kernel_rfl) ?_
            simp only [List.take, List.drop]
            repeat (first
              | go_big_quiet_skip
              | (go_big_quiet_want; first
                | (refine q_cell 23 _ rfl _ Try.underlying23 k' rfl S3 _ e1 ?_; go_simp; go_big_quiet_on)
                | (refine q_cell 23 _ rfl _ Try.underlying23 k rfl S3 _ e2 ?_; go_simp; go_big_quiet_on)
                | (go_big_quiet_op; go_big_quiet_on)))
            refine wpQuiet_nil ?_
            intro w9 hw9
            have A6 := A3.step hw9
            have S6 := S3.step hw9
            have B6 := Lib.hid (bthen B3.out hw9)
            clear A3 S3 B3 hw9 hC e1 e2
            have A7 := A6.setRow_other (k := gs) (by omega) (fl (smR xs s n (k + 1)))
            have S7 := S6.setRow (fl (smR xs s n (k + 1)))
            have B7 := Lib.hid (bset B6.out (g := gs) hgs (fl (smR xs s n (k + 1))))
            go_wp2_with (((with_reducible refine is_store 23 _ _ rfl ?_); refine wpList_store_cell rfl 23 _ _ rfl _ k rfl (.float .f32 (smN xs s k)) rfl (fl (smM xs s n k C0)) _ (by with_reducible assumption) (by rw [fl_size, smM_len hlt]; omega) (by kernel_rfl) rfl (fl (smR xs s n (k + 1))) (by rw [fl_set, smM_set, smM_done]) ?_))
            exact ⟨⟨k + 1, by omega, by go_num, S7, A7, B7⟩, by simp [intOf]; omega⟩
          · have kz' : decide (0 < k) = false := decide_eq_false kz
            have e0 : fN (tc xs k).toNat = smN xs s k := by rw [show k = 0 from by omega]; rfl
            have ed := Lib.hid (show smM xs s n k (fN (tc xs k).toNat) = smR xs s n (k + 1) from by rw [e0, smM_done])
            clear hkl e0
            generalize fN (tc xs k).toNat = C0 at *
            have A3 := A2.setRow_other (k := gs) (by omega) (fl (smM xs s n k C0))
            have S3 := S2.setRow (fl (smM xs s n k C0))
            have B3 := Lib.hid (bset B2.out (g := gs) hgs (fl (smM xs s n k C0)))
            go_wp2_with (first | ((with_reducible refine is_load 96 _ rfl ?_); refine wpList_load_part rfl 96 _ rfl _ (k * 3) rfl (tC xs) _ (by with_reducible assumption) 3 (hle) _ Try.underlying96 rfl (by kernel_rfl) ((t1 (tn xs k) (tc xs k) (tf xs k))) (hsl) ?_) | ((with_reducible refine is_store 96 _ _ rfl ?_); refine wpList_store_at rfl 96 _ _ rfl _ rfl ((t1 (tn xs k) (tc xs k) (tf xs k))) rfl (#[.int .i64 0, .int .i16 0, .int .i16 0]) _ (by with_reducible assumption) 3 (t1_size _ _ _) (rfl) (by kernel_rfl) (t1_one _ _ _) ?_) | ((with_reducible refine is_store 23 _ _ rfl ?_); refine wpList_store_cell rfl 23 _ _ rfl _ k rfl (.float .f32 C0) rfl (fl (smR xs s n k)) _ (by with_reducible assumption) (by rw [fl_size, smR_len (by omega)]; omega) (by kernel_rfl) rfl (fl (smM xs s n k C0)) (by rw [fl_set, smR_set hlt]) ?_))
            rw [ed.out] at S3 A3 B3
            exact ⟨⟨k + 1, by omega, by go_num, by rw [ed.out]; exact S3, by rw [ed.out]; exact A3, by rw [ed.out]; exact B3⟩, by simp [intOf]; omega⟩
        · obtain rfl : n = k := by omega
          rw [smR_n] at S1
          go_wp2_with fail
          go_ret2
          exact ⟨⟨_, rfl, OwnF.of_at S1 hgs (smL_len _ _ _) (by unfold maxLen; omega)⟩, B1.out⟩

end Go.Proofs.Yteoplkhhlligcab
