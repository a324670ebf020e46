/-
  CONTRACTS: the phase at a tick, as the program has it.
-/
import Derived.Test.YtboahhipobcababAtL
namespace Go.Proofs.Ytboahhipobcabab
open Go Go.ChangeShapes Go.WideShapes Go.ChangeAt Go.RowKit
set_option maxRecDepth 100000

set_option maxHeartbeats 1000000 in
theorem greenAt_any (G : Nat) (xs : Slots) (b o : Int) (hW : SlW xs) (T : TypeId) (hok : okP xs b o = true) (k0 : Int) (hk0 : 0 ≤ k0 ∧ k0 ≤ 2000000000) (w : World) (A0 : At w G (slC xs) T) :
    Calls Try.prog 150 #[.agg (plC (.slice (some ⟨G, 0, none⟩) xs.length xs.length) b o), .int .i64 k0] w fun e w' => e = .returned (.tuple #[.agg (bl (atS b xs ((k0 - o) % cyc xs b)).1), .int .i64 (atS b xs ((k0 - o) % cyc xs b)).2]) ∧ Below w.heap.size w w' := by
  obtain ⟨hl, hb, ht, hc, ho⟩ := okP_parts hok
  have P0 : At ((w.alloc (.cells (plC (.slice (some ⟨G, 0, none⟩) xs.length xs.length) b o) 41)).alloc (.cells (bl (noes 8)) 69)) w.heap.size (plC (.slice (some ⟨G, 0, none⟩) xs.length xs.length) b o) 41 := (At.new w _ _).alloc _
  have R0 : At ((w.alloc (.cells (plC (.slice (some ⟨G, 0, none⟩) xs.length xs.length) b o) 41)).alloc (.cells (bl (noes 8)) 69)) (w.heap.size + 1) (bl (noes 8)) 69 := At.last1 w _ _ _
  have A1 := (A0.alloc (.cells (plC (.slice (some ⟨G, 0, none⟩) xs.length xs.length) b o) 41)).alloc (.cells (bl (noes 8)) 69)
  have B1 := Lib.hid (bnew (b0 w (.cells (plC (.slice (some ⟨G, 0, none⟩) xs.length xs.length) b o) 41)) (.cells (bl (noes 8)) 69))
  have HX := Lib.hid (And.intro hW ht)
  have KC := fun wr hA => cycleOf_any G xs b o hW T hl.2 hb ht wr hA
  have hlen := hl.2
  have hcr : 0 < cyc xs b ∧ cyc xs b ≤ 240 := by omega
  have KM := fun wr => modulo_b (k0 - o) (cyc xs b) hcr (by omega) wr
  have hGl : G ≠ w.heap.size + 1 := by have := A0.lt; omega
  have s0 : IntKind.i64.wrap (k0 - o) = k0 - o := IntWalk.i64_in _ (by omega)
  have hr1 := Int.emod_nonneg (k0 - o) (show cyc xs b ≠ 0 by omega)
  have hr2 := Int.emod_lt_of_pos (k0 - o) hcr.1
  generalize hq : (k0 - o) % cyc xs b = c0 at KM hr1 hr2
  have hc0 : 0 ≤ c0 ∧ c0 ≤ 240 := by omega
  clear hr1 hr2 hcr ht hl hc ho hok A0
  obtain ⟨n, hnn⟩ : ∃ n, n = xs.length := ⟨_, rfl⟩
  have HN := Lib.hid hnn
  rw [← hnn] at hlen P0 A1 B1 R0 KC ⊢
  clear hnn hW
  have HQ := Lib.hid hq
  clear hq
  have SP : (plC (.slice (some ⟨G, 0, none⟩) n n) b o).size = 3 := plC_size _ _ _
  go_enter Try.func150, Try.ntmps150
  go_wp2
  generalize hw1 : (w.alloc (.cells (plC (.slice (some ⟨G, 0, none⟩) n n) b o) 41)).alloc (.cells #[.bool false, .bool false, .bool false, .bool false, .bool false, .bool false, .bool false, .bool false] 69) = w1
  replace P0 : At w1 w.heap.size (plC (.slice (some ⟨G, 0, none⟩) n n) b o) 41 := by rw [← hw1]; exact P0
  replace R0 : At w1 (w.heap.size + 1) (bl (noes 8)) 69 := by rw [← hw1]; exact R0
  replace A1 : At w1 G (slC xs) T := by rw [← hw1]; exact A1
  replace B1 : Hid (Below w.heap.size w w1) := by rw [← hw1]; exact B1
  clear hw1
  have hC := Cb.const w1
  refine wp_region_cb (by kernel_rfl) (by kernel_rfl) ?_
  repeat (first
    | go_big_quiet_skip
    | (go_big_quiet_want; first
      | (refine q_one 2 _ rfl _ Try.underlying2 rfl 2 rfl P0 _ (plC_2 _ _ _) ?_; go_simp; go_big_quiet_on)
      | (refine q_row 41 _ rfl rfl P0 3 SP _ Try.underlying41 rfl (by kernel_rfl) ?_; go_simp; go_big_quiet_on)
      | (go_big_quiet_op; go_big_quiet_on)
      | (go_big_quiet_op; apply Exists.intro; refine ⟨fun w' hw' => ?_, ?_⟩; (go_at_call 104; exact (KC _ (A1.step hw')).mono fun _ _ h => ⟨h.1, hw'.step h.2⟩); go_big_quiet_on)
      | (go_big_quiet_op; apply Exists.intro; refine ⟨fun w' hw' => ?_, ?_⟩; (go_at_call 107; exact (KM _).mono fun _ w9 h => ⟨h.1, hw'.step (by obtain ⟨m9, hm9⟩ := h.2; rw [hm9]; exact bdrew (Below.refl _ _) _)⟩); go_big_quiet_on)))
  refine wpQuiet_nil ?_
  intro w2 hw2
  replace P0 := P0.step hw2
  replace R0 := R0.step hw2
  replace A1 := A1.step hw2
  replace B1 := Lib.hid (bthen B1.out hw2)
  clear hC hw2 KC KM s0
  go_wp2_with (((with_reducible refine is_load 39 _ rfl ?_); refine wpList_load_cell rfl 39 _ rfl _ 0 rfl ((plC (.slice (some ⟨G, 0, none⟩) n n) b o)) _ (by with_reducible assumption) _ Try.underlying39 rfl ((.slice (some ⟨G, 0, none⟩) n n)) (plC_0 _ _ _) ?_))
  go_loopw [6, 19] (fun cc i wr => ∃ (k : Nat) (c : Int), k ≤ n ∧ i = .int .i64 (k : Int) ∧ cc = .int .i64 c ∧ (0 ≤ c ∧ c ≤ 240) ∧ Hid (atS b (xs.drop k) c = atS b xs c0) ∧ At wr w.heap.size (plC (.slice (some ⟨G, 0, none⟩) n n) b o) 41 ∧ At wr G (slC xs) T ∧ At wr (w.heap.size + 1) (bl (noes 8)) 69 ∧ Hid (Below w.heap.size w wr)) (fun _ i _ => n - (intOf i).toNat)
  case atStart => exact ⟨0, c0, by omega, rfl, rfl, hc0, Lib.hid rfl, P0, A1, R0, B1⟩
  case round =>
    clear P0 A1 R0 B1 hc0
    obtain ⟨k, c, hk, rfl, rfl, hcr, hat, P1, A1, R1, B1⟩ := hrel
    have SZ0 : (bl (noes 8)).size = 8 := by rw [bl_size, noes_len]
    by_cases hlt : k < n
    · have s2 : IntKind.i64.wrap ((k : Int) + 1) = (k : Int) + 1 := IntWalk.i64_in _ (by omega)
      have kd : (k : Int) < (n : Int) := by omega
      have hkl : k < xs.length := by rw [← HN.out]; exact hlt
      have htr := tkOk_at hkl HX.out.2
      have hb8 := (HX.out.1.at hkl).1
      have SS := slC_size HX.out.1
      have hle : k * 9 + 9 ≤ (slC xs).size := by rw [SS]; omega
      have hsl := slC_slot HX.out.1 hkl (k := k * 9) rfl
      have S1 := sl1_size hb8 (st xs k)
      have SZ8 : (bl (sb xs k)).size = 8 := by rw [bl_size, hb8]
      have va := fun h => atS_a (b := b) (c := c) hkl h
      clear SS
      have vb := fun h h2 => atS_b (b := b) (c := c) hkl h h2
      have vc := fun h h2 => atS_c (b := b) (c := c) hkl h h2
      generalize sb xs k = bb at hb8 hsl S1 SZ8 va
      have N0 := At.new wr #[.bool false, .bool false, .bool false, .bool false, .bool false, .bool false, .bool false, .bool false, .int .i64 0] 107
      have N1 := N0.setRow (sl1 bb (st xs k))
      have ct := N1.cell (sl1_ticks hb8 (st xs k))
      have P2 := (P1.alloc (.cells #[.bool false, .bool false, .bool false, .bool false, .bool false, .bool false, .bool false, .bool false, .int .i64 0] 107)).setRow_other (k := wr.heap.size) (Nat.ne_of_lt P1.lt) (sl1 bb (st xs k))
      have f1 := P2.cell (plC_1 (.slice (some ⟨G, 0, none⟩) n n) b o)
      have A2 := (A1.alloc (.cells #[.bool false, .bool false, .bool false, .bool false, .bool false, .bool false, .bool false, .bool false, .int .i64 0] 107)).setRow_other (k := wr.heap.size) (Nat.ne_of_lt A1.lt) (sl1 bb (st xs k))
      have R2 := (R1.alloc (.cells #[.bool false, .bool false, .bool false, .bool false, .bool false, .bool false, .bool false, .bool false, .int .i64 0] 107)).setRow_other (k := wr.heap.size) (Nat.ne_of_lt R1.lt) (sl1 bb (st xs k))
      have B2 := Lib.hid (bset (bnew B1.out (.cells #[.bool false, .bool false, .bool false, .bool false, .bool false, .bool false, .bool false, .bool false, .int .i64 0] 107)) (g := wr.heap.size) B1.out.size (sl1 bb (st xs k)))
      clear B1 hkl
      by_cases c1 : c < st xs k
      · have hv := hat.out.symm.trans (va c1)
        have sw : IntKind.i64.wrap (st xs k - c) = st xs k - c := IntWalk.i64_in _ (by omega)
        have EQ : Ending.returned (Value.tuple #[.agg (bl bb), .int .i64 (st xs k - c)]) = .returned (.tuple #[.agg (bl (atS b xs c0).1), .int .i64 (atS b xs c0).2]) := by rw [hv]
        clear hv va vb vc
        go_wp2_with (first | ((with_reducible refine is_load 107 _ rfl ?_); refine wpList_load_part rfl 107 _ rfl _ (k * 9) rfl (slC xs) _ (by with_reducible assumption) 9 (hle) _ Try.underlying107 rfl (by kernel_rfl) (sl1 bb (st xs k)) (hsl) ?_) | ((with_reducible refine is_store 107 _ _ rfl ?_); refine wpList_store_at rfl 107 _ _ rfl _ rfl (sl1 bb (st xs k)) rfl (#[.bool false, .bool false, .bool false, .bool false, .bool false, .bool false, .bool false, .bool false, .int .i64 0]) _ (by with_reducible assumption) 9 (S1) (rfl) (by kernel_rfl) (sl1_one _ _) ?_))
        refine wp_region_late (n := 7) (ist := 6) (d := 4) (s := 28) (T := 69) (gR := w.heap.size + 1) (OV := bl (noes 8)) (RV := bl bb) (by kernel_rfl) (by kernel_rfl) (by kernel_rfl) ⟨rfl, rfl, by decide, by kernel_rfl, by kernel_rfl, by kernel_rfl, by kernel_rfl⟩ rfl R2 (fun ev w' h1 h2 h3 => store_fresh rfl 8 SZ8 SZ0 (by kernel_rfl) (bl_one _) ev w' _ h1 h2 h3) ?_
        intro C hC0
        have P9 : ∀ w', C w' → At w' w.heap.size (plC (.slice (some ⟨G, 0, none⟩) n n) b o) 41 := fun w' h => (hC0.sub w' h).at P2 (by omega)
        have N9 : ∀ w', C w' → At w' wr.heap.size (sl1 bb (st xs k)) 107 := fun w' h => (hC0.sub w' h).at N1 (Nat.ne_of_gt R1.lt)
        have hC := hC0.const
        simp (config := { decide := true }) only [cutOut, nop, List.mapIdx_cons, List.mapIdx_nil, if_true, if_false, List.take, List.drop]
        repeat (first
          | go_big_quiet_skip
          | (go_big_quiet_want; first
            | (refine q_partC 69 _ rfl 0 rfl N9 8 (by rw [S1]; omega) _ Try.underlying69 rfl (by kernel_rfl) (bl bb) (sl1_phase hb8 _) ?_; go_simp; go_big_quiet_on)
            | (refine q_oneC 2 _ rfl _ Try.underlying2 rfl 8 rfl N9 _ (sl1_ticks hb8 _) ?_; go_simp; go_big_quiet_on)
            | (go_big_quiet_op; go_big_quiet_on)))
        refine wpQuiet_nil ?_
        refine ⟨rfl, fun w9 hw9 R9 => ?_⟩
        have B9 := Lib.hid (B2.out.trans (hw9.below (by omega) R2.lt))
        clear hC P9 N9 hC0 hw9 P1 A1 R1 P2 A2 R2 B2 N0 N1 ct f1
        go_wp2
        exact bodyPost_ret (v := .tuple #[.agg (bl bb), .int .i64 (st xs k - c)]) (results_at_tmp (p := 4) (ty := 69) rfl _ _ _ (bl bb) _ (.int .i64 (st xs k - c)) rfl rfl R9 _ Try.underlying69 rfl 8 (SZ8) (by kernel_rfl)) rfl ⟨EQ, B9.out⟩
      · have s3 : IntKind.i64.wrap (c - st xs k) = c - st xs k := IntWalk.i64_in _ (by omega)
        by_cases c2 : c - st xs k < b
        · have hv := hat.out.symm.trans (vb c1 c2)
          have sw : IntKind.i64.wrap (b - (c - st xs k)) = b - (c - st xs k) := IntWalk.i64_in _ (by omega)
          have EQ : Ending.returned (Value.tuple #[.agg (bl (noes 8)), .int .i64 (b - (c - st xs k))]) = .returned (.tuple #[.agg (bl (atS b xs c0).1), .int .i64 (atS b xs c0).2]) := by rw [hv]
          clear hv va vb vc
          go_wp2_with (first | ((with_reducible refine is_load 107 _ rfl ?_); refine wpList_load_part rfl 107 _ rfl _ (k * 9) rfl (slC xs) _ (by with_reducible assumption) 9 (hle) _ Try.underlying107 rfl (by kernel_rfl) (sl1 bb (st xs k)) (hsl) ?_) | ((with_reducible refine is_store 107 _ _ rfl ?_); refine wpList_store_at rfl 107 _ _ rfl _ rfl (sl1 bb (st xs k)) rfl (#[.bool false, .bool false, .bool false, .bool false, .bool false, .bool false, .bool false, .bool false, .int .i64 0]) _ (by with_reducible assumption) 9 (S1) (rfl) (by kernel_rfl) (sl1_one _ _) ?_))
          refine wp_region_late (n := 6) (ist := 5) (d := 4) (s := 41) (T := 69) (gR := w.heap.size + 1) (OV := bl (noes 8)) (RV := bl (noes 8)) (by kernel_rfl) (by kernel_rfl) (by kernel_rfl) ⟨rfl, rfl, by decide, by kernel_rfl, by kernel_rfl, by kernel_rfl, by kernel_rfl⟩ rfl R2 (fun ev w' h1 h2 h3 => store_fresh rfl 8 SZ0 SZ0 (by kernel_rfl) (bl_one _) ev w' _ h1 h2 h3) ?_
          intro C hC0
          have P9 : ∀ w', C w' → At w' w.heap.size (plC (.slice (some ⟨G, 0, none⟩) n n) b o) 41 := fun w' h => (hC0.sub w' h).at P2 (by omega)
          have N9 : ∀ w', C w' → At w' wr.heap.size (sl1 bb (st xs k)) 107 := fun w' h => (hC0.sub w' h).at N1 (Nat.ne_of_gt R1.lt)
          have hC := hC0.const
          simp (config := { decide := true }) only [cutOut, nop, List.mapIdx_cons, List.mapIdx_nil, if_true, if_false, List.take, List.drop]
          repeat (first
            | go_big_quiet_skip
            | (go_big_quiet_want; first
              | (refine q_oneC 2 _ rfl _ Try.underlying2 rfl 1 rfl P9 _ (plC_1 _ _ _) ?_; go_simp; go_big_quiet_on)
              | (go_big_quiet_op; go_big_quiet_on)))
          refine wpQuiet_nil ?_
          refine ⟨rfl, fun w9 hw9 R9 => ?_⟩
          have B9 := Lib.hid (B2.out.trans (hw9.below (by omega) R2.lt))
          clear hC P9 N9 hC0 hw9 P1 A1 R1 P2 A2 R2 B2 N0 N1 ct f1
          go_wp2
          exact bodyPost_ret (v := .tuple #[.agg (bl (noes 8)), .int .i64 (b - (c - st xs k))]) (results_at_tmp (p := 4) (ty := 69) rfl _ _ _ (bl (noes 8)) _ (.int .i64 (b - (c - st xs k))) rfl rfl R9 _ Try.underlying69 rfl 8 (SZ0) (by kernel_rfl)) rfl ⟨EQ, B9.out⟩
        · have hn := Lib.hid ((vc c1 c2).symm.trans hat.out)
          have sw : IntKind.i64.wrap (c - st xs k - b) = c - st xs k - b := IntWalk.i64_in _ (by omega)
          clear va vb vc
          go_wp2_with (first | ((with_reducible refine is_load 107 _ rfl ?_); refine wpList_load_part rfl 107 _ rfl _ (k * 9) rfl (slC xs) _ (by with_reducible assumption) 9 (hle) _ Try.underlying107 rfl (by kernel_rfl) (sl1 bb (st xs k)) (hsl) ?_) | ((with_reducible refine is_store 107 _ _ rfl ?_); refine wpList_store_at rfl 107 _ _ rfl _ rfl (sl1 bb (st xs k)) rfl (#[.bool false, .bool false, .bool false, .bool false, .bool false, .bool false, .bool false, .bool false, .int .i64 0]) _ (by with_reducible assumption) 9 (S1) (rfl) (by kernel_rfl) (sl1_one _ _) ?_))
          exact ⟨⟨k + 1, c - st xs k - b, by omega, by go_num, rfl, by omega, hn, P2, A2, R2, B2⟩, by simp [intOf]; omega⟩
    · obtain rfl : n = k := by omega
      have hat' := hat.out
      have hv : atS b xs c0 = (noes 8, 0) := by rw [← hat', HN.out]; exact atS_end
      have EQ : Ending.returned (Value.tuple #[.agg (bl (noes 8)), .int .i64 (0)]) = .returned (.tuple #[.agg (bl (atS b xs c0).1), .int .i64 (atS b xs c0).2]) := by rw [hv]
      clear hv hat'
      have R9 := R1.setRow (bl (noes 8))
      have B9 := Lib.hid (bset B1.out (g := w.heap.size + 1) (by omega) (bl (noes 8)))
      go_wp2_with (((with_reducible refine is_store 69 _ _ rfl ?_); refine wpList_store_at rfl 69 _ _ rfl _ rfl (bl (noes 8)) rfl (bl (noes 8)) _ (by with_reducible assumption) 8 (SZ0) (by rw [bl_size, noes_len]) (by kernel_rfl) (bl_one _) ?_))
      exact bodyPost_ret (v := .tuple #[.agg (bl (noes 8)), .int .i64 (0)]) (results_at_tmp (p := 4) (ty := 69) rfl _ _ _ (bl (noes 8)) _ (.int .i64 (0)) rfl rfl R9 _ Try.underlying69 rfl 8 (SZ0) (by kernel_rfl)) rfl ⟨EQ, B9.out⟩

end Go.Proofs.Ytboahhipobcabab
