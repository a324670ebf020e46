/-
  CONTRACTS: the table of a crossing, as the model makes it.
-/
import Derived.Test.YtboahhipobcababWayI
namespace Go.Proofs.Ytboahhipobcabab
open Go Go.ChangeShapes Go.WideShapes Go.ChangeAt Go.RowKit
set_option maxRecDepth 100000

theorem z64_size : z64.size = 64 := by rw [z64_eq, bl_size, noes_len]
theorem l00In_c (k a b : Int) (w : World) : Calls Try.prog 64 #[.int .i64 k, .int .i64 a, .int .i64 b] w fun e w' => e = .returned (.bool (inB a b k)) ∧ Below w.heap.size w w' := by
  refine (l00In_b k a b w).mono ?_
  rintro e w1 ⟨rfl, n1, rfl⟩
  exact ⟨rfl, bdrew (Below.refl _ _) _⟩
theorem inB_yes {a b k : Int} (h : a ≤ k ∧ k ≤ b) : inB a b k = true := by unfold inB; exact decide_eq_true h
theorem inB_no {a b k : Int} (h : ¬ (a ≤ k ∧ k ≤ b)) : inB a b k = false := by unfold inB; exact decide_eq_false h
theorem wayB_x {f t : Int} (h : ¬ (0 ≤ f ∧ f ≤ 3)) : wayB f t = false := by unfold wayB; rw [decide_eq_false (by omega)]; rfl
theorem wayB_y {f t : Int} (h : ¬ (0 ≤ t ∧ t ≤ 3)) : wayB f t = false := by unfold wayB; rw [decide_eq_false (by omega : ¬ (0 ≤ t ∧ t < 4)), Bool.false_and, Bool.and_false]
theorem wayB_e {f t : Int} (h : f = t) : wayB f t = false := by unfold wayB; rw [decide_eq_true h]; simp
theorem wayB_ok {f t : Int} (h1 : 0 ≤ f ∧ f ≤ 3) (h2 : 0 ≤ t ∧ t ≤ 3) (h : ¬ f = t) : wayB f t = true := by unfold wayB; rw [decide_eq_true (by omega : 0 ≤ f ∧ f < 4), decide_eq_true (by omega : 0 ≤ t ∧ t < 4), decide_eq_false h]; rfl
set_option maxHeartbeats 2000000 in
theorem sCrossTable_any (fs ts : List Int) (hf : fs.length = 8) (ht : ts.length = 8) (n : Int) (w : World) :
    Calls Try.prog 44 #[.agg (il fs), .agg (il ts), .int .i64 n] w fun e w' => e = .returned (.tuple #[.agg (bl (vCt fs ts n).1), .int .i64 (vCt fs ts n).2]) ∧ Below w.heap.size w w' := by
  have KN := fun w => l00In_c n 0 8 w
  have P0 : At (((w.alloc (.cells (il fs) 74)).alloc (.cells (il ts) 74)).alloc (.cells z64 65)) w.heap.size (il fs) 74 := ((At.new w _ _).alloc _).alloc _
  have L0 : At (((w.alloc (.cells (il fs) 74)).alloc (.cells (il ts) 74)).alloc (.cells z64 65)) (w.heap.size + 1) (il ts) 74 := (At.last1 w _ _ _).alloc _
  have R0 : At (((w.alloc (.cells (il fs) 74)).alloc (.cells (il ts) 74)).alloc (.cells z64 65)) (w.heap.size + 1 + 1) (bl (noes 64)) 65 := by
    have := at_row z64_eq (At.new ((w.alloc (.cells (il fs) 74)).alloc (.cells (il ts) 74)) z64 65)
    rwa [World.size_alloc, World.size_alloc] at this
  have B0 := Lib.hid (bnew (bnew (b0 w (.cells (il fs) 74)) (.cells (il ts) 74)) (.cells z64 65))
  have HL := Lib.hid (And.intro hf ht)
  clear hf ht
  by_cases hn8 : 0 ≤ n ∧ n ≤ 8
  · rw [inB_yes hn8] at KN
    go_enter Try.func44, Try.ntmps44
    go_wp2_with (((with_reducible refine is_allocz 65 rfl ?_); refine wpList_allocz rfl 65 rfl z64 (fun w => by kernel_rfl) ?_))
    refine (KN _).mono ?_
    rintro e w1 ⟨rfl, hb1⟩
    have P1 := P0.step hb1
    have L1 := L0.step hb1
    have R1 := R0.step hb1
    have B1 := Lib.hid (bthen B0.out hb1)
    clear P0 L0 R0 B0 hb1 KN
    go_wp2_with fail
    go_loopw [8] (fun i wr => ∃ k : Nat, k ≤ 8 ∧ i = .int .i64 (k : Int) ∧ Hid (wsOk fs ts n k = true) ∧ At wr w.heap.size (il fs) 74 ∧ At wr (w.heap.size + 1) (il ts) 74 ∧ At wr (w.heap.size + 1 + 1) (bl (noes 64)) 65 ∧ Hid (Below w.heap.size w wr)) (fun i _ => 8 - (intOf i).toNat)
    case atStart => exact ⟨0, by omega, rfl, Lib.hid rfl, P1, L1, R1, B1⟩
    case round =>
      clear P1 L1 R1 B1
      obtain ⟨k, hk, rfl, hall, P1, L1, R1, B1⟩ := hrel
      by_cases hlt : k < 8
      · have s2 : IntKind.i64.wrap ((k : Int) + 1) = (k : Int) + 1 := IntWalk.i64_in _ (by omega)
        have gx := il_get (xs := fs) (k := k) (by rw [HL.out.1]; exact hlt)
        have gy := il_get (xs := ts) (k := k) (by rw [HL.out.2]; exact hlt)
        obtain ⟨x, hx⟩ : ∃ x, x = ith fs k := ⟨_, rfl⟩
        obtain ⟨y, hy⟩ : ∃ y, y = ith ts k := ⟨_, rfl⟩
        rw [← hx] at gx
        rw [← hy] at gy
        have HW : Hid (wyOk fs ts n k = if (k : Int) < n then wayB x y else decide (x = 0 ∧ y = 0)) := Lib.hid (by rw [hx, hy]; rfl)
        have hC := Cb.const wr
        clear hx hy
        by_cases kn : (k : Int) < n
        · have kg : decide (n ≤ (k : Int)) = false := decide_eq_false (by omega)
          rw [if_pos kn] at HW
          have KX := fun w => l00In_c x 0 3 w
          have KY := fun w => l00In_c y 0 3 w
          by_cases cx : 0 ≤ x ∧ x ≤ 3
          · rw [inB_yes cx] at KX
            by_cases cy : 0 ≤ y ∧ y ≤ 3
            · rw [inB_yes cy] at KY
              by_cases ce : x = y
              · have d : (x == y) = true := by simpa using ce
                have hno := Lib.hid (awB_no hlt (HW.out.trans (wayB_e ce)))
                clear ce cx cy
                go_wp2
                refine wp_region_cb (by kernel_rfl) (by kernel_rfl) ?_
                repeat (first
                  | go_big_quiet_skip
                  | (go_big_quiet_want; first
                    | (refine q_one 2 _ rfl _ Try.underlying2 rfl k rfl P1 _ gx ?_; go_simp; go_big_quiet_on)
                    | (refine q_one 2 _ rfl _ Try.underlying2 rfl k rfl L1 _ gy ?_; go_simp; go_big_quiet_on)
                    | (go_big_quiet_op; go_big_quiet_on)
                    | (go_big_quiet_op; apply Exists.intro; refine ⟨fun w' hw' => ?_, ?_⟩; (go_at_call 64; (with_reducible show Calls _ _ #[.int .i64 x, _, _] _ _); exact (KX w').mono fun _ _ h => ⟨h.1, hw'.step h.2⟩); go_big_quiet_on)
                    | (go_big_quiet_op; apply Exists.intro; refine ⟨fun w' hw' => ?_, ?_⟩; (go_at_call 64; (with_reducible show Calls _ _ #[.int .i64 y, _, _] _ _); exact (KY w').mono fun _ _ h => ⟨h.1, hw'.step h.2⟩); go_big_quiet_on)))
                refine wpQuiet_nil ?_
                intro w9 hw9
                have R2 := R1.step hw9
                have B2 := Lib.hid (bthen B1.out hw9)
                clear P1 L1 R1 B1 hw9 hC
                have EQ : Ending.returned (Value.tuple #[.agg (bl (noes 64)), .int .i64 2]) = .returned (.tuple #[.agg (bl (vCt fs ts n).1), .int .i64 (vCt fs ts n).2]) := by rw [vCt_no (hno.out)]
                have R9 := R2.setRow (bl (noes 64))
                have B9 := Lib.hid (bset B2.out (g := w.heap.size + 1 + 1) (by omega) (bl (noes 64)))
                go_wp2_with (((with_reducible refine is_store 65 _ _ rfl ?_); refine wpList_store_at rfl 65 _ _ rfl _ rfl (bl (noes 64)) rfl (bl (noes 64)) _ (by with_reducible assumption) 64 (by rw [bl_size, noes_len]) (by rw [bl_size, noes_len]) (by kernel_rfl) (bl_one _) ?_))
                exact bodyPost_ret (v := .tuple #[.agg (bl (noes 64)), .int .i64 2]) (results_at_tmp (p := 6) (ty := 65) rfl _ _ _ (bl (noes 64)) _ (.int .i64 2) rfl rfl R9 _ Try.underlying65 rfl 64 (by rw [bl_size, noes_len]) (by kernel_rfl)) rfl ⟨EQ, B9.out⟩
              · have d : (x == y) = false := by simpa using ce
                have hn := Lib.hid (wsOk_next hall.out (HW.out.trans (wayB_ok cx cy ce)))
                clear ce cx cy
                go_wp2
                refine wp_region_cb (by kernel_rfl) (by kernel_rfl) ?_
                repeat (first
                  | go_big_quiet_skip
                  | (go_big_quiet_want; first
                    | (refine q_one 2 _ rfl _ Try.underlying2 rfl k rfl P1 _ gx ?_; go_simp; go_big_quiet_on)
                    | (refine q_one 2 _ rfl _ Try.underlying2 rfl k rfl L1 _ gy ?_; go_simp; go_big_quiet_on)
                    | (go_big_quiet_op; go_big_quiet_on)
                    | (go_big_quiet_op; apply Exists.intro; refine ⟨fun w' hw' => ?_, ?_⟩; (go_at_call 64; (with_reducible show Calls _ _ #[.int .i64 x, _, _] _ _); exact (KX w').mono fun _ _ h => ⟨h.1, hw'.step h.2⟩); go_big_quiet_on)
                    | (go_big_quiet_op; apply Exists.intro; refine ⟨fun w' hw' => ?_, ?_⟩; (go_at_call 64; (with_reducible show Calls _ _ #[.int .i64 y, _, _] _ _); exact (KY w').mono fun _ _ h => ⟨h.1, hw'.step h.2⟩); go_big_quiet_on)))
                refine wpQuiet_nil ?_
                intro w9 hw9
                have P2 := P1.step hw9
                have L2 := L1.step hw9
                have R2 := R1.step hw9
                have B2 := Lib.hid (bthen B1.out hw9)
                clear P1 L1 R1 B1 hw9 hC
                go_wp2
                exact ⟨⟨k + 1, by omega, by go_num, hn, P2, L2, R2, B2⟩, by simp [intOf]; omega⟩
            · rw [inB_no cy] at KY
              have hno := Lib.hid (awB_no hlt (HW.out.trans (wayB_y cy)))
              clear cx cy
              go_wp2
              refine wp_region_cb (by kernel_rfl) (by kernel_rfl) ?_
              repeat (first
                | go_big_quiet_skip
                | (go_big_quiet_want; first
                  | (refine q_one 2 _ rfl _ Try.underlying2 rfl k rfl P1 _ gx ?_; go_simp; go_big_quiet_on)
                  | (refine q_one 2 _ rfl _ Try.underlying2 rfl k rfl L1 _ gy ?_; go_simp; go_big_quiet_on)
                  | (go_big_quiet_op; go_big_quiet_on)
                  | (go_big_quiet_op; apply Exists.intro; refine ⟨fun w' hw' => ?_, ?_⟩; (go_at_call 64; (with_reducible show Calls _ _ #[.int .i64 x, _, _] _ _); exact (KX w').mono fun _ _ h => ⟨h.1, hw'.step h.2⟩); go_big_quiet_on)
                  | (go_big_quiet_op; apply Exists.intro; refine ⟨fun w' hw' => ?_, ?_⟩; (go_at_call 64; (with_reducible show Calls _ _ #[.int .i64 y, _, _] _ _); exact (KY w').mono fun _ _ h => ⟨h.1, hw'.step h.2⟩); go_big_quiet_on)))
              refine wpQuiet_nil ?_
              intro w9 hw9
              have R2 := R1.step hw9
              have B2 := Lib.hid (bthen B1.out hw9)
              clear P1 L1 R1 B1 hw9 hC
              have EQ : Ending.returned (Value.tuple #[.agg (bl (noes 64)), .int .i64 2]) = .returned (.tuple #[.agg (bl (vCt fs ts n).1), .int .i64 (vCt fs ts n).2]) := by rw [vCt_no (hno.out)]
              have R9 := R2.setRow (bl (noes 64))
              have B9 := Lib.hid (bset B2.out (g := w.heap.size + 1 + 1) (by omega) (bl (noes 64)))
              go_wp2_with (((with_reducible refine is_store 65 _ _ rfl ?_); refine wpList_store_at rfl 65 _ _ rfl _ rfl (bl (noes 64)) rfl (bl (noes 64)) _ (by with_reducible assumption) 64 (by rw [bl_size, noes_len]) (by rw [bl_size, noes_len]) (by kernel_rfl) (bl_one _) ?_))
              exact bodyPost_ret (v := .tuple #[.agg (bl (noes 64)), .int .i64 2]) (results_at_tmp (p := 6) (ty := 65) rfl _ _ _ (bl (noes 64)) _ (.int .i64 2) rfl rfl R9 _ Try.underlying65 rfl 64 (by rw [bl_size, noes_len]) (by kernel_rfl)) rfl ⟨EQ, B9.out⟩
          · rw [inB_no cx] at KX
            have hno := Lib.hid (awB_no hlt (HW.out.trans (wayB_x cx)))
            clear cx
            go_wp2
            refine wp_region_cb (by kernel_rfl) (by kernel_rfl) ?_
            repeat (first
              | go_big_quiet_skip
              | (go_big_quiet_want; first
                | (refine q_one 2 _ rfl _ Try.underlying2 rfl k rfl P1 _ gx ?_; go_simp; go_big_quiet_on)
                | (refine q_one 2 _ rfl _ Try.underlying2 rfl k rfl L1 _ gy ?_; go_simp; go_big_quiet_on)
                | (go_big_quiet_op; go_big_quiet_on)
                | (go_big_quiet_op; apply Exists.intro; refine ⟨fun w' hw' => ?_, ?_⟩; (go_at_call 64; (with_reducible show Calls _ _ #[.int .i64 x, _, _] _ _); exact (KX w').mono fun _ _ h => ⟨h.1, hw'.step h.2⟩); go_big_quiet_on)
                | (go_big_quiet_op; apply Exists.intro; refine ⟨fun w' hw' => ?_, ?_⟩; (go_at_call 64; (with_reducible show Calls _ _ #[.int .i64 y, _, _] _ _); exact (KY w').mono fun _ _ h => ⟨h.1, hw'.step h.2⟩); go_big_quiet_on)))
            refine wpQuiet_nil ?_
            intro w9 hw9
            have R2 := R1.step hw9
            have B2 := Lib.hid (bthen B1.out hw9)
            clear P1 L1 R1 B1 hw9 hC
            have EQ : Ending.returned (Value.tuple #[.agg (bl (noes 64)), .int .i64 2]) = .returned (.tuple #[.agg (bl (vCt fs ts n).1), .int .i64 (vCt fs ts n).2]) := by rw [vCt_no (hno.out)]
            have R9 := R2.setRow (bl (noes 64))
            have B9 := Lib.hid (bset B2.out (g := w.heap.size + 1 + 1) (by omega) (bl (noes 64)))
            go_wp2_with (((with_reducible refine is_store 65 _ _ rfl ?_); refine wpList_store_at rfl 65 _ _ rfl _ rfl (bl (noes 64)) rfl (bl (noes 64)) _ (by with_reducible assumption) 64 (by rw [bl_size, noes_len]) (by rw [bl_size, noes_len]) (by kernel_rfl) (bl_one _) ?_))
            exact bodyPost_ret (v := .tuple #[.agg (bl (noes 64)), .int .i64 2]) (results_at_tmp (p := 6) (ty := 65) rfl _ _ _ (bl (noes 64)) _ (.int .i64 2) rfl rfl R9 _ Try.underlying65 rfl 64 (by rw [bl_size, noes_len]) (by kernel_rfl)) rfl ⟨EQ, B9.out⟩
        · have kg : n ≤ (k : Int) := by omega
          have kf : decide ((k : Int) < n) = false := decide_eq_false (by omega)
          rw [if_neg kn] at HW
          by_cases cx : x = 0
          · have d1 : (x != 0) = false := by simpa using cx
            by_cases cy : y = 0
            · have d2 : (y != 0) = false := by simpa using cy
              have hn := Lib.hid (wsOk_next hall.out (HW.out.trans (decide_eq_true ⟨cx, cy⟩)))
              clear cx cy
              go_wp2
              refine wp_region_cb (by kernel_rfl) (by kernel_rfl) ?_
              repeat (first
                | go_big_quiet_skip
                | (go_big_quiet_want; first
                  | (refine q_one 2 _ rfl _ Try.underlying2 rfl k rfl P1 _ gx ?_; go_simp; go_big_quiet_on)
                  | (refine q_one 2 _ rfl _ Try.underlying2 rfl k rfl L1 _ gy ?_; go_simp; go_big_quiet_on)
                  | (go_big_quiet_op; go_big_quiet_on)))
              refine wpQuiet_nil ?_
              intro w9 hw9
              have P2 := P1.step hw9
              have L2 := L1.step hw9
              have R2 := R1.step hw9
              have B2 := Lib.hid (bthen B1.out hw9)
              clear P1 L1 R1 B1 hw9 hC
              go_wp2
              exact ⟨⟨k + 1, by omega, by go_num, hn, P2, L2, R2, B2⟩, by simp [intOf]; omega⟩
            · have d2 : (y != 0) = true := by simpa using cy
              have hno := Lib.hid (awB_no hlt (HW.out.trans (decide_eq_false (fun h => cy h.2))))
              clear cx cy
              go_wp2
              refine wp_region_cb (by kernel_rfl) (by kernel_rfl) ?_
              repeat (first
                | go_big_quiet_skip
                | (go_big_quiet_want; first
                  | (refine q_one 2 _ rfl _ Try.underlying2 rfl k rfl P1 _ gx ?_; go_simp; go_big_quiet_on)
                  | (refine q_one 2 _ rfl _ Try.underlying2 rfl k rfl L1 _ gy ?_; go_simp; go_big_quiet_on)
                  | (go_big_quiet_op; go_big_quiet_on)))
              refine wpQuiet_nil ?_
              intro w9 hw9
              have R2 := R1.step hw9
              have B2 := Lib.hid (bthen B1.out hw9)
              clear P1 L1 R1 B1 hw9 hC
              have EQ : Ending.returned (Value.tuple #[.agg (bl (noes 64)), .int .i64 2]) = .returned (.tuple #[.agg (bl (vCt fs ts n).1), .int .i64 (vCt fs ts n).2]) := by rw [vCt_no (hno.out)]
              have R9 := R2.setRow (bl (noes 64))
              have B9 := Lib.hid (bset B2.out (g := w.heap.size + 1 + 1) (by omega) (bl (noes 64)))
              go_wp2_with (((with_reducible refine is_store 65 _ _ rfl ?_); refine wpList_store_at rfl 65 _ _ rfl _ rfl (bl (noes 64)) rfl (bl (noes 64)) _ (by with_reducible assumption) 64 (by rw [bl_size, noes_len]) (by rw [bl_size, noes_len]) (by kernel_rfl) (bl_one _) ?_))
              exact bodyPost_ret (v := .tuple #[.agg (bl (noes 64)), .int .i64 2]) (results_at_tmp (p := 6) (ty := 65) rfl _ _ _ (bl (noes 64)) _ (.int .i64 2) rfl rfl R9 _ Try.underlying65 rfl 64 (by rw [bl_size, noes_len]) (by kernel_rfl)) rfl ⟨EQ, B9.out⟩
          · have d1 : (x != 0) = true := by simpa using cx
            have hno := Lib.hid (awB_no hlt (HW.out.trans (decide_eq_false (fun h => cx h.1))))
            clear cx
            go_wp2
            refine wp_region_cb (by kernel_rfl) (by kernel_rfl) ?_
            repeat (first
              | go_big_quiet_skip
              | (go_big_quiet_want; first
                | (refine q_one 2 _ rfl _ Try.underlying2 rfl k rfl P1 _ gx ?_; go_simp; go_big_quiet_on)
                | (refine q_one 2 _ rfl _ Try.underlying2 rfl k rfl L1 _ gy ?_; go_simp; go_big_quiet_on)
                | (go_big_quiet_op; go_big_quiet_on)))
            refine wpQuiet_nil ?_
            intro w9 hw9
            have R2 := R1.step hw9
            have B2 := Lib.hid (bthen B1.out hw9)
            clear P1 L1 R1 B1 hw9 hC
            have EQ : Ending.returned (Value.tuple #[.agg (bl (noes 64)), .int .i64 2]) = .returned (.tuple #[.agg (bl (vCt fs ts n).1), .int .i64 (vCt fs ts n).2]) := by rw [vCt_no (hno.out)]
            have R9 := R2.setRow (bl (noes 64))
            have B9 := Lib.hid (bset B2.out (g := w.heap.size + 1 + 1) (by omega) (bl (noes 64)))
            go_wp2_with (((with_reducible refine is_store 65 _ _ rfl ?_); refine wpList_store_at rfl 65 _ _ rfl _ rfl (bl (noes 64)) rfl (bl (noes 64)) _ (by with_reducible assumption) 64 (by rw [bl_size, noes_len]) (by rw [bl_size, noes_len]) (by kernel_rfl) (bl_one _) ?_))
            exact bodyPost_ret (v := .tuple #[.agg (bl (noes 64)), .int .i64 2]) (results_at_tmp (p := 6) (ty := 65) rfl _ _ _ (bl (noes 64)) _ (.int .i64 2) rfl rfl R9 _ Try.underlying65 rfl 64 (by rw [bl_size, noes_len]) (by kernel_rfl)) rfl ⟨EQ, B9.out⟩
      · obtain rfl : k = 8 := by omega
        have ha : awB fs ts n = true := by rw [awB_w hn8]; exact hall.out
        obtain ⟨m, rfl⟩ : ∃ m : Nat, n = m := ⟨n.toNat, by omega⟩
        have hm8 : m ≤ 8 := by omega
        have HA := Lib.hid ha
        have HM := Lib.hid (fun (i k : Nat) (h1 : i < m) (h2 : k < m) =>
          (show ∀ w', Calls Try.prog 90 #[.int .i64 (ith fs i), .int .i64 (ith ts i), .int .i64 (ith fs k), .int .i64 (ith ts k)] w' (fun e w'' => e = .returned (.bool (mfn fs ts i k)) ∧ Below w'.heap.size w' w'') from fun w' => l04Meets_any _ _ _ _ (wayB_in (ways_at ha hm8 h1)).1 (wayB_in (ways_at ha hm8 h1)).2 (wayB_in (ways_at ha hm8 h2)).1 (wayB_in (ways_at ha hm8 h2)).2 w'))
        have P5 := (P1.alloc (.cells z64 65)).setRow_other (k := wr.heap.size) (Nat.ne_of_lt P1.lt) z64
        have L5 := (L1.alloc (.cells z64 65)).setRow_other (k := wr.heap.size) (Nat.ne_of_lt L1.lt) z64
        have R5 := (R1.alloc (.cells z64 65)).setRow_other (k := wr.heap.size) (Nat.ne_of_lt R1.lt) z64
        have N5 := At.new wr z64 65
        have C5 := N5.setRow z64
        have hc : w.heap.size + 1 + 1 < wr.heap.size := R1.lt
        have B5 := Lib.hid (bset (bnew B1.out (.cells z64 65)) (g := wr.heap.size) (by omega) z64)
        clear P1 L1 R1 B1 ha hall hn8 hk hlt
        go_wp2_with (first | ((with_reducible refine is_allocz 65 rfl ?_); refine wpList_allocz rfl 65 rfl z64 (fun w => by kernel_rfl) ?_) | ((with_reducible refine is_store 65 _ _ rfl ?_); refine wpList_store_at rfl 65 _ _ rfl _ rfl (z64) rfl (z64) _ (by with_reducible assumption) 64 (z64_size) (z64_size) (by kernel_rfl) (bl_one _) ?_))
        have C1 : At ((wr.alloc (.cells z64 65)).setRow wr.heap.size z64) wr.heap.size (bl (fT m (mfn fs ts) 0 0)) 65 := by rw [fT_zero]; exact at_row z64_eq C5
        clear N5 C5
        generalize (wr.alloc (.cells z64 65)).setRow wr.heap.size z64 = w2 at P5 L5 R5 B5 C1 ⊢
        generalize wr.heap.size = c at C1 hc ⊢
        have P1 := P5; have L1 := L5; have R1 := R5; have B1 := B5
        clear P5 L5 R5 B5
        go_loopw [10] (fun iv wr => ∃ i : Nat, i ≤ m ∧ iv = .int .i64 (i : Int) ∧ At wr w.heap.size (il fs) 74 ∧ At wr (w.heap.size + 1) (il ts) 74 ∧ At wr (w.heap.size + 1 + 1) (bl (noes 64)) 65 ∧ At wr c (bl (fT m (mfn fs ts) i 0)) 65 ∧ Hid (Below w.heap.size w wr)) (fun iv _ => m - (intOf iv).toNat)
        case atStart => exact ⟨0, by omega, rfl, P1, L1, R1, C1, B1⟩
        case round =>
          clear P1 L1 R1 C1 B1
          obtain ⟨i, hi, rfl, P1, L1, R1, C1, B1⟩ := hrel
          by_cases hlt : i < m
          · have s2 : IntKind.i64.wrap ((i : Int) + 1) = (i : Int) + 1 := IntWalk.i64_in _ (by omega)
            have hi8 : i < 8 := by omega
            have xi := il_get (xs := fs) (k := i) (by rw [HL.out.1]; exact hi8)
            have yi := il_get (xs := ts) (k := i) (by rw [HL.out.2]; exact hi8)
            go_wp2
            go_loopw [11] (fun kv wr => ∃ k : Nat, k ≤ m ∧ kv = .int .i64 (k : Int) ∧ At wr w.heap.size (il fs) 74 ∧ At wr (w.heap.size + 1) (il ts) 74 ∧ At wr (w.heap.size + 1 + 1) (bl (noes 64)) 65 ∧ At wr c (bl (fT m (mfn fs ts) i k)) 65 ∧ Hid (Below w.heap.size w wr)) (fun kv _ => m - (intOf kv).toNat)
            case atStart => exact ⟨0, by omega, rfl, P1, L1, R1, C1, B1⟩
            case round =>
              clear P1 L1 R1 C1 B1
              obtain ⟨k, hk, rfl, P1, L1, R1, C1, B1⟩ := hrel
              by_cases hlk : k < m
              · have s3 : IntKind.i64.wrap ((k : Int) + 1) = (k : Int) + 1 := IntWalk.i64_in _ (by omega)
                have hk8 : k < 8 := by omega
                have xk := il_get (xs := fs) (k := k) (by rw [HL.out.1]; exact hk8)
                have yk := il_get (xs := ts) (k := k) (by rw [HL.out.2]; exact hk8)
                have KM := HM.out i k hlt hlk
                have hle : i * 8 + k < (bl (fT m (mfn fs ts) i k)).size := by rw [bl_size, fT_len]; omega
                have hset : (bl (fT m (mfn fs ts) i k)).setIfInBounds (i * 8 + k) (.bool (mfn fs ts i k)) = bl (fT m (mfn fs ts) i (k + 1)) := by rw [bl_set, fT_set hi8 hlk hm8]
                have hC := Cb.const wr
                generalize ith fs i = fi at xi KM
                generalize ith ts i = ti at yi KM
                generalize ith fs k = fk at xk KM
                generalize ith ts k = tk at yk KM
                generalize mfn fs ts i k = bit at KM hset
                go_wp2
                refine wp_region_cb_tail 17 (by kernel_rfl) (by kernel_rfl) ?_
                simp only [List.take, List.drop]
                repeat (first
                  | go_big_quiet_skip
                  | (go_big_quiet_want; first
                    | (refine q_one 2 _ rfl _ Try.underlying2 rfl i rfl P1 _ xi ?_; go_simp; go_big_quiet_on)
                    | (refine q_one 2 _ rfl _ Try.underlying2 rfl i rfl L1 _ yi ?_; go_simp; go_big_quiet_on)
                    | (refine q_one 2 _ rfl _ Try.underlying2 rfl k rfl P1 _ xk ?_; go_simp; go_big_quiet_on)
                    | (refine q_one 2 _ rfl _ Try.underlying2 rfl k rfl L1 _ yk ?_; go_simp; go_big_quiet_on)
                    | (go_big_quiet_op; go_big_quiet_on)
                    | (go_big_quiet_op; apply Exists.intro; refine ⟨fun w' hw' => ?_, ?_⟩; (go_at_call 90; exact (KM w').mono fun _ _ h => ⟨h.1, hw'.step h.2⟩); go_big_quiet_on)))
                refine wpQuiet_nil ?_
                intro w5 hw5
                have n1 : w.heap.size ≠ c := by omega
                have P6 := (P1.step hw5).setRow_other (k := c) n1 (bl (fT m (mfn fs ts) i (k + 1)))
                have L6 := (L1.step hw5).setRow_other (k := c) (by omega) (bl (fT m (mfn fs ts) i (k + 1)))
                have R6 := (R1.step hw5).setRow_other (k := c) (by omega) (bl (fT m (mfn fs ts) i (k + 1)))
                have C5 := C1.step hw5
                have C6 := C5.setRow (bl (fT m (mfn fs ts) i (k + 1)))
                have B6 := Lib.hid (bset (bthen B1.out hw5) (g := c) (by omega) (bl (fT m (mfn fs ts) i (k + 1))))
                clear P1 L1 R1 C1 B1 hw5 hC KM xk yk n1
                go_wp2_with (((with_reducible refine is_store 4 _ _ rfl ?_); refine wpList_store_cell rfl 4 _ _ rfl _ (i * 8 + k) rfl (.bool bit) rfl (bl (fT m (mfn fs ts) i k)) _ (by with_reducible assumption) (hle) (by kernel_rfl) rfl (bl (fT m (mfn fs ts) i (k + 1))) (hset) ?_))
                exact ⟨⟨k + 1, by omega, by go_num, P6, L6, R6, C6, B6⟩, by simp [intOf]; omega⟩
              · obtain rfl : k = m := by omega
                rw [fT_row] at C1
                go_wp2
                exact ⟨⟨i + 1, by omega, by go_num, P1, L1, R1, C1, B1⟩, by simp [intOf]; omega⟩
          · obtain rfl : i = m := by omega
            have SZF : (bl (fT i (mfn fs ts) i 0)).size = 64 := by rw [bl_size, fT_len]
            have EQ : Ending.returned (Value.tuple #[.agg (bl (fT i (mfn fs ts) i 0)), .int .i64 0]) = .returned (.tuple #[.agg (bl (vCt fs ts (i : Int)).1), .int .i64 (vCt fs ts (i : Int)).2]) := by rw [vCt_yes HA.out]
            have R9 := R1.setRow (bl (fT i (mfn fs ts) i 0))
            have B9 := Lib.hid (bset B1.out (g := w.heap.size + 1 + 1) (by omega) (bl (fT i (mfn fs ts) i 0)))
            have ONE := bl_one (fT i (mfn fs ts) i 0)
            clear HM HA
            generalize bl (fT i (mfn fs ts) i 0) = RW at *
            go_wp2_with (first | ((with_reducible refine is_store 65 _ _ rfl ?_); refine wpList_store_at rfl 65 _ _ rfl _ rfl (RW) rfl (bl (noes 64)) _ (by with_reducible assumption) 64 (SZF) (by rw [bl_size, noes_len]) (by kernel_rfl) (ONE) ?_) | ((with_reducible refine is_load 65 _ rfl ?_); refine wpList_load_at rfl 65 _ rfl _ rfl (RW) _ (by with_reducible assumption) 64 (SZF) _ Try.underlying65 rfl (by kernel_rfl) ?_))
            exact bodyPost_ret (v := .tuple #[.agg (RW), .int .i64 0]) (results_at_tmp (p := 6) (ty := 65) rfl _ _ _ (RW) _ (.int .i64 0) rfl rfl R9 _ Try.underlying65 rfl 64 (SZF) (by kernel_rfl)) rfl ⟨EQ, B9.out⟩
  · rw [inB_no hn8] at KN
    have hno := Lib.hid (awB_n (fs := fs) (ts := ts) hn8)
    go_enter Try.func44, Try.ntmps44
    go_wp2_with (((with_reducible refine is_allocz 65 rfl ?_); refine wpList_allocz rfl 65 rfl z64 (fun w => by kernel_rfl) ?_))
    refine (KN _).mono ?_
    rintro e w1 ⟨rfl, hb1⟩
    have R1 := R0.step hb1
    have B1 := Lib.hid (bthen B0.out hb1)
    clear P0 L0 R0 B0 hb1 KN
    have EQ : Ending.returned (Value.tuple #[.agg (bl (noes 64)), .int .i64 2]) = .returned (.tuple #[.agg (bl (vCt fs ts n).1), .int .i64 (vCt fs ts n).2]) := by rw [vCt_no (hno.out)]
    have R9 := R1.setRow (bl (noes 64))
    have B9 := Lib.hid (bset B1.out (g := w.heap.size + 1 + 1) (by omega) (bl (noes 64)))
    go_wp2_with (((with_reducible refine is_store 65 _ _ rfl ?_); refine wpList_store_at rfl 65 _ _ rfl _ rfl (bl (noes 64)) rfl (bl (noes 64)) _ (by with_reducible assumption) 64 (by rw [bl_size, noes_len]) (by rw [bl_size, noes_len]) (by kernel_rfl) (bl_one _) ?_))
    exact bodyPost_ret (v := .tuple #[.agg (bl (noes 64)), .int .i64 2]) (results_at_tmp (p := 6) (ty := 65) rfl _ _ _ (bl (noes 64)) _ (.int .i64 2) rfl rfl R9 _ Try.underlying65 rfl 64 (by rw [bl_size, noes_len]) (by kernel_rfl)) rfl ⟨EQ, B9.out⟩

end Go.Proofs.Ytboahhipobcabab
