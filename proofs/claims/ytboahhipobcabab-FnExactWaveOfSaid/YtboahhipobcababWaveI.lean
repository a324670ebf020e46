/-
  CONTRACTS: what refuses a row of plans: the program.
-/
import Derived.Test.YtboahhipobcababG14
import Derived.Test.YtboahhipobcababGrTicks
import Derived.Test.YtboahhipobcababAtL
import Derived.Test.YtboahhipobcababG12
namespace Go.Proofs.Ytboahhipobcabab
open Go Go.ChangeShapes Go.WideShapes Go.ChangeAt Go.RowKit
set_option maxRecDepth 100000

set_option maxHeartbeats 2000000 in
theorem refusalOfWave1_any (g1 g2 g3 : Nat) (T1 T2 T3 : TypeId) (G : Nat) (gs : Nat → Nat) (ps : Ps) (T : TypeId) (H : Nat) (ts : List Int) (T4 : TypeId) (mv : Int) (hW : ∀ i, i < ps.length → SlW (pS ps i)) (hn : ps.length ≤ 1048576) (ht : ts.length ≤ 1048576) (w : World)
    (G1 : At w g1 #[.slice (some ⟨G, 0, none⟩) ps.length ps.length] T1) (G2 : At w g2 #[.slice (some ⟨H, 0, none⟩) ts.length ts.length] T2) (G3 : At w g3 #[.int .i64 mv] T3) (P0 : PB w G gs ps T) (H0 : At w H (il ts) T4) :
    Calls Try.prog 101 #[.pointer (some ⟨g1, 0, none⟩), .pointer (some ⟨g2, 0, none⟩), .pointer (some ⟨g3, 0, none⟩)] w fun e w' => Chk (rowC ps ts mv) e ∧ Below w.heap.size w w' := by
  have HX := Lib.hid (And.intro P0 (And.intro H0 (And.intro hW trivial)))
  obtain ⟨n, hnn⟩ : ∃ n, n = ps.length := ⟨_, rfl⟩
  obtain ⟨t, htt⟩ : ∃ t, t = ts.length := ⟨_, rfl⟩
  rw [← hnn] at hn G1
  rw [← htt] at ht G2
  have HN := Lib.hid hnn
  have HT := Lib.hid htt
  have HG := Lib.hid (And.intro G1 (And.intro G2 G3))
  have c1 := G1.cell (k := 0) rfl
  have c2 := G2.cell (k := 0) rfl
  have c3 := G3.cell (k := 0) rfl
  clear hnn htt hW P0 H0 G1 G2 G3
  go_enter Try.func101, Try.ntmps101
  go_wp2
  go_loopw [13] (fun iv wr => ∃ k : Nat, k ≤ n ∧ iv = .int .i64 (k : Int) ∧ Hid (allK (pOk ps) k = true) ∧ Hid (Below w.heap.size w wr)) (fun iv _ => n - (intOf iv).toNat)
  case atStart => exact ⟨0, by omega, rfl, Lib.hid rfl, Lib.hid (Below.refl _ _)⟩
  case round =>
    clear c1 c2 c3
    obtain ⟨k, hk, rfl, hall, B1⟩ := hrel
    by_cases hlt : k < n
    · have s2 : IntKind.i64.wrap ((k : Int) + 1) = (k : Int) + 1 := IntWalk.i64_in _ (by omega)
      have kd : (k : Int) < (n : Int) := by omega
      have hkl : k < ps.length := by rw [← HN.out]; exact hlt
      have hWk := HX.out.2.2.1 k hkl
      have P1 := HX.out.1.step B1.out
      have R1 := P1.row
      rw [← HN.out] at R1
      have S1 := P1.sl k hkl
      have C1 := (HG.out.1.step B1.out).cell (k := 0) rfl
      have C3 := (HG.out.2.2.step B1.out).cell (k := 0) rfl
      clear P1
      have hle : k * 3 + 3 ≤ (pvC (pvs gs ps n n)).size := by rw [pvC_size, pvs_len]; omega
      have hpl := pvC_at (l := pvs gs ps n n) (by rw [pvs_len]; exact hlt) (pvs_at hlt hlt) (rfl : k * 3 = k * 3)
      have N0 := At.new wr #[.slice none 0 0, .int .i64 0, .int .i64 0] 41
      have N1 := N0.setRow (plC (.slice (some ⟨gs k, 0, none⟩) (pS ps k).length (pS ps k).length) (pB ps k) (pO ps k))
      have S2 := (S1.alloc (.cells #[.slice none 0 0, .int .i64 0, .int .i64 0] 41)).setRow_other (k := wr.heap.size) (Nat.ne_of_lt S1.lt) (plC (.slice (some ⟨gs k, 0, none⟩) (pS ps k).length (pS ps k).length) (pB ps k) (pO ps k))
      have R2 := (R1.alloc (.cells #[.slice none 0 0, .int .i64 0, .int .i64 0] 41)).setRow_other (k := wr.heap.size) (Nat.ne_of_lt R1.lt) (plC (.slice (some ⟨gs k, 0, none⟩) (pS ps k).length (pS ps k).length) (pB ps k) (pO ps k))
      have L2 := ((HG.out.1.step B1.out).alloc (.cells #[.slice none 0 0, .int .i64 0, .int .i64 0] 41)).setRow_other (k := wr.heap.size) (Nat.ne_of_lt (HG.out.1.step B1.out).lt) (plC (.slice (some ⟨gs k, 0, none⟩) (pS ps k).length (pS ps k).length) (pB ps k) (pO ps k))
      have M2 := (((HG.out.2.2.step B1.out).alloc (.cells #[.slice none 0 0, .int .i64 0, .int .i64 0] 41)).setRow_other (k := wr.heap.size) (Nat.ne_of_lt (HG.out.2.2.step B1.out).lt) (plC (.slice (some ⟨gs k, 0, none⟩) (pS ps k).length (pS ps k).length) (pB ps k) (pO ps k))).cell (k := 0) rfl
      have B2 := Lib.hid (bset (bnew B1.out (.cells #[.slice none 0 0, .int .i64 0, .int .i64 0] 41)) (g := wr.heap.size) B1.out.size (plC (.slice (some ⟨gs k, 0, none⟩) (pS ps k).length (pS ps k).length) (pB ps k) (pO ps k)))
      have KN := needPlan_any (gs k) (pS ps k) (pB ps k) (pO ps k) hWk 107 _ S2
      clear S1 S2 R2
      go_wp2_with (first | ((with_reducible refine is_load 41 _ rfl ?_); refine wpList_load_part rfl 41 _ rfl _ (k * 3) rfl (pvC (pvs gs ps n n)) _ (by with_reducible assumption) 3 hle _ Try.underlying41 rfl (by kernel_rfl) (plC (.slice (some ⟨gs k, 0, none⟩) (pS ps k).length (pS ps k).length) (pB ps k) (pO ps k)) hpl ?_) | ((with_reducible refine is_store 41 _ _ rfl ?_); refine wpList_store_at rfl 41 _ _ rfl _ rfl (plC (.slice (some ⟨gs k, 0, none⟩) (pS ps k).length (pS ps k).length) (pB ps k) (pO ps k)) rfl (#[.slice none 0 0, .int .i64 0, .int .i64 0]) _ (by with_reducible assumption) 3 (plC_size _ _ _) rfl (by kernel_rfl) (pl_one _ (sl_one _ _ _) _ _) ?_) | ((with_reducible refine is_load 41 _ rfl ?_); refine wpList_load_at rfl 41 _ rfl _ rfl (plC (.slice (some ⟨gs k, 0, none⟩) (pS ps k).length (pS ps k).length) (pB ps k) (pO ps k)) _ (by with_reducible assumption) 3 (plC_size _ _ _) _ Try.underlying41 rfl (by kernel_rfl) ?_))
      refine KN.mono ?_
      rintro e w2 ⟨⟨h, rfl⟩ | ⟨h, x, hx, rfl⟩, hb2⟩
      · have hn1 := Lib.hid (allK_next hall.out (show pOk ps k = true from okC_zero h))
        have B3 := Lib.hid (bthen B2.out hb2)
        clear B1 B2 hb2 KN R1 N0 N1 h
        go_wp2_with fail
        exact ⟨⟨k + 1, by omega, by go_num, hn1, B3⟩, by simp [intOf]; omega⟩
      · have hno := okC_not h
        rw [okC_no hno] at hx h
        have hg := rowC_1 (ts := ts) (m := mv) (allK_no (f := pOk ps) hkl hno)
        go_wp2_with fail
        exact ⟨rfl, .inr ⟨by rw [hg]; decide, x, by rw [hg]; exact hx, rfl⟩, bthen B2.out hb2⟩
    · obtain rfl : n = k := by omega
      have hA := Lib.hid (show allK (pOk ps) ps.length = true from by rw [← HN.out]; exact hall.out)
      have C1 := (HG.out.1.step B1.out).cell (k := 0) rfl
      have C2 := (HG.out.2.1.step B1.out).cell (k := 0) rfl
      clear hall hlt
      by_cases d1 : (1 : Int) ≤ (n : Int)
      · by_cases d2 : (n : Int) ≤ 6
        · have s5 : IntKind.i64.wrap ((n : Int) - 1) = (n : Int) - 1 := IntWalk.i64_in _ (by omega)
          by_cases d3 : (t : Int) = (n : Int) - 1
          · have d4 : ((t : Int) == (n : Int) - 1) = true := by simpa using d3
            have d5 : decide ((t : Int) = (n : Int) - 1) = true := decide_eq_true d3
            go_wp2_with fail
            refine (need_ok 2 _).mono ?_
            rintro e w3 ⟨rfl, rfl⟩
            go_wp2_with fail
            go_loopw [39] (fun iv wr => ∃ j : Nat, j ≤ t ∧ iv = .int .i64 (j : Int) ∧ Hid (allK (tiOk ts) j = true) ∧ Hid (Below w.heap.size w wr)) (fun iv _ => t - (intOf iv).toNat)
            case atStart => exact ⟨0, by omega, rfl, Lib.hid rfl, B1⟩
            case round =>
              clear B1 C1 C2
              obtain ⟨j, hj, rfl, hx, B4⟩ := hrel
              by_cases hjt : j < t
              · have kd2 : (j : Int) < (t : Int) := by omega
                have s6 : IntKind.i64.wrap ((j : Int) + 1) = (j : Int) + 1 := IntWalk.i64_in _ (by omega)
                have hc := (HX.out.2.1.step B4.out).cell (il_get (xs := ts) (k := j) (by rw [← HT.out]; exact hjt))
                have hv := Lib.hid (show ∀ (_ : tiOk ts j = false), rowC ps ts mv = 2 from fun h => rowC_2 hA.out (by unfold ratOk; rw [allK_no (f := tiOk ts) (by rw [← HT.out]; exact hjt) h, Bool.and_false]))
                have hy := Lib.hid (show ∀ (_ : tiOk ts j = true), allK (tiOk ts) (j + 1) = true from fun h => allK_next hx.out h)
                unfold tiOk at hv hy
                generalize ith ts j = x at *
                by_cases q1 : 0 ≤ x
                · by_cases q2 : x ≤ 100000
                  · have hy2 := Lib.hid (hy.out (decide_eq_true ⟨q1, q2⟩))
                    clear hv hy
                    go_wp2_with fail
                    refine (need_ok 2 _).mono ?_
                    rintro e w5 ⟨rfl, rfl⟩
                    go_wp2_with fail
                    exact ⟨⟨j + 1, by omega, by go_num, hy2, B4⟩, by simp [intOf]; omega⟩
                  · have hv2 := Lib.hid (hv.out (decide_eq_false (by omega)))
                    clear hv hy
                    go_wp2_with fail
                    refine (need_bad 2 _).mono ?_
                    rintro e w5 ⟨rfl, rfl⟩
                    go_wp2_with fail
                    exact ⟨rfl, .inr ⟨by rw [hv2.out]; decide, _, .inl (by rw [hv2.out]), rfl⟩, B4.out⟩
                · have hv2 := Lib.hid (hv.out (decide_eq_false (by omega)))
                  clear hv hy
                  go_wp2_with fail
                  refine (need_bad 2 _).mono ?_
                  rintro e w5 ⟨rfl, rfl⟩
                  go_wp2_with fail
                  exact ⟨rfl, .inr ⟨by rw [hv2.out]; decide, _, .inl (by rw [hv2.out]), rfl⟩, B4.out⟩
              · obtain rfl : j = t := by omega
                have kd2 : ¬ (j : Int) < (j : Int) := by omega
                have C3 := (HG.out.2.2.step B4.out).cell (k := 0) rfl
                have C1 := (HG.out.1.step B4.out).cell (k := 0) rfl
                have KM := isMovement_b mv
                cases c3 : inB 0 7 mv
                · rw [c3] at KM
                  have hr := Lib.hid (rowC_2 (ps := ps) (ts := ts) (m := mv) hA.out (by unfold ratOk; rw [c3, Bool.and_false, Bool.and_false, Bool.false_and]))
                  go_wp2_with fail
                  refine (KM _).mono ?_
                  rintro e w3 ⟨rfl, n3, rfl⟩
                  go_wp2_with fail
                  refine (need_bad 2 _).mono ?_
                  rintro e w5 ⟨rfl, rfl⟩
                  go_wp2_with fail
                  exact ⟨rfl, .inr ⟨by rw [hr.out]; decide, _, .inl (by rw [hr.out]), rfl⟩, bdrew B4.out _⟩
                · rw [c3] at KM
                  have hm8 : 0 ≤ mv ∧ mv ≤ 7 := by simpa [inB] using c3
                  have hR := Lib.hid (show ratOk ps ts mv = true from by
                    unfold ratOk
                    rw [show allK (tiOk ts) ts.length = true from by rw [← HT.out]; exact hx.out, c3, decide_eq_true (by have := HN.out; omega : 1 ≤ ps.length ∧ ps.length ≤ 6), decide_eq_true (by have := HN.out; have := HT.out; omega : ts.length + 1 = ps.length)]
                    rfl)
                  obtain ⟨m, rfl⟩ : ∃ m : Nat, mv = m := ⟨mv.toNat, by omega⟩
                  have hm : m < 8 := by omega
                  have HP := Lib.hid (fun k (hk : k < n) => allK_at (f := pOk ps) hA.out (show k < ps.length by rw [← HN.out]; exact hk))
                  clear c3 hx hjt
                  go_wp2_with fail
                  refine (KM _).mono ?_
                  rintro e w3 ⟨rfl, n3, rfl⟩
                  have B5 := Lib.hid (bdrew B4.out n3)
                  have C1' : (World.drewN _ n3).cell? _ = _ := C1
                  clear C1 C3 B4 KM
                  go_wp2_with fail
                  refine (need_ok 2 _).mono ?_
                  rintro e w5 ⟨rfl, rfl⟩
                  go_wp2_with fail
                  go_loopw [56] (fun iv wr => ∃ k : Nat, k ≤ n ∧ iv = .int .i64 (k : Int) ∧ Hid (allK (cyOk ps) k = true) ∧ Hid (Below w.heap.size w wr)) (fun iv _ => n - (intOf iv).toNat)
                  case atStart => exact ⟨0, by omega, rfl, Lib.hid rfl, B5⟩
                  case round =>
                    clear B5 C1'
                    obtain ⟨k, hk, rfl, hall, B6⟩ := hrel
                    by_cases hlt : k < n
                    · have s2 : IntKind.i64.wrap ((k : Int) + 1) = (k : Int) + 1 := IntWalk.i64_in _ (by omega)
                      have kd : (k : Int) < (n : Int) := by omega
                      have hkl : k < ps.length := by rw [← HN.out]; exact hlt
                      have hWk := HX.out.2.2.1 k hkl
                      have P1 := HX.out.1.step B6.out
                      have R1 := P1.row
                      rw [← HN.out] at R1
                      have S1 := P1.sl k hkl
                      have C1 := (HG.out.1.step B6.out).cell (k := 0) rfl
                      have C3 := (HG.out.2.2.step B6.out).cell (k := 0) rfl
                      clear P1
                      have hle : k * 3 + 3 ≤ (pvC (pvs gs ps n n)).size := by rw [pvC_size, pvs_len]; omega
                      have hpl := pvC_at (l := pvs gs ps n n) (by rw [pvs_len]; exact hlt) (pvs_at hlt hlt) (rfl : k * 3 = k * 3)
                      have N0 := At.new wr #[.slice none 0 0, .int .i64 0, .int .i64 0] 41
                      have N1 := N0.setRow (plC (.slice (some ⟨gs k, 0, none⟩) (pS ps k).length (pS ps k).length) (pB ps k) (pO ps k))
                      have S2 := (S1.alloc (.cells #[.slice none 0 0, .int .i64 0, .int .i64 0] 41)).setRow_other (k := wr.heap.size) (Nat.ne_of_lt S1.lt) (plC (.slice (some ⟨gs k, 0, none⟩) (pS ps k).length (pS ps k).length) (pB ps k) (pO ps k))
                      have R2 := (R1.alloc (.cells #[.slice none 0 0, .int .i64 0, .int .i64 0] 41)).setRow_other (k := wr.heap.size) (Nat.ne_of_lt R1.lt) (plC (.slice (some ⟨gs k, 0, none⟩) (pS ps k).length (pS ps k).length) (pB ps k) (pO ps k))
                      have L2 := ((HG.out.1.step B6.out).alloc (.cells #[.slice none 0 0, .int .i64 0, .int .i64 0] 41)).setRow_other (k := wr.heap.size) (Nat.ne_of_lt (HG.out.1.step B6.out).lt) (plC (.slice (some ⟨gs k, 0, none⟩) (pS ps k).length (pS ps k).length) (pB ps k) (pO ps k))
                      have M2 := (((HG.out.2.2.step B6.out).alloc (.cells #[.slice none 0 0, .int .i64 0, .int .i64 0] 41)).setRow_other (k := wr.heap.size) (Nat.ne_of_lt (HG.out.2.2.step B6.out).lt) (plC (.slice (some ⟨gs k, 0, none⟩) (pS ps k).length (pS ps k).length) (pB ps k) (pO ps k))).cell (k := 0) rfl
                      have B2 := Lib.hid (bset (bnew B6.out (.cells #[.slice none 0 0, .int .i64 0, .int .i64 0] 41)) (g := wr.heap.size) B6.out.size (plC (.slice (some ⟨gs k, 0, none⟩) (pS ps k).length (pS ps k).length) (pB ps k) (pO ps k)))
                      have hv := Lib.hid (show ∀ (_ : ¬ cyP ps k = cyP ps 0), rowC ps ts (m : Int) = 4 from fun h => rowC_4 hA.out hR.out (allK_no hkl (decide_eq_false h)))
                      have hy := Lib.hid (show ∀ (_ : cyP ps k = cyP ps 0), allK (cyOk ps) (k + 1) = true from fun h => allK_next hall.out (decide_eq_true h))
                      have h0l : 0 < ps.length := by omega
                      have h0n : 0 < n := by omega
                      have kd0 : (0 : Int) < (n : Int) := by omega
                      have S0 := ((HX.out.1.step B6.out).sl 0 h0l |>.alloc (.cells #[.slice none 0 0, .int .i64 0, .int .i64 0] 41)).setRow_other (k := wr.heap.size) (Nat.ne_of_lt ((HX.out.1.step B6.out).sl 0 h0l).lt) (plC (.slice (some ⟨gs k, 0, none⟩) (pS ps k).length (pS ps k).length) (pB ps k) (pO ps k))
                      have hle0 : 0 + 3 ≤ (pvC (pvs gs ps n n)).size := by rw [pvC_size, pvs_len]; omega
                      have hpl0 := pvC_at (l := pvs gs ps n n) (by rw [pvs_len]; exact h0n) (pvs_at h0n h0n) (rfl : 0 = 0 * 3)
                      obtain ⟨hl1, hb1, ht1, -, -⟩ := okP_parts (HP.out k hlt)
                      obtain ⟨hl0, hb0, ht0, -, -⟩ := okP_parts (HP.out 0 h0n)
                      have K1 := Lib.hid (fun w' (hb : Below _ _ w') => cycleOf_any (gs k) (pS ps k) (pB ps k) (pO ps k) hWk 107 hl1.2 hb1 ht1 w' (S2.step hb))
                      have K0 := Lib.hid (fun w' (hb : Below _ _ w') => cycleOf_any (gs 0) (pS ps 0) (pB ps 0) (pO ps 0) (HX.out.2.2.1 0 h0l) 107 hl0.2 hb0 ht0 w' (S0.step hb))
                      unfold cyP at hv hy
                      generalize cyc (pS ps k) (pB ps k) = x at *
                      generalize cyc (pS ps 0) (pB ps 0) = y at *
                      clear hl1 hb1 ht1 hl0 hb0 ht0 S1 C1 C3 M2
                      go_wp2_with (first | ((with_reducible refine is_load 41 _ rfl ?_); refine wpList_load_part rfl 41 _ rfl _ (k * 3) rfl (pvC (pvs gs ps n n)) _ (by with_reducible assumption) 3 hle _ Try.underlying41 rfl (by kernel_rfl) (plC (.slice (some ⟨gs k, 0, none⟩) (pS ps k).length (pS ps k).length) (pB ps k) (pO ps k)) hpl ?_) | ((with_reducible refine is_store 41 _ _ rfl ?_); refine wpList_store_at rfl 41 _ _ rfl _ rfl (plC (.slice (some ⟨gs k, 0, none⟩) (pS ps k).length (pS ps k).length) (pB ps k) (pO ps k)) rfl (#[.slice none 0 0, .int .i64 0, .int .i64 0]) _ (by with_reducible assumption) 3 (plC_size _ _ _) rfl (by kernel_rfl) (pl_one _ (sl_one _ _ _) _ _) ?_) | ((with_reducible refine is_load 41 _ rfl ?_); refine wpList_load_at rfl 41 _ rfl _ rfl (plC (.slice (some ⟨gs k, 0, none⟩) (pS ps k).length (pS ps k).length) (pB ps k) (pO ps k)) _ (by with_reducible assumption) 3 (plC_size _ _ _) _ Try.underlying41 rfl (by kernel_rfl) ?_))
                      have hC := Cb.const (World.setRow (wr.alloc (.cells #[.slice none 0 0, .int .i64 0, .int .i64 0] 41)) wr.heap.size (plC (.slice (some ⟨gs k, 0, none⟩) (pS ps k).length (pS ps k).length) (pB ps k) (pO ps k)))
                      have N9 : ∀ w', Cb _ w' → At w' wr.heap.size (plC (.slice (some ⟨gs k, 0, none⟩) (pS ps k).length (pS ps k).length) (pB ps k) (pO ps k)) 41 := fun w' h => N1.step h
                      have R9 : ∀ w', Cb _ w' → At w' G (pvC (pvs gs ps n n)) T := fun w' h => R2.step h
                      have L9 : ∀ w', Cb _ w' → At w' g1 #[.slice (some ⟨G, 0, none⟩) n n] T1 := fun w' h => L2.step h
                      generalize World.setRow (wr.alloc (.cells #[.slice none 0 0, .int .i64 0, .int .i64 0] 41)) wr.heap.size (plC (.slice (some ⟨gs k, 0, none⟩) (pS ps k).length (pS ps k).length) (pB ps k) (pO ps k)) = W2 at *
                      try go_simp
                      refine wp_region_cb_tail 7 (by kernel_rfl) (by kernel_rfl) ?_
                      simp only [List.take, List.drop]
                      repeat (first
                        | go_big_quiet_skip
                        | (go_big_quiet_want; first
                          | (refine q_partC 41 _ rfl 0 rfl N9 3 (Nat.le_refl 3) _ Try.underlying41 rfl (by kernel_rfl) (plC (.slice (some ⟨gs k, 0, none⟩) (pS ps k).length (pS ps k).length) (pB ps k) (pO ps k)) (by simp [plC]) ?_; go_simp; go_big_quiet_on)
                          | (refine q_oneC 25 _ rfl _ Try.underlying25 rfl 0 rfl L9 _ rfl ?_; go_simp; go_big_quiet_on)
                          | (refine q_partC 41 _ rfl 0 rfl R9 3 hle0 _ Try.underlying41 rfl (by kernel_rfl) (plC (.slice (some ⟨gs 0, 0, none⟩) (pS ps 0).length (pS ps 0).length) (pB ps 0) (pO ps 0)) hpl0 ?_; go_simp; go_big_quiet_on)
                          | (go_big_quiet_op; go_big_quiet_on)
                          | (go_big_quiet_op; apply Exists.intro; refine ⟨fun w' hw' => ?_, ?_⟩; (go_at_call 104; (with_reducible show Calls _ _ #[.agg (plC (.slice (some ⟨gs k, 0, none⟩) (pS ps k).length (pS ps k).length) (pB ps k) (pO ps k))] _ _); exact (K1.out w' hw').mono fun _ _ h => ⟨h.1, hw'.step h.2⟩); go_big_quiet_on)
                          | (go_big_quiet_op; apply Exists.intro; refine ⟨fun w' hw' => ?_, ?_⟩; (go_at_call 104; (with_reducible show Calls _ _ #[.agg (plC (.slice (some ⟨gs 0, 0, none⟩) (pS ps 0).length (pS ps 0).length) (pB ps 0) (pO ps 0))] _ _); exact (K0.out w' hw').mono fun _ _ h => ⟨h.1, hw'.step h.2⟩); go_big_quiet_on)))
                      refine wpQuiet_nil ?_
                      intro w6 hw6
                      have B7 := Lib.hid (bthen B2.out hw6)
                      clear hC K1 K0 B2 B6 hw6 N9 R9 L9 N0 N1 S0 S2 R1 R2 L2
                      by_cases p : x = y
                      · have e1 : (x == y) = true := by simpa using p
                        have e2 : decide (x = y) = true := decide_eq_true p
                        have hy2 := Lib.hid (hy.out p)
                        clear p hv hy
                        go_wp2_with fail
                        refine (need_ok 4 _).mono ?_
                        rintro e w7 ⟨rfl, rfl⟩
                        go_wp2_with fail
                        exact ⟨⟨k + 1, by omega, by go_num, hy2, B7⟩, by simp [intOf]; omega⟩
                      · have e1 : (x == y) = false := by simpa using p
                        have e2 : decide (x = y) = false := decide_eq_false p
                        have hv2 := Lib.hid (hv.out p)
                        clear p hv hy
                        go_wp2_with fail
                        refine (need_bad 4 _).mono ?_
                        rintro e w7 ⟨rfl, rfl⟩
                        go_wp2_with fail
                        exact ⟨rfl, .inr ⟨by rw [hv2.out]; decide, _, .inl (by rw [hv2.out]), rfl⟩, B7.out⟩
                    · obtain rfl : n = k := by omega
                      have hcy := Lib.hid (show allK (cyOk ps) ps.length = true from by rw [← HN.out]; exact hall.out)
                      have C1 := (HG.out.1.step B6.out).cell (k := 0) rfl
                      have kd3 : ¬ (n : Int) < (n : Int) := by omega
                      clear hall hlt
                      go_wp2_with fail
                      go_loopw [71] (fun iv wr => ∃ k : Nat, k ≤ n ∧ iv = .int .i64 (k : Int) ∧ Hid (allK (gnOk ps m) k = true) ∧ Hid (Below w.heap.size w wr)) (fun iv _ => n - (intOf iv).toNat)
                      case atStart => exact ⟨0, by omega, rfl, Lib.hid rfl, B6⟩
                      case round =>
                        clear B6 C1
                        obtain ⟨k, hk, rfl, hall, B7⟩ := hrel
                        by_cases hlt : k < n
                        · have s2 : IntKind.i64.wrap ((k : Int) + 1) = (k : Int) + 1 := IntWalk.i64_in _ (by omega)
                          have kd : (k : Int) < (n : Int) := by omega
                          have hkl : k < ps.length := by rw [← HN.out]; exact hlt
                          have hWk := HX.out.2.2.1 k hkl
                          have P1 := HX.out.1.step B7.out
                          have R1 := P1.row
                          rw [← HN.out] at R1
                          have S1 := P1.sl k hkl
                          have C1 := (HG.out.1.step B7.out).cell (k := 0) rfl
                          have C3 := (HG.out.2.2.step B7.out).cell (k := 0) rfl
                          clear P1
                          have hle : k * 3 + 3 ≤ (pvC (pvs gs ps n n)).size := by rw [pvC_size, pvs_len]; omega
                          have hpl := pvC_at (l := pvs gs ps n n) (by rw [pvs_len]; exact hlt) (pvs_at hlt hlt) (rfl : k * 3 = k * 3)
                          have N0 := At.new wr #[.slice none 0 0, .int .i64 0, .int .i64 0] 41
                          have N1 := N0.setRow (plC (.slice (some ⟨gs k, 0, none⟩) (pS ps k).length (pS ps k).length) (pB ps k) (pO ps k))
                          have S2 := (S1.alloc (.cells #[.slice none 0 0, .int .i64 0, .int .i64 0] 41)).setRow_other (k := wr.heap.size) (Nat.ne_of_lt S1.lt) (plC (.slice (some ⟨gs k, 0, none⟩) (pS ps k).length (pS ps k).length) (pB ps k) (pO ps k))
                          have R2 := (R1.alloc (.cells #[.slice none 0 0, .int .i64 0, .int .i64 0] 41)).setRow_other (k := wr.heap.size) (Nat.ne_of_lt R1.lt) (plC (.slice (some ⟨gs k, 0, none⟩) (pS ps k).length (pS ps k).length) (pB ps k) (pO ps k))
                          have L2 := ((HG.out.1.step B7.out).alloc (.cells #[.slice none 0 0, .int .i64 0, .int .i64 0] 41)).setRow_other (k := wr.heap.size) (Nat.ne_of_lt (HG.out.1.step B7.out).lt) (plC (.slice (some ⟨gs k, 0, none⟩) (pS ps k).length (pS ps k).length) (pB ps k) (pO ps k))
                          have M2 := (((HG.out.2.2.step B7.out).alloc (.cells #[.slice none 0 0, .int .i64 0, .int .i64 0] 41)).setRow_other (k := wr.heap.size) (Nat.ne_of_lt (HG.out.2.2.step B7.out).lt) (plC (.slice (some ⟨gs k, 0, none⟩) (pS ps k).length (pS ps k).length) (pB ps k) (pO ps k))).cell (k := 0) rfl
                          have B2 := Lib.hid (bset (bnew B7.out (.cells #[.slice none 0 0, .int .i64 0, .int .i64 0] 41)) (g := wr.heap.size) B7.out.size (plC (.slice (some ⟨gs k, 0, none⟩) (pS ps k).length (pS ps k).length) (pB ps k) (pO ps k)))
                          have hok := HP.out k hlt
                          obtain ⟨hl, -, htk, -, -⟩ := okP_parts hok
                          have KN := greenTicks_any (gs k) (pS ps k) (pB ps k) (pO ps k) hWk 107 hl.2 htk m hm _ S2
                          have hgt : (gnP ps m k : Int) = GT (pS ps k) m := GT_cnt hok m
                          have hv := Lib.hid (show ∀ (_ : ¬ 0 < GT (pS ps k) m), rowC ps ts (m : Int) = 6 from fun h => rowC_6 hA.out hR.out hcy.out (allK_no hkl (decide_eq_false (fun hh => hh (show gnP ps m k = 0 by rw [← hgt] at h; omega)))))
                          have hy := Lib.hid (show ∀ (_ : 0 < GT (pS ps k) m), allK (gnOk ps m) (k + 1) = true from fun h => allK_next hall.out (decide_eq_true (by rw [← hgt] at h; omega)))
                          clear hgt hok hl htk hkl S1 C1 C3
                          generalize GT (pS ps k) m = x at *
                          go_wp2_with (first | ((with_reducible refine is_load 41 _ rfl ?_); refine wpList_load_part rfl 41 _ rfl _ (k * 3) rfl (pvC (pvs gs ps n n)) _ (by with_reducible assumption) 3 hle _ Try.underlying41 rfl (by kernel_rfl) (plC (.slice (some ⟨gs k, 0, none⟩) (pS ps k).length (pS ps k).length) (pB ps k) (pO ps k)) hpl ?_) | ((with_reducible refine is_store 41 _ _ rfl ?_); refine wpList_store_at rfl 41 _ _ rfl _ rfl (plC (.slice (some ⟨gs k, 0, none⟩) (pS ps k).length (pS ps k).length) (pB ps k) (pO ps k)) rfl (#[.slice none 0 0, .int .i64 0, .int .i64 0]) _ (by with_reducible assumption) 3 (plC_size _ _ _) rfl (by kernel_rfl) (pl_one _ (sl_one _ _ _) _ _) ?_) | ((with_reducible refine is_load 41 _ rfl ?_); refine wpList_load_at rfl 41 _ rfl _ rfl (plC (.slice (some ⟨gs k, 0, none⟩) (pS ps k).length (pS ps k).length) (pB ps k) (pO ps k)) _ (by with_reducible assumption) 3 (plC_size _ _ _) _ Try.underlying41 rfl (by kernel_rfl) ?_))
                          refine KN.mono ?_
                          rintro e w2 ⟨rfl, hb2⟩
                          have B3 := Lib.hid (bthen B2.out hb2)
                          clear KN hb2 B2 B7 N0 N1 R1 R2 L2 S2 M2
                          by_cases p : 0 < x
                          · have e2 : decide (0 < x) = true := decide_eq_true p
                            have hy2 := Lib.hid (hy.out p)
                            clear hv hy
                            go_wp2_with fail
                            refine (need_ok 6 _).mono ?_
                            rintro e w7 ⟨rfl, rfl⟩
                            go_wp2_with fail
                            exact ⟨⟨k + 1, by omega, by go_num, hy2, B3⟩, by simp [intOf]; omega⟩
                          · have e2 : decide (0 < x) = false := decide_eq_false p
                            have hv2 := Lib.hid (hv.out (by omega))
                            clear hv hy
                            go_wp2_with fail
                            refine (need_bad 6 _).mono ?_
                            rintro e w7 ⟨rfl, rfl⟩
                            go_wp2_with fail
                            exact ⟨rfl, .inr ⟨by rw [hv2.out]; decide, _, .inl (by rw [hv2.out]), rfl⟩, B3.out⟩
                        · obtain rfl : n = k := by omega
                          have hv := Lib.hid (rowC_0 (ps := ps) (ts := ts) (m := (m : Int)) hA.out hR.out hcy.out (by rw [← HN.out]; exact hall.out))
                          have kd4 : ¬ (n : Int) < (n : Int) := by omega
                          go_wp2_with fail
                          go_end0
                          exact ⟨.inl ⟨hv.out, rfl⟩, B7.out⟩
          · have d4 : ((t : Int) == (n : Int) - 1) = false := by simpa using d3
            have d5 : decide ((t : Int) = (n : Int) - 1) = false := decide_eq_false d3
            have hr := Lib.hid (rowC_2 (ps := ps) (ts := ts) (m := mv) hA.out (by unfold ratOk; rw [decide_eq_false (by have := HN.out; have := HT.out; omega : ¬ ts.length + 1 = ps.length), Bool.false_and, Bool.and_false, Bool.false_and]))
            go_wp2_with fail
            refine (need_bad 2 _).mono ?_
            rintro e w3 ⟨rfl, rfl⟩
            go_wp2_with fail
            exact ⟨rfl, .inr ⟨by rw [hr.out]; decide, _, .inl (by rw [hr.out]), rfl⟩, B1.out⟩
        · have hr := Lib.hid (rowC_2 (ps := ps) (ts := ts) (m := mv) hA.out (by unfold ratOk; rw [decide_eq_false (by have := HN.out; omega : ¬ (1 ≤ ps.length ∧ ps.length ≤ 6)), Bool.false_and, Bool.false_and]))
          go_wp2_with fail
          refine (need_bad 2 _).mono ?_
          rintro e w3 ⟨rfl, rfl⟩
          go_wp2_with fail
          exact ⟨rfl, .inr ⟨by rw [hr.out]; decide, _, .inl (by rw [hr.out]), rfl⟩, B1.out⟩
      · have hr := Lib.hid (rowC_2 (ps := ps) (ts := ts) (m := mv) hA.out (by unfold ratOk; rw [decide_eq_false (by have := HN.out; omega : ¬ (1 ≤ ps.length ∧ ps.length ≤ 6)), Bool.false_and, Bool.false_and]))
        go_wp2_with fail
        refine (need_bad 2 _).mono ?_
        rintro e w3 ⟨rfl, rfl⟩
        go_wp2_with fail
        exact ⟨rfl, .inr ⟨by rw [hr.out]; decide, _, .inl (by rw [hr.out]), rfl⟩, B1.out⟩

end Go.Proofs.Ytboahhipobcabab
