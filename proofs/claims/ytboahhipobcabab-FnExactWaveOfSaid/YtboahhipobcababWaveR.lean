/-
  CONTRACTS: what refuses a row of plans: the model.
-/
import Derived.Test.YtboahhipobcababG14
import Derived.Test.YtboahhipobcababG21
import Derived.Test.YtboahhipobcababG12
namespace Go.Proofs.Ytboahhipobcabab
open Go Go.ChangeShapes Go.WideShapes Go.ChangeAt Go.RowKit
set_option maxRecDepth 100000

set_option maxHeartbeats 2000000 in
theorem l04Row_any (G : Nat) (gs : Nat → Nat) (ps : Ps) (T : TypeId) (H : Nat) (ts : List Int) (T2 : TypeId) (mv : Int) (hW : ∀ i, i < ps.length → SlW (pS ps i)) (hn : ps.length ≤ 1048576) (ht : ts.length ≤ 1048576) (w : World) (P0 : PB w G gs ps T) (H0 : At w H (il ts) T2) :
    Calls Try.prog 54 #[.slice (some ⟨G, 0, none⟩) ps.length ps.length, .slice (some ⟨H, 0, none⟩) ts.length ts.length, .int .i64 mv] w fun e w' => e = .returned (.int .i64 (rowC ps ts mv)) ∧ Below w.heap.size w w' := by
  have HX := Lib.hid (And.intro P0 (And.intro H0 (And.intro hW trivial)))
  obtain ⟨n, hnn⟩ : ∃ n, n = ps.length := ⟨_, rfl⟩
  obtain ⟨t, htt⟩ : ∃ t, t = ts.length := ⟨_, rfl⟩
  rw [← hnn] at hn ⊢
  rw [← htt] at ht ⊢
  have HN := Lib.hid hnn
  have HT := Lib.hid htt
  clear hnn htt hW P0 H0
  go_enter Try.func54, Try.ntmps54
  go_wp2
  go_loopw [7] (fun iv wr => ∃ k : Nat, k ≤ n ∧ iv = .int .i64 (k : Int) ∧ Hid (allK (pOk ps) k = true) ∧ Hid (Below w.heap.size w wr)) (fun iv _ => n - (intOf iv).toNat)
  case atStart => exact ⟨0, by omega, rfl, Lib.hid rfl, Lib.hid (Below.refl _ _)⟩
  case round =>
    obtain ⟨k, hk, rfl, hall, B1⟩ := hrel
    by_cases hlt : k < n
    · have s2 : IntKind.i64.wrap ((k : Int) + 1) = (k : Int) + 1 := IntWalk.i64_in _ (by omega)
      have kd : (k : Int) < (n : Int) := by omega
      have hkl : k < ps.length := by rw [← HN.out]; exact hlt
      have P1 := HX.out.1.step B1.out
      have KO := l04OkO_any G (k * 3) (gs k) (pS ps k) (pB ps k) (pO ps k) (HX.out.2.2.1 k hkl) 107 wr (PlAt.of_row P1.row hkl) (P1.sl k hkl)
      clear P1
      cases ho : okP (pS ps k) (pB ps k) (pO ps k)
      · rw [ho] at KO
        have hv := Lib.hid (rowC_1 (ts := ts) (m := mv) (allK_no (f := pOk ps) hkl ho))
        clear ho hkl
        go_wp2_with fail
        refine KO.mono ?_
        rintro e w2 ⟨rfl, hb2⟩
        go_wp2_with fail
        go_ret
        exact ⟨by rw [hv.out]; rfl, bthen B1.out hb2⟩
      · rw [ho] at KO
        have hn1 := Lib.hid (allK_next hall.out (show pOk ps k = true from ho))
        clear ho hkl
        go_wp2_with fail
        refine KO.mono ?_
        rintro e w2 ⟨rfl, hb2⟩
        have B2 := Lib.hid (bthen B1.out hb2)
        clear B1 hb2 KO
        go_wp2_with fail
        exact ⟨⟨k + 1, by omega, by go_num, hn1, B2⟩, by simp [intOf]; omega⟩
    · obtain rfl : n = k := by omega
      have hA := Lib.hid (show allK (pOk ps) ps.length = true from by rw [← HN.out]; exact hall.out)
      clear hall
      have KI := l00In_b ((n : Nat) : Int) 1 6
      have KM := l04Movement_b mv
      have s5 : IntKind.i64.wrap ((t : Int) + 1) = (t : Int) + 1 := IntWalk.i64_in _ (by omega)
      by_cases c1 : 1 ≤ n ∧ n ≤ 6
      · rw [show inB 1 6 ((n : Nat) : Int) = true from decide_eq_true (by omega)] at KI
        by_cases c2 : t + 1 = n
        · have d2 : ((t : Int) + 1 == (n : Int)) = true := by simp; omega
          have d2' : decide ((t : Int) + 1 = (n : Int)) = true := decide_eq_true (by omega)
          cases c3 : inB 0 7 mv
          · rw [c3] at KM
            have hr := Lib.hid (rowC_2 (ps := ps) (ts := ts) (m := mv) hA.out (by unfold ratOk; rw [c3, Bool.and_false, Bool.and_false, Bool.false_and]))
            clear c3
            go_wp2_with fail
            refine (KI _).mono ?_
            rintro e w2 ⟨rfl, n2, rfl⟩
            go_wp2_with fail
            refine (KM _).mono ?_
            rintro e w3 ⟨rfl, n3, rfl⟩
            go_wp2_with fail
            go_loopw [8, 9] (fun okv iv wr => okv = .bool false ∧ iv = .int .i64 0 ∧ Hid (Below w.heap.size w wr)) (fun _ _ _ => 0)
            case atStart => exact ⟨rfl, rfl, Lib.hid (bdrew B1.out _)⟩
            case round =>
              obtain ⟨rfl, rfl, B4⟩ := hrel
              by_cases q0 : 0 < t
              · have q1 : (0 : Int) < (t : Int) := by omega
                go_wp2_with fail
                go_ret
                exact ⟨by rw [hr.out]; rfl, B4.out⟩
              · have q1 : ¬ (0 : Int) < (t : Int) := by omega
                go_wp2_with fail
                go_ret
                exact ⟨by rw [hr.out]; rfl, B4.out⟩
          · rw [c3] at KM
            have hm8 : 0 ≤ mv ∧ mv ≤ 7 := by simpa [inB] using c3
            have hrat := Lib.hid (show ∀ x, allK (tiOk ts) ts.length = x → ratOk ps ts mv = x from fun x hx => by
              unfold ratOk
              rw [hx, c3, decide_eq_true (by have := HN.out; omega : 1 ≤ ps.length ∧ ps.length ≤ 6), decide_eq_true (by have := HN.out; have := HT.out; omega : ts.length + 1 = ps.length)]
              rfl)
            clear c3
            go_wp2_with fail
            refine (KI _).mono ?_
            rintro e w2 ⟨rfl, n2, rfl⟩
            go_wp2_with fail
            refine (KM _).mono ?_
            rintro e w3 ⟨rfl, n3, rfl⟩
            have B3 := Lib.hid (bdrew (bdrew B1.out n2) n3)
            generalize World.drewN _ _ = w3 at B3 ⊢
            clear KI KM B1 d2 d2'
            go_wp2_with fail
            go_loopw [8, 9] (fun okv iv wr => ∃ j : Nat, j ≤ t ∧ iv = .int .i64 (j : Int) ∧ okv = .bool (allK (tiOk ts) j) ∧ Hid (Below w.heap.size w wr)) (fun _ iv _ => t - (intOf iv).toNat)
            case atStart => exact ⟨0, by omega, rfl, rfl, B3⟩
            case round =>
              clear B3
              obtain ⟨j, hj, rfl, rfl, B4⟩ := hrel
              cases hx : allK (tiOk ts) j
              · have hr := Lib.hid (rowC_2 (ps := ps) (ts := ts) (m := mv) hA.out (hrat.out _ (by rw [← HT.out]; exact allK_le hj hx)))
                clear hx
                by_cases hjt : j < t
                · have kd2 : (j : Int) < (t : Int) := by omega
                  go_wp2_with fail
                  go_ret
                  exact ⟨by rw [hr.out]; rfl, B4.out⟩
                · have kd2 : ¬ (j : Int) < (t : Int) := by omega
                  go_wp2_with fail
                  go_ret
                  exact ⟨by rw [hr.out]; rfl, B4.out⟩
              · by_cases hjt : j < t
                · have kd2 : (j : Int) < (t : Int) := by omega
                  have s6 : IntKind.i64.wrap ((j : Int) + 1) = (j : Int) + 1 := IntWalk.i64_in _ (by omega)
                  have hc := (HX.out.2.1.step B4.out).cell (il_get (xs := ts) (k := j) (by rw [← HT.out]; exact hjt))
                  have hx1 := Lib.hid (show allK (tiOk ts) (j + 1) = inB 0 100000 (ith ts j) from by unfold allK; rw [hx]; rfl)
                  have KT := l00In_b (ith ts j) 0 100000
                  generalize ith ts j = x at *
                  generalize inB 0 100000 x = bx at *
                  clear hx
                  go_wp2_with fail
                  refine (KT _).mono ?_
                  rintro e w4 ⟨rfl, n4, rfl⟩
                  have B5 := Lib.hid (bdrew B4.out n4)
                  go_wp2_with fail
                  exact ⟨⟨j + 1, by omega, by go_num, by rw [hx1.out], B5⟩, by simp [intOf]; omega⟩
                · obtain rfl : j = t := by omega
                  have hR := Lib.hid (hrat.out true (by rw [← HT.out]; exact hx))
                  have kd2 : ¬ (j : Int) < (j : Int) := by omega
                  clear hrat hx
                  have HP := Lib.hid (fun k (hk : k < n) => allK_at (f := pOk ps) hA.out (show k < ps.length by rw [← HN.out]; exact hk))
                  have KCy := Lib.hid (show ∀ k, k < n → ∀ w', Below w.heap.size w w' → Calls Try.prog 55 #[.pointer (some ⟨G, k * 3, none⟩)] w' fun e w'' => e = .returned (.int .i64 (cyP ps k)) ∧ Below w'.heap.size w' w'' from fun k hk w' hb => by
                    have hkl : k < ps.length := by rw [← HN.out]; exact hk
                    have hok := HP.out k hk
                    obtain ⟨hl, -, -, -, -⟩ := okP_parts hok
                    have P1 := HX.out.1.step hb
                    refine (l04CycleO_any G (k * 3) (gs k) (pS ps k) (pB ps k) (pO ps k) (HX.out.2.2.1 k hkl) 107 hl.1 hl.2 w' (PlAt.of_row P1.row hkl) (P1.sl k hkl)).mono ?_
                    rintro e w'' ⟨s, rfl, ⟨hs, -, -, -⟩, hb2⟩
                    exact ⟨by rw [hs (cOk_of hok)]; rfl, hb2⟩)
                  go_wp2_with fail
                  go_loopw [10] (fun iv wr => ∃ k : Nat, 1 ≤ k ∧ k ≤ n ∧ iv = .int .i64 (k : Int) ∧ Hid (allK (cyOk ps) k = true) ∧ Hid (Below w.heap.size w wr)) (fun iv _ => n - (intOf iv).toNat)
                  case atStart => exact ⟨1, by omega, by omega, rfl, Lib.hid (by unfold allK cyOk; simp [allK]), B4⟩
                  case round =>
                    clear B4
                    obtain ⟨k, hk1, hk, rfl, hall, B5⟩ := hrel
                    by_cases hlt : k < n
                    · have s2 : IntKind.i64.wrap ((k : Int) + 1) = (k : Int) + 1 := IntWalk.i64_in _ (by omega)
                      have kd3 : (k : Int) < (n : Int) := by omega
                      have kd0 : (0 : Int) < (n : Int) := by omega
                      have K1 := Lib.hid (KCy.out k hlt)
                      have K0 := Lib.hid (show ∀ w', Below w.heap.size w w' → Calls Try.prog 55 #[.pointer (some ⟨G, 0, none⟩)] w' fun e w'' => e = .returned (.int .i64 (cyP ps 0)) ∧ Below w'.heap.size w' w'' from KCy.out 0 (by omega))
                      have hv := Lib.hid (show ∀ (_ : ¬ cyP ps k = cyP ps 0), rowC ps ts mv = 4 from fun h => rowC_4 hA.out hR.out (allK_no (show k < ps.length by rw [← HN.out]; exact hlt) (decide_eq_false h)))
                      have hy := Lib.hid (show ∀ (_ : cyP ps k = cyP ps 0), allK (cyOk ps) (k + 1) = true from fun h => allK_next hall.out (decide_eq_true h))
                      have hC := Cb.const wr
                      generalize cyP ps k = x at *
                      generalize cyP ps 0 = y at *
                      go_wp2_with fail
                      refine wp_region_cb (by kernel_rfl) (by kernel_rfl) ?_
                      repeat (first
                        | go_big_quiet_skip
                        | (go_big_quiet_want; first
                          | (go_big_quiet_op; go_big_quiet_on)
                          | (go_big_quiet_op; apply Exists.intro; refine ⟨fun w' hw' => ?_, ?_⟩; (go_at_call 55; (with_reducible show Calls _ _ #[.pointer (some ⟨G, k * 3, none⟩)] _ _); exact (K1.out w' (bthen B5.out hw')).mono fun _ _ h => ⟨h.1, hw'.step h.2⟩); go_big_quiet_on)
                          | (go_big_quiet_op; apply Exists.intro; refine ⟨fun w' hw' => ?_, ?_⟩; (go_at_call 55; (with_reducible show Calls _ _ #[.pointer (some ⟨G, 0, none⟩)] _ _); exact (K0.out w' (bthen B5.out hw')).mono fun _ _ h => ⟨h.1, hw'.step h.2⟩); go_big_quiet_on)))
                      refine wpQuiet_nil ?_
                      intro w6 hw6
                      have B6 := Lib.hid (bthen B5.out hw6)
                      clear hC K1 K0 B5 hw6
                      by_cases p : x = y
                      · have e1 : (x != y) = false := by simpa using p
                        have e2 : decide (x = y) = true := decide_eq_true p
                        have e3 : (x == y) = true := by simpa using p
                        have hy2 := Lib.hid (hy.out p)
                        clear p hv hy
                        go_wp2_with fail
                        exact ⟨⟨k + 1, by omega, by omega, by go_num, hy2, B6⟩, by simp [intOf]; omega⟩
                      · have e1 : (x != y) = true := by simpa using p
                        have e2 : decide (x = y) = false := decide_eq_false p
                        have e3 : (x == y) = false := by simpa using p
                        have hv2 := Lib.hid (hv.out p)
                        clear p hv hy
                        go_wp2_with fail
                        go_ret
                        exact ⟨by rw [hv2.out]; rfl, B6.out⟩
                    · obtain rfl : k = n := by omega
                      have hcy := Lib.hid (show allK (cyOk ps) ps.length = true from by rw [← HN.out]; exact hall.out)
                      obtain ⟨m, rfl⟩ : ∃ m : Nat, mv = m := ⟨mv.toNat, by omega⟩
                      have hm : m < 8 := by omega
                      have kd3 : ¬ (k : Int) < (k : Int) := by omega
                      clear hall hlt
                      go_wp2_with fail
                      go_loopw [11] (fun iv wr => ∃ q : Nat, q ≤ k ∧ iv = .int .i64 (q : Int) ∧ Hid (allK (gnOk ps m) q = true) ∧ Hid (Below w.heap.size w wr)) (fun iv _ => k - (intOf iv).toNat)
                      case atStart => exact ⟨0, by omega, rfl, Lib.hid rfl, B5⟩
                      case round =>
                        clear B5
                        obtain ⟨q, hq, rfl, hall, B6⟩ := hrel
                        by_cases hlt : q < k
                        · have s2 : IntKind.i64.wrap ((q : Int) + 1) = (q : Int) + 1 := IntWalk.i64_in _ (by omega)
                          have kd4 : (q : Int) < (k : Int) := by omega
                          have hql : q < ps.length := by rw [← HN.out]; exact hlt
                          have P1 := HX.out.1.step B6.out
                          have KG := l04GreensO_any G (q * 3) (gs q) (pS ps q) (pB ps q) (pO ps q) (HX.out.2.2.1 q hql) 107 (HP.out q hlt) m hm wr (PlAt.of_row P1.row hql) (P1.sl q hql)
                          have hgn : cnt (gre (pB ps q) (pS ps q) m) (cyc (pS ps q) (pB ps q)).toNat = gnP ps m q := rfl
                          rw [hgn] at KG
                          have hv := Lib.hid (show ∀ (_ : gnP ps m q = 0), rowC ps ts (m : Int) = 6 from fun h => rowC_6 hA.out hR.out hcy.out (allK_no hql (decide_eq_false (fun hh => hh h))))
                          have hy := Lib.hid (show ∀ (_ : ¬ gnP ps m q = 0), allK (gnOk ps m) (q + 1) = true from fun h => allK_next hall.out (decide_eq_true h))
                          clear hgn P1 hql
                          generalize gnP ps m q = c at *
                          go_wp2_with fail
                          refine KG.mono ?_
                          rintro e w7 ⟨v, rfl, -, hb7⟩
                          have B7 := Lib.hid (bthen B6.out hb7)
                          clear KG hb7 B6
                          by_cases p : c = 0
                          · have e1 : ((c : Int) == 0) = true := by simpa using p
                            have e2 : decide ((c : Int) = 0) = true := decide_eq_true (by omega)
                            have hv2 := Lib.hid (hv.out p)
                            clear hv hy
                            subst p
                            go_wp2_with fail
                            go_ret
                            exact ⟨by rw [hv2.out]; rfl, B7.out⟩
                          · have e1 : ((c : Int) == 0) = false := by simpa using p
                            have e2 : decide ((c : Int) = 0) = false := decide_eq_false (by omega)
                            have hy2 := Lib.hid (hy.out p)
                            clear hv hy
                            go_wp2_with fail
                            exact ⟨⟨q + 1, by omega, by go_num, hy2, B7⟩, by simp [intOf]; omega⟩
                        · obtain rfl : q = k := by omega
                          have hv := Lib.hid (rowC_0 (ps := ps) (ts := ts) (m := (m : Int)) hA.out hR.out hcy.out (by rw [← HN.out]; exact hall.out))
                          have kd4 : ¬ (q : Int) < (q : Int) := by omega
                          go_wp2_with fail
                          go_ret
                          exact ⟨by rw [hv.out]; rfl, B6.out⟩
        · have d2 : ((t : Int) + 1 == (n : Int)) = false := by simp; omega
          have d2' : decide ((t : Int) + 1 = (n : Int)) = false := decide_eq_false (by omega)
          have hr := Lib.hid (rowC_2 (ps := ps) (ts := ts) (m := mv) hA.out (by unfold ratOk; rw [decide_eq_false (by have := HN.out; have := HT.out; omega : ¬ ts.length + 1 = ps.length), Bool.false_and, Bool.and_false, Bool.false_and]))
          go_wp2_with fail
          refine (KI _).mono ?_
          rintro e w2 ⟨rfl, n2, rfl⟩
          go_wp2_with fail
          go_loopw [8, 9] (fun okv iv wr => okv = .bool false ∧ iv = .int .i64 0 ∧ Hid (Below w.heap.size w wr)) (fun _ _ _ => 0)
          case atStart => exact ⟨rfl, rfl, Lib.hid (bdrew B1.out _)⟩
          case round =>
            obtain ⟨rfl, rfl, B4⟩ := hrel
            by_cases q0 : 0 < t
            · have q1 : (0 : Int) < (t : Int) := by omega
              go_wp2_with fail
              go_ret
              exact ⟨by rw [hr.out]; rfl, B4.out⟩
            · have q1 : ¬ (0 : Int) < (t : Int) := by omega
              go_wp2_with fail
              go_ret
              exact ⟨by rw [hr.out]; rfl, B4.out⟩
      · rw [show inB 1 6 ((n : Nat) : Int) = false from decide_eq_false (by omega)] at KI
        have hr := Lib.hid (rowC_2 (ps := ps) (ts := ts) (m := mv) hA.out (by unfold ratOk; rw [decide_eq_false (by have := HN.out; omega : ¬ (1 ≤ ps.length ∧ ps.length ≤ 6)), Bool.false_and, Bool.false_and]))
        go_wp2_with fail
        refine (KI _).mono ?_
        rintro e w2 ⟨rfl, n2, rfl⟩
        go_wp2_with fail
        go_loopw [8, 9] (fun okv iv wr => okv = .bool false ∧ iv = .int .i64 0 ∧ Hid (Below w.heap.size w wr)) (fun _ _ _ => 0)
        case atStart => exact ⟨rfl, rfl, Lib.hid (bdrew B1.out _)⟩
        case round =>
          obtain ⟨rfl, rfl, B4⟩ := hrel
          by_cases q0 : 0 < t
          · have q1 : (0 : Int) < (t : Int) := by omega
            go_wp2_with fail
            go_ret
            exact ⟨by rw [hr.out]; rfl, B4.out⟩
          · have q1 : ¬ (0 : Int) < (t : Int) := by omega
            go_wp2_with fail
            go_ret
            exact ⟨by rw [hr.out]; rfl, B4.out⟩

end Go.Proofs.Ytboahhipobcabab
