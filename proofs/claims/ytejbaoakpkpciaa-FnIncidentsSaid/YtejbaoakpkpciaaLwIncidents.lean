/-
  FnIncidents: an incident is told at a turn that both lists have, and at none of a list with itself; wrong tallies are left out, and right ones stay; a detector is stuck just if it has told the same before; calls are the first eight counts of ten or more. No condition.
-/
import Derived.Test.YtejbaoakpkpciaaG13
import Derived.Test.YtejbaoakpkpciaaIncIY
import Derived.Test.YtejbaoakpkpciaaIncSY
import Derived.Test.YtejbaoakpkpciaaStuckIY
import Derived.Test.YtejbaoakpkpciaaStuckSY
import Derived.Test.YtejbaoakpkpciaaWrongIY
import Derived.Test.YtejbaoakpkpciaaG17
import Derived.Test.YtejbaoakpkpciaaCallsIY
import Derived.Test.YtejbaoakpkpciaaDrwT
import Derived.Test.YtejbaoakpkpciaaLawB
namespace Go.Proofs.Ytejbaoakpkpciaa.lawFnIncidents
open Go Go.ChangeShapes Go.WideShapes Go.ChangeAt Go.RowKit


theorem f6big_any (a : Option Addr) (n c : Nat) (hn : n ≤ maxLen) (w : World) : Calls Try.prog 4 #[.slice a n c] w fun e w' => e = .returned (.bool (decide (4096 < n))) ∧ w' = w := by
  have hm : n ≤ 9223372036854775807 := Nat.le_trans hn (by decide)
  by_cases h : 4096 < n
  · have h1 : (n : Int) > 4096 := by omega
    rw [decide_eq_true h]
    go_enter Try.func4, Try.ntmps4
    go_wp2
    go_ret
    exact ⟨rfl, rfl⟩
  · have h1 : ¬ (n : Int) > 4096 := by omega
    rw [decide_eq_false h]
    go_enter Try.func4, Try.ntmps4
    go_wp2
    go_ret
    exact ⟨rfl, rfl⟩
set_option maxRecDepth 100000
set_option maxHeartbeats 8000000 in
theorem walk (w : World) (a0 : Option Addr) (c0 : Nat) (x0 : List Nat) (h0 : BSl w a0 x0) (a1 : Option Addr) (c1 : Nat) (x1 : List Nat) (h1 : BSl w a1 x1) :
    Calls Try.prog 3 #[.slice a0 x0.length c0, .slice a1 x1.length c1] w (True? w) := by
  by_cases hb0 : 4096 < x0.length
  · go_enter Try.func3, Try.ntmps3
    go_wp2_with fail
    refine (f6big_any a0 x0.length c0 h0.len _).mono ?_
    rintro e w1 ⟨rfl, rfl⟩
    rw [decide_eq_true hb0]
    go_wp2_with fail
    go_ret
    exact ⟨rfl, Below.refl _ _⟩
  · by_cases hb1 : 4096 < x1.length
    · go_enter Try.func3, Try.ntmps3
      go_wp2_with fail
      refine (f6big_any a0 x0.length c0 h0.len _).mono ?_
      rintro e w1 ⟨rfl, rfl⟩
      rw [decide_eq_false hb0]
      go_wp2_with fail
      refine (f6big_any a1 x1.length c1 h1.len _).mono ?_
      rintro e w2 ⟨rfl, rfl⟩
      rw [decide_eq_true hb1]
      go_wp2_with fail
      go_ret
      exact ⟨rfl, Below.refl _ _⟩
    · skip
      go_enter Try.func3, Try.ntmps3
      go_wp2_with fail
      refine (f6big_any a0 x0.length c0 h0.len _).mono ?_
      rintro e w1 ⟨rfl, rfl⟩
      rw [decide_eq_false hb0]
      go_wp2_with fail
      refine (f6big_any a1 x1.length c1 h1.len _).mono ?_
      rintro e w2 ⟨rfl, rfl⟩
      rw [decide_eq_false hb1]
      clear hb0 hb1
      go_wp2_with fail
      refine (P6Tallies_e a0 c0 x0 w2 h0).mono ?_
      rintro e w3 ⟨va, xs, u, rfl, hne, O3, hx8, hT, hb3⟩
      have B3 := Lib.hid hb3
      have h13 := h1.step hb3 (Nat.le_refl _)
      go_wp2_with fail
      refine (P6Tallies_e a1 c1 x1 w3 h13).mono ?_
      rintro e w4 ⟨vb, ys, u', rfl, hne', O4', hy8, hT', hb4⟩
      have O4 := O3.step hb4
      have B4 := Lib.hid (bthen B3.out hb4)
      clear O3 B3 h13 hb4 hb3
      obtain ⟨ga, ca, za, rfl, -, A4, hca⟩ := O4.atN hne
      obtain ⟨gb, cb, zb, rfl, -, C4, -⟩ := O4'.atN hne'
      clear O4 O4' hne hne'
      have hok := okT_yes (by omega) hT.ok
      have hok' := okT_yes (by omega) hT'.ok
      have hW := hT.w
      have hW' := hT'.w
      clear hT hT' u u'
      have h14 := h1.step B4.out (Nat.le_refl _)
      go_wp2_with fail
      refine (P6Pick_e a1 c1 x1 3 (by omega) (by omega) _ h14).mono ?_
      rintro e w5 ⟨m, rfl, hm, hb5⟩
      have A5 := A4.step hb5
      have C5 := C4.step hb5
      have B5 := Lib.hid (bthen B4.out hb5)
      clear A4 C4 B4 hb5
      clear h14
      have s1 : IntKind.i64.wrap (1 + (m : Int)) = 1 + (m : Int) := IntWalk.i64_in _ (by omega)
      have h05 := h0.step B5.out (Nat.le_refl _)
      go_wp2_with fail
      refine (P6Pick_e a0 c0 x0 200 (by omega) (by omega) _ h05).mono ?_
      rintro e w6 ⟨q, rfl, hq, hb6⟩
      have A6 := A5.step hb6
      have C6 := C5.step hb6
      have B6 := Lib.hid (bthen B5.out hb6)
      clear A5 C5 B5 hb6
      clear h05 s1
      have f1 := floatOfInt_nat q
      obtain ⟨tm, htm⟩ : ∃ tm : Int, tm = 1 + (m : Int) := ⟨_, rfl⟩
      have hmo := fN_le (n := q) (by omega)
      obtain ⟨mo, hmo'⟩ : ∃ mo, mo = fN q := ⟨_, rfl⟩
      rw [← hmo'] at hmo f1
      rw [← htm]
      have ham : amtB mo = true := decide_eq_true (by omega)
      have htb : inB 1 96 tm = true := by unfold inB; simp; omega
      clear htm hmo' hm hq
      have KI := fun w hA hC => FirstIncident_anyY za zb ga xs ca hW (by omega) 32 gb ys cb hW' (by omega) 32 mo (by omega) 1048576000 (by omega) tm w hA hC
      have KS := fun w hA hC => sFirstIncident_anyY za zb ga xs ca hW (by omega) 32 gb ys cb hW' (by omega) 32 mo (by omega) 1048576000 (by omega) tm w hA hC
      have KN := fun w hA => FirstIncident_anyY za za ga xs ca hW (by omega) 32 ga xs ca hW (by omega) 32 1065353216 (by omega) 0 (by omega) 1 w hA hA
      rw [inc_self hok] at KN
      have hinc := inc_both (s := 1048576000) hok hok' ham (by decide) htb
      have KF := fun w hA => FirstStuck_anyY za ga xs ca hW (by omega) 32 2 w hA
      have KSF := fun w hA => sFirstStuck_anyY za ga xs ca hW (by omega) 32 2 w hA
      obtain ⟨sa, sb, hsv, hsk2'⟩ := stuck_val hok
      rw [hsv] at KF KSF
      have hsk2 := Lib.hid hsk2'
      clear hsv hsk2'
      have KW := fun w hA => WithoutWrong_anyY za ga xs ca hW (by omega) 32 20 w hA
      have KSW := fun w hA => sWithoutWrong_anyY za ga xs ca hW (by omega) 32 20 w hA
      rw [vWrong_0 hok (by omega)] at KW KSW
      have KC := fun w hA => CallsOf_anyY za ga xs ca hW (by omega) 32 10 hca w hA
      rw [vCalls_0 hok (by omega)] at KC
      simp only at KN KF KSF KW KSW KC
      go_wp2_with fail
      clear f1
      rcases hinc with hv | ⟨i0, k0, hi0, hk0, hik, hv⟩
      · rw [hv] at KI KS
        simp only at KI KS
        clear hv
        refine (KI w6 A6 C6).mono ?_
        rintro e w7 ⟨rfl, hb7⟩
        have A7 := A6.step hb7
        have C7 := C6.step hb7
        have B7 := Lib.hid (bthen B6.out hb7)
        clear A6 C6 B6 hb7
        go_wp2_with fail
        refine (KS w7 A7 C7).mono ?_
        rintro e w8 ⟨rfl, hb8⟩
        have A8 := A7.step hb8
        have C8 := C7.step hb8
        have B8 := Lib.hid (bthen B7.out hb8)
        clear A7 C7 B7 hb8
        go_wp2_with fail
        refine (KN w8 A8).mono ?_
        rintro e w9 ⟨rfl, hb9⟩
        have A9 := A8.step hb9
        have C9 := C8.step hb9
        have B9 := Lib.hid (bthen B8.out hb9)
        clear A8 C8 B8 hb9
        clear KI KS KN C9
        go_wp2_with fail
        refine (KF w9 A9).mono ?_
        rintro e w10 ⟨rfl, hb10⟩
        have A10 := A9.step hb10
        have B10 := Lib.hid (bthen B9.out hb10)
        clear A9 B9 hb10
        go_wp2_with fail
        refine (KSF w10 A10).mono ?_
        rintro e w1 ⟨rfl, hb1⟩
        have A1 := A10.step hb1
        have B1 := Lib.hid (bthen B10.out hb1)
        clear A10 B10 hb1
        go_wp2_with fail
        go_loopw [23, 24] (fun s i wr => ∃ k : Nat, 1 ≤ k ∧ (k ≤ xs.length ∨ k = 1) ∧ i = .int .i64 (k : Int) ∧ s = .bool (sameK xs k) ∧ At wr ga (tY xs za) 32 ∧ Hid (Below w2.heap.size w2 wr)) (fun _ i _ => xs.length - (intOf i).toNat)
        case atStart => exact ⟨1, by omega, .inr rfl, rfl, rfl, A1, B1⟩
        case round =>
          clear A1 B1
          obtain ⟨k, hk1, hk, rfl, rfl, A1, B1⟩ := hrel
          by_cases hlt : k < xs.length
          · have s2 : IntKind.i64.wrap ((k : Int) + 1) = (k : Int) + 1 := IntWalk.i64_in _ (by omega)
            have s3 : IntKind.i64.wrap ((k : Int) - 1) = ((k - 1 : Nat) : Int) := by rw [IntWalk.i64_in _ (by omega)]; omega
            have kd : (k : Int) < (xs.length : Int) := by omega
            have km1 : ((k - 1 : Nat) : Int) < (xs.length : Int) := by omega
            have e1 : (tY xs za)[k * 3 + 1]? = some (.int .i16 (tc xs k)) := tY_count hlt rfl
            have e2 : (tY xs za)[(k - 1) * 3 + 1]? = some (.int .i16 (tc xs (k - 1))) := tY_count (by omega) rfl
            have e3 : (tY xs za)[k * 3 + 2]? = some (.int .i16 (tf xs k)) := tY_full hlt rfl
            have e4 : (tY xs za)[(k - 1) * 3 + 2]? = some (.int .i16 (tf xs (k - 1))) := tY_full (by omega) rfl
            have hn0 := sameK_next (xs := xs) hk1
            unfold sameTl at hn0
            have hC := Cb.const wr
            cases hsk : sameK xs k
            · rw [hsk] at hn0
              by_cases p1 : 0 < tc xs k
              · rw [decide_eq_true p1] at hn0
                have p1' : tc xs k > 0 := p1
                by_cases p2 : tc xs k = tc xs (k - 1)
                · rw [decide_eq_true p2] at hn0
                  have p2' : (tc xs k == tc xs (k - 1)) = true := by simpa using p2
                  have p2d : decide (tc xs k = tc xs (k - 1)) = true := decide_eq_true p2
                  clear p2
                  by_cases p3 : tf xs k = tf xs (k - 1)
                  · rw [decide_eq_true p3] at hn0
                    have p3' : (tf xs k == tf xs (k - 1)) = true := by simpa using p3
                    have p3d : decide (tf xs k = tf xs (k - 1)) = true := decide_eq_true p3
                    have hn := Lib.hid hn0
                    clear hn0 p3 hsk p1
                    generalize tc xs k = v1 at *
                    generalize tc xs (k - 1) = v2 at *
                    generalize tf xs k = v3 at *
                    generalize tf xs (k - 1) = v4 at *
                    generalize k - 1 = km at *
                    go_wp2_with fail
                    refine wp_region_cb (by kernel_rfl) (by kernel_rfl) ?_
                    try simp only [List.append_eq, List.cons_append, List.nil_append]
                    repeat (first
                      | go_big_quiet_skip
                      | (go_big_quiet_want; first
                        | (refine q_oneY 30 _ rfl _ Try.underlying30 rfl (k * 3 + 1) rfl A1 _ e1 ?_; go_simp; go_big_quiet_on)
                        | (refine q_oneY 30 _ rfl _ Try.underlying30 rfl (km * 3 + 1) rfl A1 _ e2 ?_; go_simp; go_big_quiet_on)
                        | (refine q_oneY 30 _ rfl _ Try.underlying30 rfl (k * 3 + 2) rfl A1 _ e3 ?_; go_simp; go_big_quiet_on)
                        | (refine q_oneY 30 _ rfl _ Try.underlying30 rfl (km * 3 + 2) rfl A1 _ e4 ?_; go_simp; go_big_quiet_on)
                        | (go_big_quiet_op; go_big_quiet_on)))
                    refine wpQuiet_nil ?_
                    intro w5 hw5
                    have A5 := A1.step hw5
                    have B5 := Lib.hid (bthen B1.out hw5)
                    clear A1 B1 hC hw5
                    go_wp2_with fail
                    exact ⟨⟨k + 1, by omega, .inl (by omega), by go_num, by rw [hn.out]; rfl, A5, B5⟩, by simp [intOf]; omega⟩
                  · rw [decide_eq_false p3] at hn0
                    have p3' : (tf xs k == tf xs (k - 1)) = false := by simpa using p3
                    have p3d : decide (tf xs k = tf xs (k - 1)) = false := decide_eq_false p3
                    have hn := Lib.hid hn0
                    clear hn0 p3 hsk p1
                    generalize tc xs k = v1 at *
                    generalize tc xs (k - 1) = v2 at *
                    generalize tf xs k = v3 at *
                    generalize tf xs (k - 1) = v4 at *
                    generalize k - 1 = km at *
                    go_wp2_with fail
                    refine wp_region_cb (by kernel_rfl) (by kernel_rfl) ?_
                    try simp only [List.append_eq, List.cons_append, List.nil_append]
                    repeat (first
                      | go_big_quiet_skip
                      | (go_big_quiet_want; first
                        | (refine q_oneY 30 _ rfl _ Try.underlying30 rfl (k * 3 + 1) rfl A1 _ e1 ?_; go_simp; go_big_quiet_on)
                        | (refine q_oneY 30 _ rfl _ Try.underlying30 rfl (km * 3 + 1) rfl A1 _ e2 ?_; go_simp; go_big_quiet_on)
                        | (refine q_oneY 30 _ rfl _ Try.underlying30 rfl (k * 3 + 2) rfl A1 _ e3 ?_; go_simp; go_big_quiet_on)
                        | (refine q_oneY 30 _ rfl _ Try.underlying30 rfl (km * 3 + 2) rfl A1 _ e4 ?_; go_simp; go_big_quiet_on)
                        | (go_big_quiet_op; go_big_quiet_on)))
                    refine wpQuiet_nil ?_
                    intro w5 hw5
                    have A5 := A1.step hw5
                    have B5 := Lib.hid (bthen B1.out hw5)
                    clear A1 B1 hC hw5
                    go_wp2_with fail
                    exact ⟨⟨k + 1, by omega, .inl (by omega), by go_num, by rw [hn.out]; rfl, A5, B5⟩, by simp [intOf]; omega⟩
                · rw [decide_eq_false p2] at hn0
                  have p2' : (tc xs k == tc xs (k - 1)) = false := by simpa using p2
                  have p2d : decide (tc xs k = tc xs (k - 1)) = false := decide_eq_false p2
                  have hn := Lib.hid hn0
                  clear hn0 p2 hsk p1
                  generalize tc xs k = v1 at *
                  generalize tc xs (k - 1) = v2 at *
                  generalize tf xs k = v3 at *
                  generalize tf xs (k - 1) = v4 at *
                  generalize k - 1 = km at *
                  go_wp2_with fail
                  refine wp_region_cb (by kernel_rfl) (by kernel_rfl) ?_
                  try simp only [List.append_eq, List.cons_append, List.nil_append]
                  repeat (first
                    | go_big_quiet_skip
                    | (go_big_quiet_want; first
                      | (refine q_oneY 30 _ rfl _ Try.underlying30 rfl (k * 3 + 1) rfl A1 _ e1 ?_; go_simp; go_big_quiet_on)
                      | (refine q_oneY 30 _ rfl _ Try.underlying30 rfl (km * 3 + 1) rfl A1 _ e2 ?_; go_simp; go_big_quiet_on)
                      | (refine q_oneY 30 _ rfl _ Try.underlying30 rfl (k * 3 + 2) rfl A1 _ e3 ?_; go_simp; go_big_quiet_on)
                      | (refine q_oneY 30 _ rfl _ Try.underlying30 rfl (km * 3 + 2) rfl A1 _ e4 ?_; go_simp; go_big_quiet_on)
                      | (go_big_quiet_op; go_big_quiet_on)))
                  refine wpQuiet_nil ?_
                  intro w5 hw5
                  have A5 := A1.step hw5
                  have B5 := Lib.hid (bthen B1.out hw5)
                  clear A1 B1 hC hw5
                  go_wp2_with fail
                  exact ⟨⟨k + 1, by omega, .inl (by omega), by go_num, by rw [hn.out]; rfl, A5, B5⟩, by simp [intOf]; omega⟩
              · rw [decide_eq_false p1] at hn0
                have p1' : ¬ tc xs k > 0 := p1
                have p1d : decide (tc xs k > 0) = false := decide_eq_false p1'
                have hn := Lib.hid hn0
                clear hn0 hsk p1
                generalize tc xs k = v1 at *
                generalize tc xs (k - 1) = v2 at *
                generalize tf xs k = v3 at *
                generalize tf xs (k - 1) = v4 at *
                generalize k - 1 = km at *
                go_wp2_with fail
                refine wp_region_cb (by kernel_rfl) (by kernel_rfl) ?_
                try simp only [List.append_eq, List.cons_append, List.nil_append]
                repeat (first
                  | go_big_quiet_skip
                  | (go_big_quiet_want; first
                    | (refine q_oneY 30 _ rfl _ Try.underlying30 rfl (k * 3 + 1) rfl A1 _ e1 ?_; go_simp; go_big_quiet_on)
                    | (refine q_oneY 30 _ rfl _ Try.underlying30 rfl (km * 3 + 1) rfl A1 _ e2 ?_; go_simp; go_big_quiet_on)
                    | (refine q_oneY 30 _ rfl _ Try.underlying30 rfl (k * 3 + 2) rfl A1 _ e3 ?_; go_simp; go_big_quiet_on)
                    | (refine q_oneY 30 _ rfl _ Try.underlying30 rfl (km * 3 + 2) rfl A1 _ e4 ?_; go_simp; go_big_quiet_on)
                    | (go_big_quiet_op; go_big_quiet_on)))
                refine wpQuiet_nil ?_
                intro w5 hw5
                have A5 := A1.step hw5
                have B5 := Lib.hid (bthen B1.out hw5)
                clear A1 B1 hC hw5
                go_wp2_with fail
                exact ⟨⟨k + 1, by omega, .inl (by omega), by go_num, by rw [hn.out]; rfl, A5, B5⟩, by simp [intOf]; omega⟩
            · rw [hsk] at hn0
              have hn := Lib.hid hn0
              clear hn0 hsk
              generalize tc xs k = v1 at *
              generalize tc xs (k - 1) = v2 at *
              generalize tf xs k = v3 at *
              generalize tf xs (k - 1) = v4 at *
              generalize k - 1 = km at *
              go_wp2_with fail
              refine wp_region_cb (by kernel_rfl) (by kernel_rfl) ?_
              try simp only [List.append_eq, List.cons_append, List.nil_append]
              repeat (first
                | go_big_quiet_skip
                | (go_big_quiet_want; first
                  | (refine q_oneY 30 _ rfl _ Try.underlying30 rfl (k * 3 + 1) rfl A1 _ e1 ?_; go_simp; go_big_quiet_on)
                  | (refine q_oneY 30 _ rfl _ Try.underlying30 rfl (km * 3 + 1) rfl A1 _ e2 ?_; go_simp; go_big_quiet_on)
                  | (refine q_oneY 30 _ rfl _ Try.underlying30 rfl (k * 3 + 2) rfl A1 _ e3 ?_; go_simp; go_big_quiet_on)
                  | (refine q_oneY 30 _ rfl _ Try.underlying30 rfl (km * 3 + 2) rfl A1 _ e4 ?_; go_simp; go_big_quiet_on)
                  | (go_big_quiet_op; go_big_quiet_on)))
              refine wpQuiet_nil ?_
              intro w5 hw5
              have A5 := A1.step hw5
              have B5 := Lib.hid (bthen B1.out hw5)
              clear A1 B1 hC hw5
              go_wp2_with fail
              exact ⟨⟨k + 1, by omega, .inl (by omega), by go_num, by rw [hn.out]; rfl, A5, B5⟩, by simp [intOf]; omega⟩
          · rw [sameK_end hk hlt, hsk2.out]
            clear hk1 hk
            go_wp2_with fail
            refine (KW wr A1).mono ?_
            rintro e w10 ⟨⟨v1, rfl, O10⟩, hb10⟩
            have A10 := A1.step hb10
            have B10 := Lib.hid (bthen B1.out hb10)
            clear A1 B1 hb10
            go_wp2_with fail
            refine (KSW w10 A10).mono ?_
            rintro e w11 ⟨⟨v2, rfl, P11⟩, hb11⟩
            have O11 := O10.step hb11
            have A11 := A10.step hb11
            have B11 := Lib.hid (bthen B10.out hb11)
            clear A10 B10 hb11
            clear O10
            obtain ⟨b2, d2, rfl⟩ := P11.any
            go_wp2_with fail
            refine (again_any hok hW P11).mono ?_
            rintro e w12 ⟨⟨v3, rfl, Q12⟩, hb12⟩
            have O12 := O11.step hb12
            have P12 := P11.step hb12
            have A12 := A11.step hb12
            have B12 := Lib.hid (bthen B11.out hb12)
            clear A11 B11 hb12
            clear O11 P11
            go_wp2_with fail
            refine (KC w12 A12).mono ?_
            rintro e w13 ⟨rfl, hb13⟩
            have O13 := O12.step hb13
            have P13 := P12.step hb13
            have Q13 := Q12.step hb13
            have A13 := A12.step hb13
            have B13 := Lib.hid (bthen B12.out hb13)
            clear A12 B12 hb13
            clear O12 P12 Q12
            have hcl := clK_len xs 10 (min xs.length 8)
            have HCL := Lib.hid (fun i (hi : i < 8) => clK_nth xs 10 (min xs.length 8) hi)
            have hYl : ((wrL xs 20 xs.length).length : Int) ≤ (xs.length : Int) := by have := wrL_len xs 20 xs.length; omega
            have hYW := wrL_w hW 20 xs.length (Nat.le_refl _)
            have hY6 : (wrL xs 20 xs.length).length ≤ 1048576 := by have := wrL_len xs 20 xs.length; omega
            have hYm : (wrL xs 20 xs.length).length ≤ maxLen := by have := wrL_len xs 20 xs.length; unfold maxLen; omega
            generalize wrL xs 20 xs.length = Y at *
            generalize clK xs 10 (min xs.length 8) = cl at *
            have N14 := At.new w13 (#[.bool false, .bool false, .bool false, .bool false, .bool false, .bool false, .bool false, .bool false]) 36
            have L14 := N14.setRow (bl cl)
            have hz8 : (bl cl).size = 8 := by rw [bl_size, hcl]
            have BN : Below w13.heap.size w13 ((w13.alloc (.cells (#[.bool false, .bool false, .bool false, .bool false, .bool false, .bool false, .bool false, .bool false]) 36)).setRow w13.heap.size (bl cl)) := bset (b0 _ _) (Nat.le_refl _) _
            have O14 := O13.step BN
            have P14 := P13.step BN
            have Q14 := Q13.step BN
            have A14 := A13.step BN
            have B14 := Lib.hid (bthen B13.out BN)
            clear A13 B13 BN
            clear O13 P13 Q13
            go_wp2_with (((with_reducible refine is_store 36 _ _ rfl ?_); refine wpList_store_at rfl 36 _ _ rfl _ rfl (bl cl) rfl (#[.bool false, .bool false, .bool false, .bool false, .bool false, .bool false, .bool false, .bool false]) _ N14 8 (hz8) (rfl) (by kernel_rfl) (bl_one _) ?_))
            clear N14
            generalize World.setRow _ w13.heap.size (bl cl) = w14 at A14 B14 L14 O14 P14 Q14 ⊢
            obtain ⟨gc, hgc⟩ : ∃ gc, gc = w13.heap.size := ⟨_, rfl⟩
            rw [← hgc] at L14 ⊢
            clear hgc
            refine (sSameTallies_st v1 _ Y hY6 w14 (O14.st hYW hYm) (P14.st hYW hYm)).mono ?_
            rintro e w15 ⟨rfl, hb15⟩
            have L15 := L14.step hb15
            have P15 := P14.step hb15
            have Q15 := Q14.step hb15
            have A15 := A14.step hb15
            have B15 := Lib.hid (bthen B14.out hb15)
            clear A14 B14 hb15
            clear L14 P14 Q14 O14
            go_wp2_with fail
            refine (sSameTallies_st v3 _ Y hY6 w15 (Q15.st hYW hYm) (P15.st hYW hYm)).mono ?_
            rintro e w16 ⟨rfl, hb16⟩
            have L16 := L15.step hb16
            have A16 := A15.step hb16
            have B16 := Lib.hid (bthen B15.out hb16)
            clear A15 B15 hb16
            clear L15 P15 Q15
            go_wp2_with fail
            go_loopw [33] (fun i wr => ∃ k : Nat, k ≤ 8 ∧ i = .int .i64 (k : Int) ∧ At wr gc (bl cl) 36 ∧ At wr ga (tY xs za) 32 ∧ Hid (Below w2.heap.size w2 wr)) (fun i _ => 8 - (intOf i).toNat)
            case atStart => exact ⟨0, by omega, rfl, L16, A16, B16⟩
            case round =>
              clear L16 A16 B16
              obtain ⟨k, hk, rfl, L1, A1, B1⟩ := hrel
              by_cases hlt : k < 8
              · have s2 : IntKind.i64.wrap ((k : Int) + 1) = (k : Int) + 1 := IntWalk.i64_in _ (by omega)
                have kd : (k : Int) < 8 := by omega
                have lc : (bl cl)[k]? = some (.bool (bn cl k)) := bl_get (by omega)
                have hv := HCL.out k hlt
                have hC := Cb.const wr
                by_cases hx : k < xs.length
                · have kx : (k : Int) < (xs.length : Int) := by omega
                  have e1 : (tY xs za)[k * 3 + 1]? = some (.int .i16 (tc xs k)) := tY_count hx rfl
                  rw [decide_eq_true (by omega : k < min xs.length 8), Bool.true_and] at hv
                  generalize bn cl k = bv at lc hv
                  generalize tc xs k = cv at e1 hv
                  by_cases hc : 10 ≤ cv
                  · rw [decide_eq_true hc] at hv
                    subst hv
                    have hc' : cv ≥ 10 := hc
                    go_wp2_with fail
                    refine wp_region_cb (by kernel_rfl) (by kernel_rfl) ?_
                    repeat (first
                      | go_big_quiet_skip
                      | (go_big_quiet_want; first
                        | (refine q_oneY 4 _ rfl _ Try.underlying4 rfl k rfl L1 _ lc ?_; go_simp; go_big_quiet_on)
                        | (refine q_oneY 30 _ rfl _ Try.underlying30 rfl (k * 3 + 1) rfl A1 _ e1 ?_; go_simp; go_big_quiet_on)
                        | (go_big_quiet_op; go_big_quiet_on)))
                    refine wpQuiet_nil ?_
                    intro w5 hw5
                    have L5 := L1.step hw5
                    have A5 := A1.step hw5
                    have B5 := Lib.hid (bthen B1.out hw5)
                    clear L1 A1 B1 hC hw5
                    go_wp2_with fail
                    exact ⟨⟨k + 1, by omega, by go_num, L5, A5, B5⟩, by simp [intOf]; omega⟩
                  · rw [decide_eq_false hc] at hv
                    subst hv
                    have hc' : ¬ cv ≥ 10 := hc
                    have hcd : decide (cv ≥ 10) = false := decide_eq_false hc'
                    go_wp2_with fail
                    refine wp_region_cb (by kernel_rfl) (by kernel_rfl) ?_
                    repeat (first
                      | go_big_quiet_skip
                      | (go_big_quiet_want; first
                        | (refine q_oneY 4 _ rfl _ Try.underlying4 rfl k rfl L1 _ lc ?_; go_simp; go_big_quiet_on)
                        | (refine q_oneY 30 _ rfl _ Try.underlying30 rfl (k * 3 + 1) rfl A1 _ e1 ?_; go_simp; go_big_quiet_on)
                        | (go_big_quiet_op; go_big_quiet_on)))
                    refine wpQuiet_nil ?_
                    intro w5 hw5
                    have L5 := L1.step hw5
                    have A5 := A1.step hw5
                    have B5 := Lib.hid (bthen B1.out hw5)
                    clear L1 A1 B1 hC hw5
                    go_wp2_with fail
                    exact ⟨⟨k + 1, by omega, by go_num, L5, A5, B5⟩, by simp [intOf]; omega⟩
                · have kx : ¬ (k : Int) < (xs.length : Int) := by omega
                  have kxd : decide ((k : Int) < (xs.length : Int)) = false := decide_eq_false kx
                  rw [decide_eq_false (by omega : ¬ k < min xs.length 8), Bool.false_and] at hv
                  generalize bn cl k = bv at lc hv
                  subst hv
                  go_wp2_with fail
                  refine wp_region_cb (by kernel_rfl) (by kernel_rfl) ?_
                  repeat (first
                    | go_big_quiet_skip
                    | (go_big_quiet_want; first
                      | (refine q_oneY 4 _ rfl _ Try.underlying4 rfl k rfl L1 _ lc ?_; go_simp; go_big_quiet_on)
                      | (go_big_quiet_op; go_big_quiet_on)))
                  refine wpQuiet_nil ?_
                  intro w5 hw5
                  have L5 := L1.step hw5
                  have A5 := A1.step hw5
                  have B5 := Lib.hid (bthen B1.out hw5)
                  clear L1 A1 B1 hC hw5
                  go_wp2_with fail
                  exact ⟨⟨k + 1, by omega, by go_num, L5, A5, B5⟩, by simp [intOf]; omega⟩
              · obtain rfl : k = 8 := by omega
                go_wp2_with fail
                go_ret
                exact ⟨rfl, B1.out⟩
      · rw [hv] at KI KS
        simp only at KI KS
        clear hv
        have hx := Lib.hid (anyT_yes (t := tn xs i0) xs.length i0 hi0 rfl)
        have hy := Lib.hid (anyT_yes (t := tn xs i0) ys.length k0 hk0 hik)
        clear hi0 hk0 hik
        generalize tn xs i0 = t at *
        refine (KI w6 A6 C6).mono ?_
        rintro e w7 ⟨rfl, hb7⟩
        have A7 := A6.step hb7
        have C7 := C6.step hb7
        have B7 := Lib.hid (bthen B6.out hb7)
        clear A6 C6 B6 hb7
        go_wp2_with fail
        refine (KS w7 A7 C7).mono ?_
        rintro e w8 ⟨rfl, hb8⟩
        have A8 := A7.step hb8
        have C8 := C7.step hb8
        have B8 := Lib.hid (bthen B7.out hb8)
        clear A7 C7 B7 hb8
        go_wp2_with fail
        refine (KN w8 A8).mono ?_
        rintro e w9 ⟨rfl, hb9⟩
        have A9 := A8.step hb9
        have C9 := C8.step hb9
        have B9 := Lib.hid (bthen B8.out hb9)
        clear A8 C8 B8 hb9
        clear KI KS KN
        go_wp2_with fail
        go_loopw [15, 17] (fun x i wr => ∃ k : Nat, k ≤ xs.length ∧ i = .int .i64 (k : Int) ∧ x = .bool (anyT xs t k) ∧ wr = w9) (fun _ i _ => xs.length - (intOf i).toNat)
        case atStart => exact ⟨0, by omega, rfl, rfl, rfl⟩
        case round =>
          obtain ⟨k, hk, rfl, rfl, hwr⟩ := hrel
          have hwr' := hwr.symm
          clear hwr
          subst hwr'
          by_cases hlt : k < xs.length
          · have s2 : IntKind.i64.wrap ((k : Int) + 1) = (k : Int) + 1 := IntWalk.i64_in _ (by omega)
            have kd : (k : Int) < (xs.length : Int) := by omega
            have c0 := A9.cell (tY_turn hlt (k := k * 3) rfl)
            have hn := Lib.hid (anyT_next xs t k)
            cases hav : anyT xs t k
            · rw [hav] at hn
              by_cases c : tn xs k = t
              · have c' : (tn xs k == t) = true := by simpa using c
                rw [c'] at hn
                have c2 : decide (tn xs k = t) = true := decide_eq_true c
                have HC := Lib.hid c
                clear c
                go_wp2_with fail
                exact ⟨⟨k + 1, by omega, by go_num, by rw [hn.out]; rfl, by trivial⟩, by simp [intOf]; omega⟩
              · have c' : (tn xs k == t) = false := by simpa using c
                rw [c'] at hn
                have c2 : decide (tn xs k = t) = false := decide_eq_false c
                go_wp2_with fail
                exact ⟨⟨k + 1, by omega, by go_num, by rw [hn.out]; rfl, by trivial⟩, by simp [intOf]; omega⟩
            · rw [hav] at hn
              go_wp2_with fail
              exact ⟨⟨k + 1, by omega, by go_num, by rw [hn.out]; rfl, by trivial⟩, by simp [intOf]; omega⟩
          · obtain rfl : k = xs.length := by omega
            rw [hx.out]
            go_wp2_with fail
            go_loopw [16, 18] (fun x i wr => ∃ k : Nat, k ≤ ys.length ∧ i = .int .i64 (k : Int) ∧ x = .bool (anyT ys t k) ∧ wr = w9) (fun _ i _ => ys.length - (intOf i).toNat)
            case atStart => exact ⟨0, by omega, rfl, rfl, rfl⟩
            case round =>
              obtain ⟨k, hk, rfl, rfl, hwr⟩ := hrel
              have hwr' := hwr.symm
              clear hwr
              subst hwr'
              by_cases hlt : k < ys.length
              · have s2 : IntKind.i64.wrap ((k : Int) + 1) = (k : Int) + 1 := IntWalk.i64_in _ (by omega)
                have kd : (k : Int) < (ys.length : Int) := by omega
                have c0 := C9.cell (tY_turn hlt (k := k * 3) rfl)
                have hn := Lib.hid (anyT_next ys t k)
                cases hav : anyT ys t k
                · rw [hav] at hn
                  by_cases c : tn ys k = t
                  · have c' : (tn ys k == t) = true := by simpa using c
                    rw [c'] at hn
                    have c2 : decide (tn ys k = t) = true := decide_eq_true c
                    have HC := Lib.hid c
                    clear c
                    go_wp2_with fail
                    exact ⟨⟨k + 1, by omega, by go_num, by rw [hn.out]; rfl, by trivial⟩, by simp [intOf]; omega⟩
                  · have c' : (tn ys k == t) = false := by simpa using c
                    rw [c'] at hn
                    have c2 : decide (tn ys k = t) = false := decide_eq_false c
                    go_wp2_with fail
                    exact ⟨⟨k + 1, by omega, by go_num, by rw [hn.out]; rfl, by trivial⟩, by simp [intOf]; omega⟩
                · rw [hav] at hn
                  go_wp2_with fail
                  exact ⟨⟨k + 1, by omega, by go_num, by rw [hn.out]; rfl, by trivial⟩, by simp [intOf]; omega⟩
              · obtain rfl : k = ys.length := by omega
                rw [hy.out]
                clear C9
                go_wp2_with fail
                refine (KF w9 A9).mono ?_
                rintro e w10 ⟨rfl, hb10⟩
                have A10 := A9.step hb10
                have B10 := Lib.hid (bthen B9.out hb10)
                clear A9 B9 hb10
                go_wp2_with fail
                refine (KSF w10 A10).mono ?_
                rintro e w1 ⟨rfl, hb1⟩
                have A1 := A10.step hb1
                have B1 := Lib.hid (bthen B10.out hb1)
                clear A10 B10 hb1
                go_wp2_with fail
                go_loopw [23, 24] (fun s i wr => ∃ k : Nat, 1 ≤ k ∧ (k ≤ xs.length ∨ k = 1) ∧ i = .int .i64 (k : Int) ∧ s = .bool (sameK xs k) ∧ At wr ga (tY xs za) 32 ∧ Hid (Below w2.heap.size w2 wr)) (fun _ i _ => xs.length - (intOf i).toNat)
                case atStart => exact ⟨1, by omega, .inr rfl, rfl, rfl, A1, B1⟩
                case round =>
                  clear A1 B1
                  obtain ⟨k, hk1, hk, rfl, rfl, A1, B1⟩ := hrel
                  by_cases hlt : k < xs.length
                  · have s2 : IntKind.i64.wrap ((k : Int) + 1) = (k : Int) + 1 := IntWalk.i64_in _ (by omega)
                    have s3 : IntKind.i64.wrap ((k : Int) - 1) = ((k - 1 : Nat) : Int) := by rw [IntWalk.i64_in _ (by omega)]; omega
                    have kd : (k : Int) < (xs.length : Int) := by omega
                    have km1 : ((k - 1 : Nat) : Int) < (xs.length : Int) := by omega
                    have e1 : (tY xs za)[k * 3 + 1]? = some (.int .i16 (tc xs k)) := tY_count hlt rfl
                    have e2 : (tY xs za)[(k - 1) * 3 + 1]? = some (.int .i16 (tc xs (k - 1))) := tY_count (by omega) rfl
                    have e3 : (tY xs za)[k * 3 + 2]? = some (.int .i16 (tf xs k)) := tY_full hlt rfl
                    have e4 : (tY xs za)[(k - 1) * 3 + 2]? = some (.int .i16 (tf xs (k - 1))) := tY_full (by omega) rfl
                    have hn0 := sameK_next (xs := xs) hk1
                    unfold sameTl at hn0
                    have hC := Cb.const wr
                    cases hsk : sameK xs k
                    · rw [hsk] at hn0
                      by_cases p1 : 0 < tc xs k
                      · rw [decide_eq_true p1] at hn0
                        have p1' : tc xs k > 0 := p1
                        by_cases p2 : tc xs k = tc xs (k - 1)
                        · rw [decide_eq_true p2] at hn0
                          have p2' : (tc xs k == tc xs (k - 1)) = true := by simpa using p2
                          have p2d : decide (tc xs k = tc xs (k - 1)) = true := decide_eq_true p2
                          clear p2
                          by_cases p3 : tf xs k = tf xs (k - 1)
                          · rw [decide_eq_true p3] at hn0
                            have p3' : (tf xs k == tf xs (k - 1)) = true := by simpa using p3
                            have p3d : decide (tf xs k = tf xs (k - 1)) = true := decide_eq_true p3
                            have hn := Lib.hid hn0
                            clear hn0 p3 hsk p1
                            generalize tc xs k = v1 at *
                            generalize tc xs (k - 1) = v2 at *
                            generalize tf xs k = v3 at *
                            generalize tf xs (k - 1) = v4 at *
                            generalize k - 1 = km at *
                            go_wp2_with fail
                            refine wp_region_cb (by kernel_rfl) (by kernel_rfl) ?_
                            try simp only [List.append_eq, List.cons_append, List.nil_append]
                            repeat (first
                              | go_big_quiet_skip
                              | (go_big_quiet_want; first
                                | (refine q_oneY 30 _ rfl _ Try.underlying30 rfl (k * 3 + 1) rfl A1 _ e1 ?_; go_simp; go_big_quiet_on)
                                | (refine q_oneY 30 _ rfl _ Try.underlying30 rfl (km * 3 + 1) rfl A1 _ e2 ?_; go_simp; go_big_quiet_on)
                                | (refine q_oneY 30 _ rfl _ Try.underlying30 rfl (k * 3 + 2) rfl A1 _ e3 ?_; go_simp; go_big_quiet_on)
                                | (refine q_oneY 30 _ rfl _ Try.underlying30 rfl (km * 3 + 2) rfl A1 _ e4 ?_; go_simp; go_big_quiet_on)
                                | (go_big_quiet_op; go_big_quiet_on)))
                            refine wpQuiet_nil ?_
                            intro w5 hw5
                            have A5 := A1.step hw5
                            have B5 := Lib.hid (bthen B1.out hw5)
                            clear A1 B1 hC hw5
                            go_wp2_with fail
                            exact ⟨⟨k + 1, by omega, .inl (by omega), by go_num, by rw [hn.out]; rfl, A5, B5⟩, by simp [intOf]; omega⟩
                          · rw [decide_eq_false p3] at hn0
                            have p3' : (tf xs k == tf xs (k - 1)) = false := by simpa using p3
                            have p3d : decide (tf xs k = tf xs (k - 1)) = false := decide_eq_false p3
                            have hn := Lib.hid hn0
                            clear hn0 p3 hsk p1
                            generalize tc xs k = v1 at *
                            generalize tc xs (k - 1) = v2 at *
                            generalize tf xs k = v3 at *
                            generalize tf xs (k - 1) = v4 at *
                            generalize k - 1 = km at *
                            go_wp2_with fail
                            refine wp_region_cb (by kernel_rfl) (by kernel_rfl) ?_
                            try simp only [List.append_eq, List.cons_append, List.nil_append]
                            repeat (first
                              | go_big_quiet_skip
                              | (go_big_quiet_want; first
                                | (refine q_oneY 30 _ rfl _ Try.underlying30 rfl (k * 3 + 1) rfl A1 _ e1 ?_; go_simp; go_big_quiet_on)
                                | (refine q_oneY 30 _ rfl _ Try.underlying30 rfl (km * 3 + 1) rfl A1 _ e2 ?_; go_simp; go_big_quiet_on)
                                | (refine q_oneY 30 _ rfl _ Try.underlying30 rfl (k * 3 + 2) rfl A1 _ e3 ?_; go_simp; go_big_quiet_on)
                                | (refine q_oneY 30 _ rfl _ Try.underlying30 rfl (km * 3 + 2) rfl A1 _ e4 ?_; go_simp; go_big_quiet_on)
                                | (go_big_quiet_op; go_big_quiet_on)))
                            refine wpQuiet_nil ?_
                            intro w5 hw5
                            have A5 := A1.step hw5
                            have B5 := Lib.hid (bthen B1.out hw5)
                            clear A1 B1 hC hw5
                            go_wp2_with fail
                            exact ⟨⟨k + 1, by omega, .inl (by omega), by go_num, by rw [hn.out]; rfl, A5, B5⟩, by simp [intOf]; omega⟩
                        · rw [decide_eq_false p2] at hn0
                          have p2' : (tc xs k == tc xs (k - 1)) = false := by simpa using p2
                          have p2d : decide (tc xs k = tc xs (k - 1)) = false := decide_eq_false p2
                          have hn := Lib.hid hn0
                          clear hn0 p2 hsk p1
                          generalize tc xs k = v1 at *
                          generalize tc xs (k - 1) = v2 at *
                          generalize tf xs k = v3 at *
                          generalize tf xs (k - 1) = v4 at *
                          generalize k - 1 = km at *
                          go_wp2_with fail
                          refine wp_region_cb (by kernel_rfl) (by kernel_rfl) ?_
                          try simp only [List.append_eq, List.cons_append, List.nil_append]
                          repeat (first
                            | go_big_quiet_skip
                            | (go_big_quiet_want; first
                              | (refine q_oneY 30 _ rfl _ Try.underlying30 rfl (k * 3 + 1) rfl A1 _ e1 ?_; go_simp; go_big_quiet_on)
                              | (refine q_oneY 30 _ rfl _ Try.underlying30 rfl (km * 3 + 1) rfl A1 _ e2 ?_; go_simp; go_big_quiet_on)
                              | (refine q_oneY 30 _ rfl _ Try.underlying30 rfl (k * 3 + 2) rfl A1 _ e3 ?_; go_simp; go_big_quiet_on)
                              | (refine q_oneY 30 _ rfl _ Try.underlying30 rfl (km * 3 + 2) rfl A1 _ e4 ?_; go_simp; go_big_quiet_on)
                              | (go_big_quiet_op; go_big_quiet_on)))
                          refine wpQuiet_nil ?_
                          intro w5 hw5
                          have A5 := A1.step hw5
                          have B5 := Lib.hid (bthen B1.out hw5)
                          clear A1 B1 hC hw5
                          go_wp2_with fail
                          exact ⟨⟨k + 1, by omega, .inl (by omega), by go_num, by rw [hn.out]; rfl, A5, B5⟩, by simp [intOf]; omega⟩
                      · rw [decide_eq_false p1] at hn0
                        have p1' : ¬ tc xs k > 0 := p1
                        have p1d : decide (tc xs k > 0) = false := decide_eq_false p1'
                        have hn := Lib.hid hn0
                        clear hn0 hsk p1
                        generalize tc xs k = v1 at *
                        generalize tc xs (k - 1) = v2 at *
                        generalize tf xs k = v3 at *
                        generalize tf xs (k - 1) = v4 at *
                        generalize k - 1 = km at *
                        go_wp2_with fail
                        refine wp_region_cb (by kernel_rfl) (by kernel_rfl) ?_
                        try simp only [List.append_eq, List.cons_append, List.nil_append]
                        repeat (first
                          | go_big_quiet_skip
                          | (go_big_quiet_want; first
                            | (refine q_oneY 30 _ rfl _ Try.underlying30 rfl (k * 3 + 1) rfl A1 _ e1 ?_; go_simp; go_big_quiet_on)
                            | (refine q_oneY 30 _ rfl _ Try.underlying30 rfl (km * 3 + 1) rfl A1 _ e2 ?_; go_simp; go_big_quiet_on)
                            | (refine q_oneY 30 _ rfl _ Try.underlying30 rfl (k * 3 + 2) rfl A1 _ e3 ?_; go_simp; go_big_quiet_on)
                            | (refine q_oneY 30 _ rfl _ Try.underlying30 rfl (km * 3 + 2) rfl A1 _ e4 ?_; go_simp; go_big_quiet_on)
                            | (go_big_quiet_op; go_big_quiet_on)))
                        refine wpQuiet_nil ?_
                        intro w5 hw5
                        have A5 := A1.step hw5
                        have B5 := Lib.hid (bthen B1.out hw5)
                        clear A1 B1 hC hw5
                        go_wp2_with fail
                        exact ⟨⟨k + 1, by omega, .inl (by omega), by go_num, by rw [hn.out]; rfl, A5, B5⟩, by simp [intOf]; omega⟩
                    · rw [hsk] at hn0
                      have hn := Lib.hid hn0
                      clear hn0 hsk
                      generalize tc xs k = v1 at *
                      generalize tc xs (k - 1) = v2 at *
                      generalize tf xs k = v3 at *
                      generalize tf xs (k - 1) = v4 at *
                      generalize k - 1 = km at *
                      go_wp2_with fail
                      refine wp_region_cb (by kernel_rfl) (by kernel_rfl) ?_
                      try simp only [List.append_eq, List.cons_append, List.nil_append]
                      repeat (first
                        | go_big_quiet_skip
                        | (go_big_quiet_want; first
                          | (refine q_oneY 30 _ rfl _ Try.underlying30 rfl (k * 3 + 1) rfl A1 _ e1 ?_; go_simp; go_big_quiet_on)
                          | (refine q_oneY 30 _ rfl _ Try.underlying30 rfl (km * 3 + 1) rfl A1 _ e2 ?_; go_simp; go_big_quiet_on)
                          | (refine q_oneY 30 _ rfl _ Try.underlying30 rfl (k * 3 + 2) rfl A1 _ e3 ?_; go_simp; go_big_quiet_on)
                          | (refine q_oneY 30 _ rfl _ Try.underlying30 rfl (km * 3 + 2) rfl A1 _ e4 ?_; go_simp; go_big_quiet_on)
                          | (go_big_quiet_op; go_big_quiet_on)))
                      refine wpQuiet_nil ?_
                      intro w5 hw5
                      have A5 := A1.step hw5
                      have B5 := Lib.hid (bthen B1.out hw5)
                      clear A1 B1 hC hw5
                      go_wp2_with fail
                      exact ⟨⟨k + 1, by omega, .inl (by omega), by go_num, by rw [hn.out]; rfl, A5, B5⟩, by simp [intOf]; omega⟩
                  · rw [sameK_end hk hlt, hsk2.out]
                    clear hk1 hk
                    go_wp2_with fail
                    refine (KW wr A1).mono ?_
                    rintro e w10 ⟨⟨v1, rfl, O10⟩, hb10⟩
                    have A10 := A1.step hb10
                    have B10 := Lib.hid (bthen B1.out hb10)
                    clear A1 B1 hb10
                    go_wp2_with fail
                    refine (KSW w10 A10).mono ?_
                    rintro e w11 ⟨⟨v2, rfl, P11⟩, hb11⟩
                    have O11 := O10.step hb11
                    have A11 := A10.step hb11
                    have B11 := Lib.hid (bthen B10.out hb11)
                    clear A10 B10 hb11
                    clear O10
                    obtain ⟨b2, d2, rfl⟩ := P11.any
                    go_wp2_with fail
                    refine (again_any hok hW P11).mono ?_
                    rintro e w12 ⟨⟨v3, rfl, Q12⟩, hb12⟩
                    have O12 := O11.step hb12
                    have P12 := P11.step hb12
                    have A12 := A11.step hb12
                    have B12 := Lib.hid (bthen B11.out hb12)
                    clear A11 B11 hb12
                    clear O11 P11
                    go_wp2_with fail
                    refine (KC w12 A12).mono ?_
                    rintro e w13 ⟨rfl, hb13⟩
                    have O13 := O12.step hb13
                    have P13 := P12.step hb13
                    have Q13 := Q12.step hb13
                    have A13 := A12.step hb13
                    have B13 := Lib.hid (bthen B12.out hb13)
                    clear A12 B12 hb13
                    clear O12 P12 Q12
                    have hcl := clK_len xs 10 (min xs.length 8)
                    have HCL := Lib.hid (fun i (hi : i < 8) => clK_nth xs 10 (min xs.length 8) hi)
                    have hYl : ((wrL xs 20 xs.length).length : Int) ≤ (xs.length : Int) := by have := wrL_len xs 20 xs.length; omega
                    have hYW := wrL_w hW 20 xs.length (Nat.le_refl _)
                    have hY6 : (wrL xs 20 xs.length).length ≤ 1048576 := by have := wrL_len xs 20 xs.length; omega
                    have hYm : (wrL xs 20 xs.length).length ≤ maxLen := by have := wrL_len xs 20 xs.length; unfold maxLen; omega
                    generalize wrL xs 20 xs.length = Y at *
                    generalize clK xs 10 (min xs.length 8) = cl at *
                    have N14 := At.new w13 (#[.bool false, .bool false, .bool false, .bool false, .bool false, .bool false, .bool false, .bool false]) 36
                    have L14 := N14.setRow (bl cl)
                    have hz8 : (bl cl).size = 8 := by rw [bl_size, hcl]
                    have BN : Below w13.heap.size w13 ((w13.alloc (.cells (#[.bool false, .bool false, .bool false, .bool false, .bool false, .bool false, .bool false, .bool false]) 36)).setRow w13.heap.size (bl cl)) := bset (b0 _ _) (Nat.le_refl _) _
                    have O14 := O13.step BN
                    have P14 := P13.step BN
                    have Q14 := Q13.step BN
                    have A14 := A13.step BN
                    have B14 := Lib.hid (bthen B13.out BN)
                    clear A13 B13 BN
                    clear O13 P13 Q13
                    go_wp2_with (((with_reducible refine is_store 36 _ _ rfl ?_); refine wpList_store_at rfl 36 _ _ rfl _ rfl (bl cl) rfl (#[.bool false, .bool false, .bool false, .bool false, .bool false, .bool false, .bool false, .bool false]) _ N14 8 (hz8) (rfl) (by kernel_rfl) (bl_one _) ?_))
                    clear N14
                    generalize World.setRow _ w13.heap.size (bl cl) = w14 at A14 B14 L14 O14 P14 Q14 ⊢
                    obtain ⟨gc, hgc⟩ : ∃ gc, gc = w13.heap.size := ⟨_, rfl⟩
                    rw [← hgc] at L14 ⊢
                    clear hgc
                    refine (sSameTallies_st v1 _ Y hY6 w14 (O14.st hYW hYm) (P14.st hYW hYm)).mono ?_
                    rintro e w15 ⟨rfl, hb15⟩
                    have L15 := L14.step hb15
                    have P15 := P14.step hb15
                    have Q15 := Q14.step hb15
                    have A15 := A14.step hb15
                    have B15 := Lib.hid (bthen B14.out hb15)
                    clear A14 B14 hb15
                    clear L14 P14 Q14 O14
                    go_wp2_with fail
                    refine (sSameTallies_st v3 _ Y hY6 w15 (Q15.st hYW hYm) (P15.st hYW hYm)).mono ?_
                    rintro e w16 ⟨rfl, hb16⟩
                    have L16 := L15.step hb16
                    have A16 := A15.step hb16
                    have B16 := Lib.hid (bthen B15.out hb16)
                    clear A15 B15 hb16
                    clear L15 P15 Q15
                    go_wp2_with fail
                    go_loopw [33] (fun i wr => ∃ k : Nat, k ≤ 8 ∧ i = .int .i64 (k : Int) ∧ At wr gc (bl cl) 36 ∧ At wr ga (tY xs za) 32 ∧ Hid (Below w2.heap.size w2 wr)) (fun i _ => 8 - (intOf i).toNat)
                    case atStart => exact ⟨0, by omega, rfl, L16, A16, B16⟩
                    case round =>
                      clear L16 A16 B16
                      obtain ⟨k, hk, rfl, L1, A1, B1⟩ := hrel
                      by_cases hlt : k < 8
                      · have s2 : IntKind.i64.wrap ((k : Int) + 1) = (k : Int) + 1 := IntWalk.i64_in _ (by omega)
                        have kd : (k : Int) < 8 := by omega
                        have lc : (bl cl)[k]? = some (.bool (bn cl k)) := bl_get (by omega)
                        have hv := HCL.out k hlt
                        have hC := Cb.const wr
                        by_cases hx : k < xs.length
                        · have kx : (k : Int) < (xs.length : Int) := by omega
                          have e1 : (tY xs za)[k * 3 + 1]? = some (.int .i16 (tc xs k)) := tY_count hx rfl
                          rw [decide_eq_true (by omega : k < min xs.length 8), Bool.true_and] at hv
                          generalize bn cl k = bv at lc hv
                          generalize tc xs k = cv at e1 hv
                          by_cases hc : 10 ≤ cv
                          · rw [decide_eq_true hc] at hv
                            subst hv
                            have hc' : cv ≥ 10 := hc
                            go_wp2_with fail
                            refine wp_region_cb (by kernel_rfl) (by kernel_rfl) ?_
                            repeat (first
                              | go_big_quiet_skip
                              | (go_big_quiet_want; first
                                | (refine q_oneY 4 _ rfl _ Try.underlying4 rfl k rfl L1 _ lc ?_; go_simp; go_big_quiet_on)
                                | (refine q_oneY 30 _ rfl _ Try.underlying30 rfl (k * 3 + 1) rfl A1 _ e1 ?_; go_simp; go_big_quiet_on)
                                | (go_big_quiet_op; go_big_quiet_on)))
                            refine wpQuiet_nil ?_
                            intro w5 hw5
                            have L5 := L1.step hw5
                            have A5 := A1.step hw5
                            have B5 := Lib.hid (bthen B1.out hw5)
                            clear L1 A1 B1 hC hw5
                            go_wp2_with fail
                            exact ⟨⟨k + 1, by omega, by go_num, L5, A5, B5⟩, by simp [intOf]; omega⟩
                          · rw [decide_eq_false hc] at hv
                            subst hv
                            have hc' : ¬ cv ≥ 10 := hc
                            have hcd : decide (cv ≥ 10) = false := decide_eq_false hc'
                            go_wp2_with fail
                            refine wp_region_cb (by kernel_rfl) (by kernel_rfl) ?_
                            repeat (first
                              | go_big_quiet_skip
                              | (go_big_quiet_want; first
                                | (refine q_oneY 4 _ rfl _ Try.underlying4 rfl k rfl L1 _ lc ?_; go_simp; go_big_quiet_on)
                                | (refine q_oneY 30 _ rfl _ Try.underlying30 rfl (k * 3 + 1) rfl A1 _ e1 ?_; go_simp; go_big_quiet_on)
                                | (go_big_quiet_op; go_big_quiet_on)))
                            refine wpQuiet_nil ?_
                            intro w5 hw5
                            have L5 := L1.step hw5
                            have A5 := A1.step hw5
                            have B5 := Lib.hid (bthen B1.out hw5)
                            clear L1 A1 B1 hC hw5
                            go_wp2_with fail
                            exact ⟨⟨k + 1, by omega, by go_num, L5, A5, B5⟩, by simp [intOf]; omega⟩
                        · have kx : ¬ (k : Int) < (xs.length : Int) := by omega
                          have kxd : decide ((k : Int) < (xs.length : Int)) = false := decide_eq_false kx
                          rw [decide_eq_false (by omega : ¬ k < min xs.length 8), Bool.false_and] at hv
                          generalize bn cl k = bv at lc hv
                          subst hv
                          go_wp2_with fail
                          refine wp_region_cb (by kernel_rfl) (by kernel_rfl) ?_
                          repeat (first
                            | go_big_quiet_skip
                            | (go_big_quiet_want; first
                              | (refine q_oneY 4 _ rfl _ Try.underlying4 rfl k rfl L1 _ lc ?_; go_simp; go_big_quiet_on)
                              | (go_big_quiet_op; go_big_quiet_on)))
                          refine wpQuiet_nil ?_
                          intro w5 hw5
                          have L5 := L1.step hw5
                          have A5 := A1.step hw5
                          have B5 := Lib.hid (bthen B1.out hw5)
                          clear L1 A1 B1 hC hw5
                          go_wp2_with fail
                          exact ⟨⟨k + 1, by omega, by go_num, L5, A5, B5⟩, by simp [intOf]; omega⟩
                      · obtain rfl : k = 8 := by omega
                        go_wp2_with fail
                        go_ret
                        exact ⟨rfl, B1.out⟩

set_option maxRecDepth 100000 in
theorem lifted (os : Os) (started : os.Started) (H : Type) (enc : TypeId × Value → H) :
    ReturnsInHanded {} Try.checked os 3 .any (Rows.fnIncidentsSpec.pre6 enc Try.prog Try.f3 Rows.fnIncidentsRow.domain false) (Rows.fnIncidentsSpec.post enc Try.prog Try.f3 false true false false) := by
  refine law_liftedS enc os started (by kernel_rfl) Try.func3
    (ChangeSpec.witness6 (enc := enc) (C := Try.checked) false ⟨#[], #[.slice none 0 0, .slice none 0 0], []⟩ 24 (by kernel_rfl) (by kernel_rfl) (by kernel_rfl) (by kernel_rfl)) rfl (by kernel_rfl) ?_ ?_ ?_
  · rw [Try.params3]
    intro t ht
    have hall : (#[22, 22].toList.all fun u => Try.prog.readableRec u && decide (u < Try.prog.types.size)) = true := by kernel_rfl
    have := List.all_eq_true.1 hall t ht
    simpa using this
  · intro ds h
    rw [Try.params3] at h
    match ds, h with
    | [d0, d1], _ => rfl
  · intro W base args ds ps hl hval hA
    rw [Try.params3] at hl hval hA
    obtain ⟨v0, v1, rfl⟩ : ∃ v0 v1, args = #[v0, v1] := by
      obtain ⟨l⟩ := args
      match l, hl with
      | [v0, v1], _ => exact ⟨v0, v1, rfl⟩
    obtain ⟨vx0, vy0, dd0, de0, pp0, pq0, ee0, -, -, tr0, rr0⟩ := trodAll_cons hA
    obtain ⟨rfl, rfl⟩ := List.cons.inj ee0
    obtain ⟨vx1, vy1, dd1, de1, pp1, pq1, ee1, -, -, tr1, rr1⟩ := trodAll_cons rr0
    obtain ⟨rfl, rfl⟩ := List.cons.inj ee1
    obtain ⟨a0, c0, x0, rfl, h0⟩ := shape_bytes Try.underlying22 Try.underlying5 (by kernel_rfl) (okWide_slice Try.underlying22 (hval 0 _ _ rfl rfl)) tr0
    obtain ⟨a1, c1, x1, rfl, h1⟩ := shape_bytes Try.underlying22 Try.underlying5 (by kernel_rfl) (okWide_slice Try.underlying22 (hval 1 _ _ rfl rfl)) tr1
    exact walk W a0 c0 x0 h0 a1 c1 x1 h1

/-- THE STATEMENT -/
theorem proved : Rows.FnIncidentsSaid := by
  first
    | (refine OpenClaim.holds_of_wide 3 Try.f3 rfl rfl rfl rfl rfl rfl rfl ⟨rfl, rfl, rfl, rfl, rfl⟩ rfl rfl rfl rfl rfl (by kernel_rfl) Try.func3 (by kernel_rfl) (of_decide_eq_true (by kernel_rfl)) ?_ (fun os started H enc _ => lifted os started H enc))
    | (refine OpenClaim.holds_of_wide_leaving 3 Try.f3 rfl rfl rfl rfl rfl rfl rfl ⟨rfl, rfl, rfl, rfl, rfl⟩ rfl rfl rfl rfl rfl (by kernel_rfl) Try.func3 (by kernel_rfl) (of_decide_eq_true (by kernel_rfl)) ?_ (fun os started H enc _ => leaving_of_handed (lifted os started H enc)))
  unfold Func.isWrapper
  first | (rw [if_pos (by decide +kernel)]; kernel_rfl) | (rw [if_neg (by decide +kernel)]; exact ⟨rfl, rfl⟩)
#print axioms proved
end Go.Proofs.Ytejbaoakpkpciaa.lawFnIncidents
