/-
  CONTRACTS: ValidTallies, at tallies with a capacity.
-/
import Derived.Test.YtejbaoakpkpciaaG12
import Derived.Test.YtejbaoakpkpciaaVTlI
namespace Go.Proofs.Ytejbaoakpkpciaa
open Go Go.ChangeShapes Go.WideShapes Go.ChangeAt Go.RowKit
set_option maxRecDepth 100000

set_option maxHeartbeats 2000000 in
theorem ValidTallies_anyY (zx : Array Value) (G : Nat) (xs : Ts) (cap : Nat) (_hW : TW xs) (hn : xs.length ≤ 1048576) (T : TypeId) (w : World) (h0 : At w G (tY xs zx) T) :
    Calls Try.prog 18 #[(.slice (some ⟨G, 0, none⟩) xs.length cap)] w fun e w' => e = .returned (.bool (okT xs)) ∧ Below w.heap.size w w' := by
  have HX := Lib.hid h0
  obtain ⟨n, hnn⟩ : ∃ n, n = xs.length := ⟨_, rfl⟩
  rw [← hnn] at hn ⊢
  have HN := Lib.hid hnn
  clear hnn h0
  by_cases h96 : n ≤ 96
  · go_enter Try.func18, Try.ntmps18
    go_wp2
    go_loopw [10] (fun i wr => ∃ k : Nat, k ≤ n ∧ i = .int .i64 (k : Int) ∧ At wr G (tY xs zx) T ∧ Hid (Below w.heap.size w wr) ∧ Hid (okTk xs k = true)) (fun i _ => n - (intOf i).toNat)
    case atStart => exact ⟨0, by omega, rfl, HX.out, Lib.hid (Below.refl _ _), Lib.hid rfl⟩
    case round =>
      obtain ⟨k, hk, rfl, A1, B1, hok⟩ := hrel
      by_cases hlt : k < n
      · have s2 : IntKind.i64.wrap ((k : Int) + 1) = (k : Int) + 1 := IntWalk.i64_in _ (by omega)
        have kd : (k : Int) < (n : Int) := by omega
        have hkl : k < xs.length := by rw [← HN.out]; exact hlt
        have hsl := tY_tally zx hkl (k := k * 3) rfl
        have SS := tY_size xs zx
        have hle : k * 3 + 3 ≤ (tY xs zx).size := by omega
        have N0 := At.new wr #[.int .i64 0, .int .i16 0, .int .i16 0] 32
        have N1 := N0.setRow (t1 (tn xs k) (tc xs k) (tf xs k))
        have c0 := N1.cell (t1_0 _ _ _)
        have A2 := (A1.alloc (.cells #[.int .i64 0, .int .i16 0, .int .i16 0] 32)).setRow_other (k := wr.heap.size) (Nat.ne_of_lt A1.lt) (t1 (tn xs k) (tc xs k) (tf xs k))
        have B2 := Lib.hid (bset (bnew B1.out (.cells #[.int .i64 0, .int .i16 0, .int .i16 0] 32)) (g := wr.heap.size) B1.out.size (t1 (tn xs k) (tc xs k) (tf xs k)))
        clear B1 SS
        have KT := isTurn_b (tn xs k)
        by_cases p0 : 0 ≤ tn xs k
        · by_cases p1 : tn xs k ≤ 65535
          · by_cases p2 : 0 ≤ tc xs k
            · by_cases p3 : 0 ≤ tf xs k
              · by_cases p4 : tf xs k ≤ 1000
                · have e2 : decide (tc xs k < 0) = false := decide_eq_false (by omega)
                  have e3 : decide (tf xs k < 0) = false := decide_eq_false (by omega)
                  have e4 : decide (tf xs k > 1000) = false := decide_eq_false (by omega)
                  rw [show inB 0 65535 (tn xs k) = true from decide_eq_true ⟨p0, p1⟩] at KT
                  by_cases z : k = 0
                  · have hv := Lib.hid (okTk_next hok.out (okOne_yes ⟨p0, p1⟩ p2 p3 p4 (.inl z)))
                    have kz : ¬ 0 < k := by omega
                    clear hkl z
                    go_wp2_with (first | ((with_reducible refine is_load 32 _ rfl ?_); refine wpList_load_part rfl 32 _ rfl _ (k * 3) rfl (tY xs zx) _ (by with_reducible assumption) 3 (hle) _ Try.underlying32 rfl (by kernel_rfl) ((t1 (tn xs k) (tc xs k) (tf xs k))) (hsl) ?_) | ((with_reducible refine is_store 32 _ _ rfl ?_); refine wpList_store_at rfl 32 _ _ rfl _ rfl ((t1 (tn xs k) (tc xs k) (tf xs k))) rfl (#[.int .i64 0, .int .i16 0, .int .i16 0]) _ (by with_reducible assumption) 3 (t1_size _ _ _) (rfl) (by kernel_rfl) (t1_one _ _ _) ?_))
                    refine (KT _).mono ?_
                    rintro e w3 ⟨rfl, n3, rfl⟩
                    clear c0 KT
                    have N3 := N1.drewN n3
                    have A3 := A2.drewN n3
                    have B3 := Lib.hid (bdrew B2.out n3)
                    generalize World.drewN _ n3 = w3 at N3 A3 B3 ⊢
                    clear N0 N1 A1 A2 B2 hsl hle
                    have c0 := N3.cell (t1_0 _ _ _)
                    have c1 := N3.cell (t1_1 _ _ _)
                    have c2 := N3.cell (t1_2 _ _ _)
                    have H3 := Lib.hid A3
                    clear N3 A3
                    go_wp2
                    go_quiet (fail)
                    go_wp2
                    exact ⟨⟨k + 1, by omega, by go_num, H3.out.drewN _, Lib.hid (bdrew B3.out _), hv⟩, by simp [intOf]; omega⟩
                  · have hkp : k - 1 < xs.length := by omega
                    have s3 : IntKind.i64.wrap ((k : Int) - 1) = ((k - 1 : Nat) : Int) := by rw [IntWalk.i64_in _ (by omega)]; omega
                    have kz : 0 < k := by omega
                    have kn : ((k - 1 : Nat) : Int) < (n : Int) := by omega
                    have kn0 : (0 : Int) ≤ ((k - 1 : Nat) : Int) := by omega
                    by_cases p5 : tn xs (k - 1) < tn xs k
                    · have hv := Lib.hid (okTk_next hok.out (okOne_yes ⟨p0, p1⟩ p2 p3 p4 (.inr p5)))
                      go_wp2_with (first | ((with_reducible refine is_load 32 _ rfl ?_); refine wpList_load_part rfl 32 _ rfl _ (k * 3) rfl (tY xs zx) _ (by with_reducible assumption) 3 (hle) _ Try.underlying32 rfl (by kernel_rfl) ((t1 (tn xs k) (tc xs k) (tf xs k))) (hsl) ?_) | ((with_reducible refine is_store 32 _ _ rfl ?_); refine wpList_store_at rfl 32 _ _ rfl _ rfl ((t1 (tn xs k) (tc xs k) (tf xs k))) rfl (#[.int .i64 0, .int .i16 0, .int .i16 0]) _ (by with_reducible assumption) 3 (t1_size _ _ _) (rfl) (by kernel_rfl) (t1_one _ _ _) ?_))
                      refine (KT _).mono ?_
                      rintro e w3 ⟨rfl, n3, rfl⟩
                      clear c0 KT
                      have N3 := N1.drewN n3
                      have A3 := A2.drewN n3
                      have B3 := Lib.hid (bdrew B2.out n3)
                      generalize World.drewN _ n3 = w3 at N3 A3 B3 ⊢
                      clear N0 N1 A1 A2 B2 hsl hle
                      have c0 := N3.cell (t1_0 _ _ _)
                      have c1 := N3.cell (t1_1 _ _ _)
                      have c2 := N3.cell (t1_2 _ _ _)
                      have H3 := Lib.hid A3
                      clear N3 A3
                      have g0 : w3.cell? ⟨G, (k - 1) * 3, none⟩ = some (.int .i64 (tn xs (k - 1))) := H3.out.cell (tY_turn hkp rfl)
                      generalize k - 1 = k' at *
                      clear hkl hkp
                      go_wp2
                      go_quiet (fail)
                      go_wp2
                      exact ⟨⟨k + 1, by omega, by go_num, H3.out.drewN _, Lib.hid (bdrew B3.out _), hv⟩, by simp [intOf]; omega⟩
                    · have hv := Lib.hid (okT_no hkl (okOne_5 (by omega) p5))
                      go_wp2_with (first | ((with_reducible refine is_load 32 _ rfl ?_); refine wpList_load_part rfl 32 _ rfl _ (k * 3) rfl (tY xs zx) _ (by with_reducible assumption) 3 (hle) _ Try.underlying32 rfl (by kernel_rfl) ((t1 (tn xs k) (tc xs k) (tf xs k))) (hsl) ?_) | ((with_reducible refine is_store 32 _ _ rfl ?_); refine wpList_store_at rfl 32 _ _ rfl _ rfl ((t1 (tn xs k) (tc xs k) (tf xs k))) rfl (#[.int .i64 0, .int .i16 0, .int .i16 0]) _ (by with_reducible assumption) 3 (t1_size _ _ _) (rfl) (by kernel_rfl) (t1_one _ _ _) ?_))
                      refine (KT _).mono ?_
                      rintro e w3 ⟨rfl, n3, rfl⟩
                      clear c0 KT
                      have N3 := N1.drewN n3
                      have A3 := A2.drewN n3
                      have B3 := Lib.hid (bdrew B2.out n3)
                      generalize World.drewN _ n3 = w3 at N3 A3 B3 ⊢
                      clear N0 N1 A1 A2 B2 hsl hle
                      have c0 := N3.cell (t1_0 _ _ _)
                      have c1 := N3.cell (t1_1 _ _ _)
                      have c2 := N3.cell (t1_2 _ _ _)
                      have H3 := Lib.hid A3
                      clear N3 A3
                      have g0 : w3.cell? ⟨G, (k - 1) * 3, none⟩ = some (.int .i64 (tn xs (k - 1))) := H3.out.cell (tY_turn hkp rfl)
                      generalize k - 1 = k' at *
                      clear hkl hkp
                      go_wp2
                      go_quiet (fail)
                      go_wp2
                      go_ret
                      exact ⟨by rw [hv.out]; rfl, bdrew B3.out _⟩
                · have hno : okOne xs k = false := okOne_4 (by omega)
                  have e2 : decide (tc xs k < 0) = false := decide_eq_false (by omega)
                  have e3 : decide (tf xs k < 0) = false := decide_eq_false (by omega)
                  have e4 : decide (tf xs k > 1000) = true := decide_eq_true (by omega)
                  have hv := Lib.hid (okT_no hkl hno)
                  clear hno hkl
                  rw [show inB 0 65535 (tn xs k) = true from decide_eq_true ⟨p0, p1⟩] at KT
                  go_wp2_with (first | ((with_reducible refine is_load 32 _ rfl ?_); refine wpList_load_part rfl 32 _ rfl _ (k * 3) rfl (tY xs zx) _ (by with_reducible assumption) 3 (hle) _ Try.underlying32 rfl (by kernel_rfl) ((t1 (tn xs k) (tc xs k) (tf xs k))) (hsl) ?_) | ((with_reducible refine is_store 32 _ _ rfl ?_); refine wpList_store_at rfl 32 _ _ rfl _ rfl ((t1 (tn xs k) (tc xs k) (tf xs k))) rfl (#[.int .i64 0, .int .i16 0, .int .i16 0]) _ (by with_reducible assumption) 3 (t1_size _ _ _) (rfl) (by kernel_rfl) (t1_one _ _ _) ?_))
                  refine (KT _).mono ?_
                  rintro e w3 ⟨rfl, n3, rfl⟩
                  clear c0 KT
                  have N3 := N1.drewN n3
                  have A3 := A2.drewN n3
                  have B3 := Lib.hid (bdrew B2.out n3)
                  generalize World.drewN _ n3 = w3 at N3 A3 B3 ⊢
                  clear N0 N1 A1 A2 B2 hsl hle
                  have c0 := N3.cell (t1_0 _ _ _)
                  have c1 := N3.cell (t1_1 _ _ _)
                  have c2 := N3.cell (t1_2 _ _ _)
                  have H3 := Lib.hid A3
                  clear N3 A3
                  go_wp2
                  go_ret
                  exact ⟨by rw [hv.out]; rfl, B3.out⟩
              · have hno : okOne xs k = false := okOne_3 (by omega)
                have e2 : decide (tc xs k < 0) = false := decide_eq_false (by omega)
                have e3 : decide (tf xs k < 0) = true := decide_eq_true (by omega)
                have hv := Lib.hid (okT_no hkl hno)
                clear hno hkl
                rw [show inB 0 65535 (tn xs k) = true from decide_eq_true ⟨p0, p1⟩] at KT
                go_wp2_with (first | ((with_reducible refine is_load 32 _ rfl ?_); refine wpList_load_part rfl 32 _ rfl _ (k * 3) rfl (tY xs zx) _ (by with_reducible assumption) 3 (hle) _ Try.underlying32 rfl (by kernel_rfl) ((t1 (tn xs k) (tc xs k) (tf xs k))) (hsl) ?_) | ((with_reducible refine is_store 32 _ _ rfl ?_); refine wpList_store_at rfl 32 _ _ rfl _ rfl ((t1 (tn xs k) (tc xs k) (tf xs k))) rfl (#[.int .i64 0, .int .i16 0, .int .i16 0]) _ (by with_reducible assumption) 3 (t1_size _ _ _) (rfl) (by kernel_rfl) (t1_one _ _ _) ?_))
                refine (KT _).mono ?_
                rintro e w3 ⟨rfl, n3, rfl⟩
                clear c0 KT
                have N3 := N1.drewN n3
                have A3 := A2.drewN n3
                have B3 := Lib.hid (bdrew B2.out n3)
                generalize World.drewN _ n3 = w3 at N3 A3 B3 ⊢
                clear N0 N1 A1 A2 B2 hsl hle
                have c0 := N3.cell (t1_0 _ _ _)
                have c1 := N3.cell (t1_1 _ _ _)
                have c2 := N3.cell (t1_2 _ _ _)
                have H3 := Lib.hid A3
                clear N3 A3
                go_wp2
                go_ret
                exact ⟨by rw [hv.out]; rfl, B3.out⟩
            · have hno : okOne xs k = false := okOne_2 (by omega)
              have e2 : decide (tc xs k < 0) = true := decide_eq_true (by omega)
              have hv := Lib.hid (okT_no hkl hno)
              clear hno hkl
              rw [show inB 0 65535 (tn xs k) = true from decide_eq_true ⟨p0, p1⟩] at KT
              go_wp2_with (first | ((with_reducible refine is_load 32 _ rfl ?_); refine wpList_load_part rfl 32 _ rfl _ (k * 3) rfl (tY xs zx) _ (by with_reducible assumption) 3 (hle) _ Try.underlying32 rfl (by kernel_rfl) ((t1 (tn xs k) (tc xs k) (tf xs k))) (hsl) ?_) | ((with_reducible refine is_store 32 _ _ rfl ?_); refine wpList_store_at rfl 32 _ _ rfl _ rfl ((t1 (tn xs k) (tc xs k) (tf xs k))) rfl (#[.int .i64 0, .int .i16 0, .int .i16 0]) _ (by with_reducible assumption) 3 (t1_size _ _ _) (rfl) (by kernel_rfl) (t1_one _ _ _) ?_))
              refine (KT _).mono ?_
              rintro e w3 ⟨rfl, n3, rfl⟩
              clear c0 KT
              have N3 := N1.drewN n3
              have A3 := A2.drewN n3
              have B3 := Lib.hid (bdrew B2.out n3)
              generalize World.drewN _ n3 = w3 at N3 A3 B3 ⊢
              clear N0 N1 A1 A2 B2 hsl hle
              have c0 := N3.cell (t1_0 _ _ _)
              have c1 := N3.cell (t1_1 _ _ _)
              have c2 := N3.cell (t1_2 _ _ _)
              have H3 := Lib.hid A3
              clear N3 A3
              go_wp2
              go_ret
              exact ⟨by rw [hv.out]; rfl, B3.out⟩
          · have hno : okOne xs k = false := okOne_1 (by omega)
            
            have hv := Lib.hid (okT_no hkl hno)
            clear hno hkl
            rw [show inB 0 65535 (tn xs k) = false from decide_eq_false (by omega)] at KT
            go_wp2_with (first | ((with_reducible refine is_load 32 _ rfl ?_); refine wpList_load_part rfl 32 _ rfl _ (k * 3) rfl (tY xs zx) _ (by with_reducible assumption) 3 (hle) _ Try.underlying32 rfl (by kernel_rfl) ((t1 (tn xs k) (tc xs k) (tf xs k))) (hsl) ?_) | ((with_reducible refine is_store 32 _ _ rfl ?_); refine wpList_store_at rfl 32 _ _ rfl _ rfl ((t1 (tn xs k) (tc xs k) (tf xs k))) rfl (#[.int .i64 0, .int .i16 0, .int .i16 0]) _ (by with_reducible assumption) 3 (t1_size _ _ _) (rfl) (by kernel_rfl) (t1_one _ _ _) ?_))
            refine (KT _).mono ?_
            rintro e w3 ⟨rfl, n3, rfl⟩
            clear c0 KT
            have N3 := N1.drewN n3
            have A3 := A2.drewN n3
            have B3 := Lib.hid (bdrew B2.out n3)
            generalize World.drewN _ n3 = w3 at N3 A3 B3 ⊢
            clear N0 N1 A1 A2 B2 hsl hle
            have c0 := N3.cell (t1_0 _ _ _)
            have c1 := N3.cell (t1_1 _ _ _)
            have c2 := N3.cell (t1_2 _ _ _)
            have H3 := Lib.hid A3
            clear N3 A3
            go_wp2
            go_ret
            exact ⟨by rw [hv.out]; rfl, B3.out⟩
        · have hno : okOne xs k = false := okOne_1 (by omega)
          
          have hv := Lib.hid (okT_no hkl hno)
          clear hno hkl
          rw [show inB 0 65535 (tn xs k) = false from decide_eq_false (by omega)] at KT
          go_wp2_with (first | ((with_reducible refine is_load 32 _ rfl ?_); refine wpList_load_part rfl 32 _ rfl _ (k * 3) rfl (tY xs zx) _ (by with_reducible assumption) 3 (hle) _ Try.underlying32 rfl (by kernel_rfl) ((t1 (tn xs k) (tc xs k) (tf xs k))) (hsl) ?_) | ((with_reducible refine is_store 32 _ _ rfl ?_); refine wpList_store_at rfl 32 _ _ rfl _ rfl ((t1 (tn xs k) (tc xs k) (tf xs k))) rfl (#[.int .i64 0, .int .i16 0, .int .i16 0]) _ (by with_reducible assumption) 3 (t1_size _ _ _) (rfl) (by kernel_rfl) (t1_one _ _ _) ?_))
          refine (KT _).mono ?_
          rintro e w3 ⟨rfl, n3, rfl⟩
          clear c0 KT
          have N3 := N1.drewN n3
          have A3 := A2.drewN n3
          have B3 := Lib.hid (bdrew B2.out n3)
          generalize World.drewN _ n3 = w3 at N3 A3 B3 ⊢
          clear N0 N1 A1 A2 B2 hsl hle
          have c0 := N3.cell (t1_0 _ _ _)
          have c1 := N3.cell (t1_1 _ _ _)
          have c2 := N3.cell (t1_2 _ _ _)
          have H3 := Lib.hid A3
          clear N3 A3
          go_wp2
          go_ret
          exact ⟨by rw [hv.out]; rfl, B3.out⟩
      · obtain rfl : n = k := by omega
        have hv := Lib.hid (okT_yes (by rw [← HN.out]; exact h96) (by rw [← HN.out]; exact hok.out))
        go_wp2
        go_ret
        exact ⟨by rw [hv.out]; rfl, B1.out⟩
  · have hv := Lib.hid (okT_long (by rw [← HN.out]; exact h96))
    have h97 : 96 < n := by omega
    go_enter Try.func18, Try.ntmps18
    go_wp2
    go_ret
    exact ⟨by rw [hv.out]; rfl, Below.refl _ _⟩


end Go.Proofs.Ytejbaoakpkpciaa
