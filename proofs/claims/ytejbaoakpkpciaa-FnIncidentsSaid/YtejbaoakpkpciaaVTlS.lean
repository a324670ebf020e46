/-
  CONTRACTS: valid lists of tallies, as the model asks it.
-/
import Derived.Test.YtejbaoakpkpciaaG4
import Derived.Test.YtejbaoakpkpciaaToTls
import Derived.Test.YtejbaoakpkpciaaG1
import Derived.Test.YtejbaoakpkpciaaG7
namespace Go.Proofs.Ytejbaoakpkpciaa
open Go Go.ChangeShapes Go.WideShapes Go.ChangeAt Go.RowKit
set_option maxRecDepth 100000

theorem drewN2 (W : World) (a b : Nat) : (W.drewN a).drewN b = W.drewN (a + b) := by simp [World.drewN, Nat.add_assoc]

set_option maxHeartbeats 2000000 in
theorem l05List_any (G : Nat) (xs : Ts) (cap : Nat) (_hW : TW xs) (hn : xs.length ≤ 1048576) (T : TypeId) (w : World) (h0 : At w G (tC xs) T) :
    Calls Try.prog 24 #[(.slice (some ⟨G, 0, none⟩) xs.length cap)] w fun e w' => e = .returned (.bool (okT xs)) ∧ Below w.heap.size w w' := by
  have HX := Lib.hid h0
  skip
  obtain ⟨n, hnn⟩ : ∃ n, n = xs.length := ⟨_, rfl⟩
  rw [← hnn] at hn ⊢
  have HN := Lib.hid hnn
  clear hnn h0
  go_enter Try.func24, Try.ntmps24
  go_wp2
  go_loopw [3] (fun i wr => ∃ k : Nat, k ≤ n ∧ i = .int .i64 (k : Int) ∧ At wr G (tC xs) T ∧ Hid (Below w.heap.size w wr) ∧ Hid (okTk xs k = true)) (fun i _ => n - (intOf i).toNat)
  case atStart => exact ⟨0, by omega, rfl, HX.out, Lib.hid (Below.refl _ _), Lib.hid rfl⟩
  case round =>
    obtain ⟨k, hk, rfl, A1, B1, hok⟩ := hrel
    by_cases hlt : k < n
    · have s2 : IntKind.i64.wrap ((k : Int) + 1) = (k : Int) + 1 := IntWalk.i64_in _ (by omega)
      have kd : (k : Int) < (n : Int) := by omega
      have hkl : k < xs.length := by rw [← HN.out]; exact hlt
      have c0 := A1.cell (tC_turn hkl (k := k * 3) rfl)
      have c1 := A1.cell (tC_count hkl (k := k * 3 + 1) rfl)
      have c2 := A1.cell (tC_full hkl (k := k * 3 + 2) rfl)
      have KT := l05Turn_b (tn xs k)
      have H1 := Lib.hid A1
      clear A1
      by_cases p0 : 0 ≤ tn xs k
      · by_cases p1 : tn xs k ≤ 65535
        · by_cases p2 : 0 ≤ tc xs k
          · by_cases p3 : 0 ≤ tf xs k
            · by_cases p4 : tf xs k ≤ 1000
              · have e2 : decide (tc xs k < 0) = false := decide_eq_false (by omega)
                have e3 : decide (tf xs k < 0) = false := decide_eq_false (by omega)
                have e4 : decide (tf xs k > 1000) = false := decide_eq_false (by omega)
                rw [show inB 0 65535 (tn xs k) = true from decide_eq_true ⟨p0, p1⟩] at KT
                by_cases z : k = 0
                · have hv := Lib.hid (okTk_next hok.out (okOne_yes ⟨p0, p1⟩ p2 p3 p4 (.inl z)))
                  subst z
                  clear hkl
                  go_wp2
                  go_quiet ((go_at_call 34; exact Calls.quiet_of (KT _)))
                  go_wp2
                  exact ⟨⟨1, by omega, by go_num, H1.out.drewN _, Lib.hid (bdrew B1.out _), hv⟩, by simp [intOf]; omega⟩
                · have hkp : k - 1 < xs.length := by omega
                  have g0 : wr.cell? ⟨G, (k - 1) * 3, none⟩ = some (.int .i64 (tn xs (k - 1))) := H1.out.cell (tC_turn hkp rfl)
                  have s3 : IntKind.i64.wrap ((k : Int) - 1) = ((k - 1 : Nat) : Int) := by rw [IntWalk.i64_in _ (by omega)]; omega
                  have kz : 0 < k := by omega
                  have kn : ((k - 1 : Nat) : Int) < (n : Int) := by omega
                  have kn0 : (0 : Int) ≤ ((k - 1 : Nat) : Int) := by omega
                  by_cases p5 : tn xs (k - 1) < tn xs k
                  · have hv := Lib.hid (okTk_next hok.out (okOne_yes ⟨p0, p1⟩ p2 p3 p4 (.inr p5)))
                    generalize k - 1 = k' at *
                    clear hkl hkp
                    go_wp2
                    go_quiet ((go_at_call 34; exact Calls.quiet_of (KT _)))
                    go_wp2
                    exact ⟨⟨k + 1, by omega, by go_num, H1.out.drewN _, Lib.hid (bdrew B1.out _), hv⟩, by simp [intOf]; omega⟩
                  · have hv := Lib.hid (okT_no hkl (okOne_5 (by omega) p5))
                    generalize k - 1 = k' at *
                    clear hkl hkp
                    go_wp2
                    go_quiet ((go_at_call 34; exact Calls.quiet_of (KT _)))
                    go_wp2
                    go_ret
                    exact ⟨by rw [hv.out]; rfl, bdrew B1.out _⟩
              · have hno : okOne xs k = false := okOne_4 (by omega)
                have e2 : decide (tc xs k < 0) = false := decide_eq_false (by omega)
                have e3 : decide (tf xs k < 0) = false := decide_eq_false (by omega)
                have e4 : decide (tf xs k > 1000) = true := decide_eq_true (by omega)
                have hv := Lib.hid (okT_no hkl hno)
                clear hno hkl
                rw [show inB 0 65535 (tn xs k) = true from decide_eq_true ⟨p0, p1⟩] at KT
                go_wp2
                go_quiet ((go_at_call 34; exact Calls.quiet_of (KT _)))
                go_wp2
                go_ret
                exact ⟨by rw [hv.out]; rfl, bdrew B1.out _⟩
            · have hno : okOne xs k = false := okOne_3 (by omega)
              have e2 : decide (tc xs k < 0) = false := decide_eq_false (by omega)
              have e3 : decide (tf xs k < 0) = true := decide_eq_true (by omega)
              have hv := Lib.hid (okT_no hkl hno)
              clear hno hkl
              rw [show inB 0 65535 (tn xs k) = true from decide_eq_true ⟨p0, p1⟩] at KT
              go_wp2
              go_quiet ((go_at_call 34; exact Calls.quiet_of (KT _)))
              go_wp2
              go_ret
              exact ⟨by rw [hv.out]; rfl, bdrew B1.out _⟩
          · have hno : okOne xs k = false := okOne_2 (by omega)
            have e2 : decide (tc xs k < 0) = true := decide_eq_true (by omega)
            have hv := Lib.hid (okT_no hkl hno)
            clear hno hkl
            rw [show inB 0 65535 (tn xs k) = true from decide_eq_true ⟨p0, p1⟩] at KT
            go_wp2
            go_quiet ((go_at_call 34; exact Calls.quiet_of (KT _)))
            go_wp2
            go_ret
            exact ⟨by rw [hv.out]; rfl, bdrew B1.out _⟩
        · have hno : okOne xs k = false := okOne_1 (by omega)
          
          have hv := Lib.hid (okT_no hkl hno)
          clear hno hkl
          rw [show inB 0 65535 (tn xs k) = false from decide_eq_false (by omega)] at KT
          go_wp2
          go_quiet ((go_at_call 34; exact Calls.quiet_of (KT _)))
          go_wp2
          go_ret
          exact ⟨by rw [hv.out]; rfl, bdrew B1.out _⟩
      · have hno : okOne xs k = false := okOne_1 (by omega)
        
        have hv := Lib.hid (okT_no hkl hno)
        clear hno hkl
        rw [show inB 0 65535 (tn xs k) = false from decide_eq_false (by omega)] at KT
        go_wp2
        go_quiet ((go_at_call 34; exact Calls.quiet_of (KT _)))
        go_wp2
        go_ret
        exact ⟨by rw [hv.out]; rfl, bdrew B1.out _⟩
    · obtain rfl : n = k := by omega
      have hv := Lib.hid (show okT xs = decide ((n : Int) ≤ 96) from by
        rw [okT_all (by rw [← HN.out]; exact hok.out), ← HN.out]; exact decide_eq_decide.2 (by omega))
      go_wp2
      go_ret
      exact ⟨by rw [hv.out]; rfl, B1.out⟩

end Go.Proofs.Ytejbaoakpkpciaa
