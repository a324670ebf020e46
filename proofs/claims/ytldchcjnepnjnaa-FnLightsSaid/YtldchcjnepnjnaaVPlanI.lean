/-
  CONTRACTS: valid plans, as the program asks it.
-/
import Derived.Test.YtldchcjnepnjnaaVPlanS
namespace Go.Proofs.Ytldchcjnepnjnaa
open Go Go.ChangeShapes Go.WideShapes Go.ChangeAt Go.RowKit
set_option maxRecDepth 100000

set_option maxHeartbeats 400000 in
theorem ValidPlan_any (G : Nat) (xs : Slots) (b o : Int) (hW : SlW xs) (T : TypeId) (w : World) (A0 : At w G (slC xs) T) :
    Calls Try.prog 34 #[.agg (plC (.slice (some ⟨G, 0, none⟩) xs.length xs.length) b o)] w fun e w' => e = .returned (.bool (okP xs b o)) ∧ Below w.heap.size w w' := by
  have P0 := At.new w (plC (.slice (some ⟨G, 0, none⟩) xs.length xs.length) b o) 26
  have A1 := A0.alloc (.cells (plC (.slice (some ⟨G, 0, none⟩) xs.length xs.length) b o) 26)
  have B0 := Lib.hid (b0 w (.cells (plC (.slice (some ⟨G, 0, none⟩) xs.length xs.length) b o) 26))
  have HX := Lib.hid hW
  have KB := isBetween_b b
  have c0 : (w.alloc (.cells (plC (.slice (some ⟨G, 0, none⟩) xs.length xs.length) b o) 26)).cell? ⟨w.heap.size, 0, none⟩ = some (.slice (some ⟨G, 0, none⟩) xs.length xs.length) := P0.cell (plC_0 _ _ _)
  have c1 : (w.alloc (.cells (plC (.slice (some ⟨G, 0, none⟩) xs.length xs.length) b o) 26)).cell? ⟨w.heap.size, 1, none⟩ = some (.int .i64 b) := P0.cell (plC_1 _ _ _)
  have KC := fun (h1 : xs.length ≤ 8) (h2 : 0 ≤ b ∧ b ≤ 240) (h3 : tkOk xs xs.length = true) (wr : World) (hA : At wr G (slC xs) T) => cycleOf_any G xs b o hW T h1 h2 h3 wr hA
  obtain ⟨n, hnn⟩ : ∃ n, n = xs.length := ⟨_, rfl⟩
  have HN := Lib.hid hnn
  have HKC := Lib.hid KC
  rw [← hnn] at P0 A1 B0 c0 c1 ⊢
  clear hnn hW A0 KC
  by_cases h1 : 1 ≤ n
  · by_cases h2 : n ≤ 8
    · have hlen := Lib.hid (show lenOk xs = true from by unfold lenOk; rw [← HN.out]; exact decide_eq_true ⟨h1, h2⟩)
      cases hb : btw b
      · rw [hb] at KB
        have hno := Lib.hid (okP_btw (xs := xs) (o := o) hb)
        clear hb
        go_enter Try.func34, Try.ntmps34
        go_wp2_with fail
        refine (KB _).mono ?_
        rintro e w1 ⟨rfl, n1, rfl⟩
        go_wp2_with fail
        go_ret
        exact ⟨by rw [hno.out]; rfl, bdrew B0.out _⟩
      · rw [hb] at KB
        have HB := Lib.hid hb
        clear hb
        go_enter Try.func34, Try.ntmps34
        go_wp2_with fail
        refine (KB _).mono ?_
        rintro e w1 ⟨rfl, n1, rfl⟩
        have P1 := P0.drewN n1
        have A2 := A1.drewN n1
        have B1 := Lib.hid (bdrew B0.out n1)
        clear c0 c1 P0 A1 B0 KB
        generalize hw1 : (w.alloc (.cells (plC (.slice (some ⟨G, 0, none⟩) n n) b o) 26)).drewN n1 = w1 at P1 A2 B1 ⊢
        clear hw1
        go_wp2_with (((with_reducible refine is_load 24 _ rfl ?_); refine wpList_load_cell rfl 24 _ rfl _ 0 rfl ((plC (.slice (some ⟨G, 0, none⟩) n n) b o)) _ (by with_reducible assumption) _ Try.underlying24 rfl ((.slice (some ⟨G, 0, none⟩) n n)) (plC_0 _ _ _) ?_))
        go_loopw [25] (fun i wr => ∃ k : Nat, k ≤ n ∧ i = .int .i64 (k : Int) ∧ Hid (tkOk xs k = true) ∧ At wr w.heap.size (plC (.slice (some ⟨G, 0, none⟩) n n) b o) 26 ∧ At wr G (slC xs) T ∧ Hid (Below w.heap.size w wr)) (fun i _ => n - (intOf i).toNat)
        case atStart => exact ⟨0, by omega, rfl, Lib.hid rfl, P1, A2, B1⟩
        case round =>
          clear P1 A2 B1
          obtain ⟨k, hk, rfl, hall, P1, A1, B1⟩ := hrel
          by_cases hlt : k < n
          · have s2 : IntKind.i64.wrap ((k : Int) + 1) = (k : Int) + 1 := IntWalk.i64_in _ (by omega)
            have kd : (k : Int) < (n : Int) := by omega
            have hkl : k < xs.length := by rw [← HN.out]; exact hlt
            have hb8 := (HX.out.at hkl).1
            have SS := slC_size HX.out
            have hle : k * 9 + 9 ≤ (slC xs).size := by rw [SS]; omega
            have hsl := slC_slot HX.out hkl (k := k * 9) rfl
            have S1 := sl1_size hb8 (st xs k)
            clear SS
            have hyes := fun h => Lib.hid (tkOk_next hall.out (show tkOne (st xs k) = true from h))
            have hno := fun h => Lib.hid (okP_tk (b := b) (o := o) hkl (show tkOne (st xs k) = false from h))
            generalize sb xs k = bb at hb8 hsl S1
            have N0 := At.new wr #[.bool false, .bool false, .bool false, .bool false, .bool false, .bool false, .bool false, .bool false, .int .i64 0] 40
            have N1 := N0.setRow (sl1 bb (st xs k))
            have ct := N1.cell (sl1_ticks hb8 (st xs k))
            have P2 := (P1.alloc (.cells #[.bool false, .bool false, .bool false, .bool false, .bool false, .bool false, .bool false, .bool false, .int .i64 0] 40)).setRow_other (k := wr.heap.size) (Nat.ne_of_lt P1.lt) (sl1 bb (st xs k))
            have A2 := (A1.alloc (.cells #[.bool false, .bool false, .bool false, .bool false, .bool false, .bool false, .bool false, .bool false, .int .i64 0] 40)).setRow_other (k := wr.heap.size) (Nat.ne_of_lt A1.lt) (sl1 bb (st xs k))
            have B2 := Lib.hid (bset (bnew B1.out (.cells #[.bool false, .bool false, .bool false, .bool false, .bool false, .bool false, .bool false, .bool false, .int .i64 0] 40)) (g := wr.heap.size) B1.out.size (sl1 bb (st xs k)))
            clear B1 hkl
            by_cases t1 : 1 ≤ st xs k
            · by_cases t2 : st xs k ≤ 240
              · have hy := hyes (decide_eq_true ⟨t1, t2⟩)
                clear hyes hno
                go_wp2_with (first | ((with_reducible refine is_load 40 _ rfl ?_); refine wpList_load_part rfl 40 _ rfl _ (k * 9) rfl (slC xs) _ (by with_reducible assumption) 9 (hle) _ Try.underlying40 rfl (by kernel_rfl) (sl1 bb (st xs k)) (hsl) ?_) | ((with_reducible refine is_store 40 _ _ rfl ?_); refine wpList_store_at rfl 40 _ _ rfl _ rfl (sl1 bb (st xs k)) rfl (#[.bool false, .bool false, .bool false, .bool false, .bool false, .bool false, .bool false, .bool false, .int .i64 0]) _ (by with_reducible assumption) 9 (S1) (rfl) (by kernel_rfl) (sl1_one _ _) ?_))
                exact ⟨⟨k + 1, by omega, by go_num, hy, P2, A2, B2⟩, by simp [intOf]; omega⟩
              · have hn := hno (decide_eq_false (by omega))
                clear hyes hno
                go_wp2_with (first | ((with_reducible refine is_load 40 _ rfl ?_); refine wpList_load_part rfl 40 _ rfl _ (k * 9) rfl (slC xs) _ (by with_reducible assumption) 9 (hle) _ Try.underlying40 rfl (by kernel_rfl) (sl1 bb (st xs k)) (hsl) ?_) | ((with_reducible refine is_store 40 _ _ rfl ?_); refine wpList_store_at rfl 40 _ _ rfl _ rfl (sl1 bb (st xs k)) rfl (#[.bool false, .bool false, .bool false, .bool false, .bool false, .bool false, .bool false, .bool false, .int .i64 0]) _ (by with_reducible assumption) 9 (S1) (rfl) (by kernel_rfl) (sl1_one _ _) ?_))
                go_ret
                exact ⟨by rw [hn.out]; rfl, B2.out⟩
            · have hn := hno (decide_eq_false (by omega))
              clear hyes hno
              go_wp2_with (first | ((with_reducible refine is_load 40 _ rfl ?_); refine wpList_load_part rfl 40 _ rfl _ (k * 9) rfl (slC xs) _ (by with_reducible assumption) 9 (hle) _ Try.underlying40 rfl (by kernel_rfl) (sl1 bb (st xs k)) (hsl) ?_) | ((with_reducible refine is_store 40 _ _ rfl ?_); refine wpList_store_at rfl 40 _ _ rfl _ rfl (sl1 bb (st xs k)) rfl (#[.bool false, .bool false, .bool false, .bool false, .bool false, .bool false, .bool false, .bool false, .int .i64 0]) _ (by with_reducible assumption) 9 (S1) (rfl) (by kernel_rfl) (sl1_one _ _) ?_))
              go_ret
              exact ⟨by rw [hn.out]; rfl, B2.out⟩
          · obtain rfl : n = k := by omega
            have hall' := hall.out
            rw [HN.out] at hall'
            have hyes := Lib.hid (okP_rest (o := o) hlen.out HB.out hall')
            have hbr : 0 ≤ b ∧ b ≤ 240 := by have := HB.out; simpa [btw] using this
            have KC := fun wr hA => HKC.out (by rw [← HN.out]; exact h2) hbr hall' wr hA
            rw [← HN.out] at KC
            have K1 := KC wr A1
            clear hall' KC HKC hbr
            generalize cyc xs b = cc at hyes K1
            go_wp2_with (((with_reducible refine is_load 26 _ rfl ?_); refine wpList_load_at rfl 26 _ rfl _ rfl ((plC (.slice (some ⟨G, 0, none⟩) n n) b o)) _ (by with_reducible assumption) 3 (plC_size _ _ _) _ Try.underlying26 rfl (by kernel_rfl) ?_))
            refine K1.mono ?_
            rintro e w2 ⟨rfl, hb2⟩
            have P2 := P1.step hb2
            have B2 := Lib.hid (bthen B1.out hb2)
            have c2 : w2.cell? ⟨w.heap.size, 2, none⟩ = some (.int .i64 o) := P2.cell (plC_2 _ _ _)
            clear P1 A1 B1 hb2 K1 P2
            by_cases d1 : cc ≤ 240
            · by_cases d2 : 0 ≤ o
              · rw [decide_eq_true d1, show decide (0 ≤ o ∧ o < cc) = decide (o < cc) from decide_eq_decide.2 (by omega)] at hyes
                go_wp2_with fail
                go_ret
                exact ⟨by rw [hyes.out]; rfl, B2.out⟩
              · rw [decide_eq_true d1, decide_eq_false (by omega : ¬ (0 ≤ o ∧ o < cc))] at hyes
                go_wp2_with fail
                go_ret
                exact ⟨by rw [hyes.out]; rfl, B2.out⟩
            · rw [decide_eq_false d1] at hyes
              go_wp2_with fail
              go_ret
              exact ⟨by rw [hyes.out]; rfl, B2.out⟩
    · have hno := Lib.hid (okP_len (b := b) (o := o) (show lenOk xs = false from by unfold lenOk; rw [← HN.out]; exact decide_eq_false (by omega)))
      go_enter Try.func34, Try.ntmps34
      go_wp2_with fail
      go_ret
      exact ⟨by rw [hno.out]; rfl, B0.out⟩
  · have hno := Lib.hid (okP_len (b := b) (o := o) (show lenOk xs = false from by unfold lenOk; rw [← HN.out]; exact decide_eq_false (by omega)))
    obtain rfl : n = 0 := by omega
    go_enter Try.func34, Try.ntmps34
    go_wp2_with fail
    go_ret
    exact ⟨by rw [hno.out]; rfl, B0.out⟩

end Go.Proofs.Ytldchcjnepnjnaa
