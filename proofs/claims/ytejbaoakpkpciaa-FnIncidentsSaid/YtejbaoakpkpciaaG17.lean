/-
  SEVERAL TEXTS IN ONE.
-/
import Derived.Test.YtejbaoakpkpciaaG12
import Derived.Test.YtejbaoakpkpciaaWrongS
import Derived.Test.YtejbaoakpkpciaaG15
import Derived.Test.YtejbaoakpkpciaaG8

/-
  CONTRACTS: sWithoutWrong, at tallies with a capacity.
-/
namespace Go.Proofs.Ytejbaoakpkpciaa
open Go Go.ChangeShapes Go.WideShapes Go.ChangeAt Go.RowKit
set_option maxRecDepth 100000

set_option maxHeartbeats 1000000 in
theorem sWithoutWrong_anyY (zx : Array Value) (G : Nat) (xs : Ts) (cap : Nat) (hW : TW xs) (hn : xs.length ≤ 1048576) (T : TypeId) (m : Int) (w : World) (h0 : At w G (tY xs zx) T) :
    Calls Try.prog 12 #[(.slice (some ⟨G, 0, none⟩) xs.length cap), .int .i16 m] w fun e w' => TR w w' (vWrong xs m).1 (vWrong xs m).2 e := by
  have KV := l05List_anyY zx G xs cap hW hn T w h0
  obtain ⟨i0, hi, hz0, hz1, hz2⟩ := info_tally
  cases h : okT xs
  · rw [vWrong_1 h]
    rw [h] at KV
    generalize xs.length = n at KV
    go_enter Try.func12, Try.ntmps12
    go_wp2_with fail
    refine KV.mono ?_
    rintro e w1 ⟨rfl, hb1⟩
    go_wp2_with (((with_reducible refine is_bslice 24 0 _ rfl ?_); refine wpList_bslice rfl 24 0 _ rfl #[] (by simp) _ (run_noT _) ?_))
    go_ret2
    exact ⟨⟨_, rfl, OwnT.empty rfl hb1.size⟩, bnew hb1 _⟩
  · rw [h] at KV
    by_cases hm : 0 ≤ m
    · rw [vWrong_0 h hm]
      have hm' : ¬ m < 0 := by omega
      have h96 := okT_len h
      have HX := Lib.hid h0
      have HG := Lib.hid (show ∀ q, w.heap.size ≤ q → q ≠ G from fun q hq => by have := h0.lt; omega)
      obtain ⟨n, hnn⟩ : ∃ n, n = xs.length := ⟨_, rfl⟩
      rw [← hnn] at h96 KV ⊢
      have HN := Lib.hid hnn
      clear hnn h0 h hn hW
      go_enter Try.func12, Try.ntmps12
      go_wp2_with fail
      refine KV.mono ?_
      rintro e w1 ⟨rfl, hb1⟩
      have A1 := (HX.out.step hb1).alloc (.cells #[] 32)
      have B1 := Lib.hid (bnew hb1 (.cells #[] 32))
      have O1 := OwnT.empty (w := w1) (lo := w.heap.size) rfl hb1.size
      clear hb1 KV
      go_wp2_with (((with_reducible refine is_bslice 24 0 _ rfl ?_); refine wpList_bslice rfl 24 0 _ rfl #[] (by simp) _ (run_noT _) ?_))
      go_loopw [6, 7] (fun v i wr => ∃ k : Nat, k ≤ n ∧ i = .int .i64 (k : Int) ∧ OwnT wr w.heap.size v (wrL xs m k) ∧ At wr G (tY xs zx) T ∧ Hid (Below w.heap.size w wr)) (fun _ i _ => n - (intOf i).toNat)
      case atStart => exact ⟨0, by omega, rfl, O1, A1, B1⟩
      case round =>
        clear A1 B1 O1
        obtain ⟨k, hk, rfl, O1, A1, B1⟩ := hrel
        have hLl := wrL_len xs m k
        by_cases hlt : k < n
        · have s2 : IntKind.i64.wrap ((k : Int) + 1) = (k : Int) + 1 := IntWalk.i64_in _ (by omega)
          have kd : (k : Int) < (n : Int) := by omega
          have hkl : k < xs.length := by rw [← HN.out]; exact hlt
          have hws : w.heap.size ≤ wr.heap.size := B1.out.size
          have c1 := A1.cell (tY_count hkl (k := k * 3 + 1) rfl)
          have c2 := A1.cell (tY_full hkl (k := k * 3 + 2) rfl)
          have hsl := tY_tally zx hkl (k := k * 3) rfl
          have SS := tY_size xs zx
          have hle : k * 3 + 3 ≤ (tY xs zx).size := by omega
          clear SS hkl
          by_cases p1 : tc xs k ≤ m
          · have d1 : decide (tc xs k ≤ m) = true := decide_eq_true p1
            by_cases p2 : tc xs k = 0
            · have hkeep : keepT xs m k = true := by unfold keepT; rw [decide_eq_true p1, decide_eq_true p2]; rfl
              have d2 : (tc xs k == 0) = true := by simpa using p2
              clear p1 p2
              have hL := Lib.hid (wrL_yes (xs := xs) (m := m) (k := k) hkeep).symm
              clear hkeep
              go_wp2_with (first | ((with_reducible refine is_load 32 _ rfl ?_); refine wpList_load_part rfl 32 _ rfl _ (k * 3) rfl (tY xs zx) _ (by with_reducible assumption) 3 (hle) _ Try.underlying32 rfl (by kernel_rfl) ((t1 (tn xs k) (tc xs k) (tf xs k))) (hsl) ?_) | ((with_reducible refine is_bslice 24 1 _ rfl ?_); refine wpList_bslice rfl 24 1 _ rfl #[(0, .agg (t1 (tn xs k) (tc xs k) (tf xs k)))] (by kernel_rfl) _ (run_oneT _ (tn xs k) (tc xs k) (tf xs k)) ?_) | (at_builtin; go_loud (refine wpList_append_own _ rfl _ _ 24 rfl w.heap.size 32 i0 (.agg #[.int .i64 0, .int .i16 0, .int .i16 0]) 3 16 Try.underlying24 hi hz0 hz1 hz2 rfl (by decide) _ (wrL xs m k).length _ rfl (O1.step (b0 _ _)) ⟨wr.heap.size, 0, none⟩ 1 1 (tll (at3 xs k)) rfl rfl (one_cellsT wr (tn xs k) (tc xs k) (tf xs k)) (tll_one _) (by unfold maxLen; omega) (by omega) (by simp; omega) ?_)))
              intro v' w5 hown hgrow _
              have O5 := OwnT.grown hown
              rw [hL.out] at O5
              have hb5 : Below w.heap.size (wr.alloc (.cells (t1 (tn xs k) (tc xs k) (tf xs k)) 32)) w5 := Below.grownBy hgrow (by rw [World.size_alloc]; have := B1.out.size; omega) (fun q hq => (O1.block q hq).1)
              have B5 := Lib.hid ((bnew B1.out (.cells (t1 (tn xs k) (tc xs k) (tf xs k)) 32)).trans hb5)
              have A5 : At w5 G (tY xs zx) T := (A1.alloc (.cells (t1 (tn xs k) (tc xs k) (tf xs k)) 32)).keep hgrow (fun q hq => HG.out q ((O1.block q hq).1))
              clear hown hgrow hb5
              go_wp2_with fail
              exact ⟨⟨k + 1, by omega, by go_num, O5, A5, B5⟩, by simp [intOf]; omega⟩
            · have d2 : (tc xs k == 0) = false := by simpa using p2
              have d2' : decide (tc xs k = 0) = false := decide_eq_false p2
              by_cases p3 : 0 < tf xs k
              · have hkeep : keepT xs m k = true := by unfold keepT; rw [decide_eq_true p1, decide_eq_true p3, Bool.or_true]; rfl
                have d3 : decide (0 < tf xs k) = true := decide_eq_true p3
                clear p1 p2 p3
                have hL := Lib.hid (wrL_yes (xs := xs) (m := m) (k := k) hkeep).symm
                clear hkeep
                go_wp2_with (first | ((with_reducible refine is_load 32 _ rfl ?_); refine wpList_load_part rfl 32 _ rfl _ (k * 3) rfl (tY xs zx) _ (by with_reducible assumption) 3 (hle) _ Try.underlying32 rfl (by kernel_rfl) ((t1 (tn xs k) (tc xs k) (tf xs k))) (hsl) ?_) | ((with_reducible refine is_bslice 24 1 _ rfl ?_); refine wpList_bslice rfl 24 1 _ rfl #[(0, .agg (t1 (tn xs k) (tc xs k) (tf xs k)))] (by kernel_rfl) _ (run_oneT _ (tn xs k) (tc xs k) (tf xs k)) ?_) | (at_builtin; go_loud (refine wpList_append_own _ rfl _ _ 24 rfl w.heap.size 32 i0 (.agg #[.int .i64 0, .int .i16 0, .int .i16 0]) 3 16 Try.underlying24 hi hz0 hz1 hz2 rfl (by decide) _ (wrL xs m k).length _ rfl (O1.step (b0 _ _)) ⟨wr.heap.size, 0, none⟩ 1 1 (tll (at3 xs k)) rfl rfl (one_cellsT wr (tn xs k) (tc xs k) (tf xs k)) (tll_one _) (by unfold maxLen; omega) (by omega) (by simp; omega) ?_)))
                intro v' w5 hown hgrow _
                have O5 := OwnT.grown hown
                rw [hL.out] at O5
                have hb5 : Below w.heap.size (wr.alloc (.cells (t1 (tn xs k) (tc xs k) (tf xs k)) 32)) w5 := Below.grownBy hgrow (by rw [World.size_alloc]; have := B1.out.size; omega) (fun q hq => (O1.block q hq).1)
                have B5 := Lib.hid ((bnew B1.out (.cells (t1 (tn xs k) (tc xs k) (tf xs k)) 32)).trans hb5)
                have A5 : At w5 G (tY xs zx) T := (A1.alloc (.cells (t1 (tn xs k) (tc xs k) (tf xs k)) 32)).keep hgrow (fun q hq => HG.out q ((O1.block q hq).1))
                clear hown hgrow hb5
                go_wp2_with fail
                exact ⟨⟨k + 1, by omega, by go_num, O5, A5, B5⟩, by simp [intOf]; omega⟩
              · have hkeep : keepT xs m k = false := by unfold keepT; rw [decide_eq_false p2, decide_eq_false p3, Bool.or_false, Bool.and_false]
                have d3 : decide (0 < tf xs k) = false := decide_eq_false p3
                clear p1 p2 p3
                have hL := Lib.hid (wrL_no (xs := xs) (m := m) (k := k) hkeep).symm
                have O5 := O1
                rw [hL.out] at O5
                clear hkeep
                go_wp2_with (first | ((with_reducible refine is_load 32 _ rfl ?_); refine wpList_load_part rfl 32 _ rfl _ (k * 3) rfl (tY xs zx) _ (by with_reducible assumption) 3 (hle) _ Try.underlying32 rfl (by kernel_rfl) ((t1 (tn xs k) (tc xs k) (tf xs k))) (hsl) ?_))
                exact ⟨⟨k + 1, by omega, by go_num, O5, A1, B1⟩, by simp [intOf]; omega⟩
          · have hkeep : keepT xs m k = false := by unfold keepT; rw [decide_eq_false p1]; rfl
            have d1 : decide (tc xs k ≤ m) = false := decide_eq_false p1
            clear p1
            have hL := Lib.hid (wrL_no (xs := xs) (m := m) (k := k) hkeep).symm
            have O5 := O1
            rw [hL.out] at O5
            clear hkeep
            go_wp2_with (first | ((with_reducible refine is_load 32 _ rfl ?_); refine wpList_load_part rfl 32 _ rfl _ (k * 3) rfl (tY xs zx) _ (by with_reducible assumption) 3 (hle) _ Try.underlying32 rfl (by kernel_rfl) ((t1 (tn xs k) (tc xs k) (tf xs k))) (hsl) ?_))
            exact ⟨⟨k + 1, by omega, by go_num, O5, A1, B1⟩, by simp [intOf]; omega⟩
        · obtain rfl : n = k := by omega
          obtain ⟨a, c, rfl⟩ := O1.any
          go_wp2_with fail
          go_ret2
          exact ⟨⟨_, rfl, O1⟩, B1.out⟩
    · rw [vWrong_2 h hm]
      have hm' : m < 0 := by omega
      generalize xs.length = n at KV
      go_enter Try.func12, Try.ntmps12
      go_wp2_with fail
      refine KV.mono ?_
      rintro e w1 ⟨rfl, hb1⟩
      go_wp2_with (((with_reducible refine is_bslice 24 0 _ rfl ?_); refine wpList_bslice rfl 24 0 _ rfl #[] (by simp) _ (run_noT _) ?_))
      go_ret2
      exact ⟨⟨_, rfl, OwnT.empty rfl hb1.size⟩, bnew hb1 _⟩


end Go.Proofs.Ytejbaoakpkpciaa

/-
  CONTRACTS: where counts are great enough, as the model has it.
-/
namespace Go.Proofs.Ytejbaoakpkpciaa
open Go Go.ChangeShapes Go.WideShapes Go.ChangeAt Go.RowKit
set_option maxRecDepth 100000

end Go.Proofs.Ytejbaoakpkpciaa
