/-
  SEVERAL TEXTS IN ONE.
-/
import Derived.Test.YtejbaoakpkpciaaVTlI
import Derived.Test.YtejbaoakpkpciaaG2
import Derived.Test.YtejbaoakpkpciaaToTls
import Derived.Laws.StructEq

/-
  CONTRACTS: the first turn at which a detector is stuck, as the model has it.
-/
namespace Go.Proofs.Ytejbaoakpkpciaa
open Go Go.ChangeShapes Go.WideShapes Go.ChangeAt Go.RowKit
set_option maxRecDepth 100000

set_option maxHeartbeats 1000000 in
theorem sFirstStuck_any (G : Nat) (xs : Ts) (cap : Nat) (hW : TW xs) (hn : xs.length ≤ 1048576) (T : TypeId) (tm : Int) (w : World) (h0 : At w G (tC xs) T) :
    Calls Try.prog 10 #[(.slice (some ⟨G, 0, none⟩) xs.length cap), .int .i64 tm] w fun e w' => e = .returned (.tuple #[.int .i64 (vStuck xs tm).1, .int .i64 (vStuck xs tm).2]) ∧ Below w.heap.size w w' := by
  have KV := l05List_any G xs cap hW hn T w h0
  have KT := l05Times_b tm
  cases h : okT xs
  · rw [vStuck_1 h]
    rw [h] at KV
    generalize xs.length = n at KV
    go_enter Try.func10, Try.ntmps10
    go_wp2_with fail
    refine KV.mono ?_
    rintro e w1 ⟨rfl, hb1⟩
    go_wp2_with fail
    go_ret2
    exact ⟨rfl, hb1⟩
  · rw [h] at KV
    cases h2 : inB 1 96 tm
    · rw [vStuck_2 h h2]
      rw [h2] at KT
      generalize xs.length = n at KV
      go_enter Try.func10, Try.ntmps10
      go_wp2_with fail
      refine KV.mono ?_
      rintro e w1 ⟨rfl, hb1⟩
      go_wp2_with fail
      refine (KT _).mono ?_
      rintro e w2 ⟨rfl, n2, rfl⟩
      go_wp2_with fail
      go_ret2
      exact ⟨rfl, bdrew hb1 _⟩
    · rw [h2] at KT
      have h96 := okT_len h
      have HX := Lib.hid h0
      have HO := Lib.hid (And.intro h h2)
      obtain ⟨n, hnn⟩ : ∃ n, n = xs.length := ⟨_, rfl⟩
      rw [← hnn] at h96 KV ⊢
      have HN := Lib.hid hnn
      clear hnn h0 h hn hW h2
      go_enter Try.func10, Try.ntmps10
      go_wp2_with fail
      refine KV.mono ?_
      rintro e w1 ⟨rfl, hb1⟩
      go_wp2_with fail
      refine (KT _).mono ?_
      rintro e w2 ⟨rfl, n2, rfl⟩
      have A1 := (HX.out.step hb1).drewN n2
      have B1 := Lib.hid (bdrew hb1 n2)
      clear hb1 KV KT
      generalize World.drewN _ n2 = w3 at A1 B1 ⊢
      go_wp2_with fail
      go_loopw [6, 7] (fun s i wr => ∃ (k : Nat) (m : Int), k ≤ n ∧ s = .int .i64 m ∧ i = .int .i64 (k : Int) ∧ Hid (m = rowS xs k) ∧ Hid (firstHit (hitS xs tm) k = none) ∧ At wr G (tC xs) T ∧ Hid (Below w.heap.size w wr)) (fun _ i _ => n - (intOf i).toNat)
      case atStart => exact ⟨0, 0, by omega, rfl, rfl, Lib.hid rfl, Lib.hid rfl, A1, B1⟩
      case round =>
        clear A1 B1
        obtain ⟨k, m, hk, rfl, rfl, hm, hno, A1, B1⟩ := hrel
        have hmb := rowS_bd xs k
        rw [← hm.out] at hmb
        by_cases hlt : k < n
        · have s2 : IntKind.i64.wrap ((k : Int) + 1) = (k : Int) + 1 := IntWalk.i64_in _ (by omega)
          have kd : (k : Int) < (n : Int) := by omega
          have hkl : k < xs.length := by rw [← HN.out]; exact hlt
          have s4 : IntKind.i64.wrap (m + 1) = m + 1 := IntWalk.i64_in _ (by omega)
          have c0 := A1.cell (tC_turn hkl (k := k * 3) rfl)
          have c1 := A1.cell (tC_count hkl (k := k * 3 + 1) rfl)
          have c2 := A1.cell (tC_full hkl (k := k * 3 + 2) rfl)
          by_cases z : tc xs k = 0
          · have hr := Lib.hid (rowS_zero z).symm
            by_cases hh : tm = (0 : Int)
            · have hv := Lib.hid (vStuck_0 HO.out.1 HO.out.2 hkl hno.out (by rw [← hr.out]; exact hh.symm))
              
              skip
              go_wp2_with fail
              go_ret2
              exact ⟨by rw [hv.out]; rfl, B1.out⟩
            · have hno2 := Lib.hid (firstHit_miss hno.out (show hitS xs tm k = false from decide_eq_false (by rw [← hr.out]; exact fun e => hh e.symm)))
              
              skip
              go_wp2_with fail
              exact ⟨⟨k + 1, (0 : Int), by omega, rfl, by go_num, hr, hno2, A1, B1⟩, by simp [intOf]; omega⟩
          · have hz : (tc xs k == 0) = false := by simpa using z
            have hz2 : decide (tc xs k = 0) = false := decide_eq_false z
            by_cases q0 : 0 < m
            · have hk0 : 0 < k := by
                rcases Nat.eq_zero_or_pos k with e | e
                · subst e; have h0 := hm.out; rw [show rowS xs 0 = 0 from rfl] at h0; omega
                · exact e
              have hkp : k - 1 < xs.length := by omega
              have g1 := A1.cell (tC_count hkp (k := (k - 1) * 3 + 1) rfl)
              have g2 := A1.cell (tC_full hkp (k := (k - 1) * 3 + 2) rfl)
              have s3 : IntKind.i64.wrap ((k : Int) - 1) = ((k - 1 : Nat) : Int) := by rw [IntWalk.i64_in _ (by omega)]; omega
              have kn : ((k - 1 : Nat) : Int) < (n : Int) := by omega
              have kn0 : (0 : Int) ≤ ((k - 1 : Nat) : Int) := by omega
              have HA := Lib.hid A1
              clear A1 hkp
              by_cases q1 : tc xs (k - 1) = tc xs k
              · have e1 : (tc xs (k - 1) == tc xs k) = true := by simpa using q1
                by_cases q2 : tf xs (k - 1) = tf xs k
                · have hr := Lib.hid (show m + 1 = rowS xs (k + 1) from by rw [rowS_more z ⟨by rw [← hm.out]; exact q0, q1, q2⟩, hm.out])
                  have e2 : (tf xs (k - 1) == tf xs k) = true := by simpa using q2
                  generalize k - 1 = k' at *
                  by_cases hh : tm = (m + 1)
                  · have hv := Lib.hid (vStuck_0 HO.out.1 HO.out.2 hkl hno.out (by rw [← hr.out]; exact hh.symm))
                    
                    go_wp2
                    go_quiet (fail)
                    go_wp2_with fail
                    go_ret2
                    exact ⟨by rw [hv.out]; rfl, (Lib.hid (bdrew B1.out _)).out⟩
                  · have hno2 := Lib.hid (firstHit_miss hno.out (show hitS xs tm k = false from decide_eq_false (by rw [← hr.out]; exact fun e => hh e.symm)))
                    
                    go_wp2
                    go_quiet (fail)
                    go_wp2_with fail
                    exact ⟨⟨k + 1, (m + 1), by omega, rfl, by go_num, hr, hno2, HA.out.drewN _, (Lib.hid (bdrew B1.out _))⟩, by simp [intOf]; omega⟩
                · have hr := Lib.hid (show (1 : Int) = rowS xs (k + 1) from (rowS_one z (fun h => q2 h.2.2)).symm)
                  have e2 : (tf xs (k - 1) == tf xs k) = false := by simpa using q2
                  have e2' : decide (tf xs (k - 1) = tf xs k) = false := decide_eq_false q2
                  generalize k - 1 = k' at *
                  by_cases hh : tm = (1 : Int)
                  · have hv := Lib.hid (vStuck_0 HO.out.1 HO.out.2 hkl hno.out (by rw [← hr.out]; exact hh.symm))
                    
                    go_wp2
                    go_quiet (fail)
                    go_wp2_with fail
                    go_ret2
                    exact ⟨by rw [hv.out]; rfl, (Lib.hid (bdrew B1.out _)).out⟩
                  · have hno2 := Lib.hid (firstHit_miss hno.out (show hitS xs tm k = false from decide_eq_false (by rw [← hr.out]; exact fun e => hh e.symm)))
                    
                    go_wp2
                    go_quiet (fail)
                    go_wp2_with fail
                    exact ⟨⟨k + 1, (1 : Int), by omega, rfl, by go_num, hr, hno2, HA.out.drewN _, (Lib.hid (bdrew B1.out _))⟩, by simp [intOf]; omega⟩
              · have hr := Lib.hid (show (1 : Int) = rowS xs (k + 1) from (rowS_one z (fun h => q1 h.2.1)).symm)
                have e1 : (tc xs (k - 1) == tc xs k) = false := by simpa using q1
                have e1' : decide (tc xs (k - 1) = tc xs k) = false := decide_eq_false q1
                generalize k - 1 = k' at *
                by_cases hh : tm = (1 : Int)
                · have hv := Lib.hid (vStuck_0 HO.out.1 HO.out.2 hkl hno.out (by rw [← hr.out]; exact hh.symm))
                  
                  go_wp2
                  go_quiet (fail)
                  go_wp2_with fail
                  go_ret2
                  exact ⟨by rw [hv.out]; rfl, (Lib.hid (bdrew B1.out _)).out⟩
                · have hno2 := Lib.hid (firstHit_miss hno.out (show hitS xs tm k = false from decide_eq_false (by rw [← hr.out]; exact fun e => hh e.symm)))
                  
                  go_wp2
                  go_quiet (fail)
                  go_wp2_with fail
                  exact ⟨⟨k + 1, (1 : Int), by omega, rfl, by go_num, hr, hno2, HA.out.drewN _, (Lib.hid (bdrew B1.out _))⟩, by simp [intOf]; omega⟩
            · have hr := Lib.hid (show (1 : Int) = rowS xs (k + 1) from (rowS_one z (fun h => q0 (by rw [hm.out]; exact h.1))).symm)
              have q0' : decide (0 < m) = false := decide_eq_false q0
              have HA := Lib.hid A1
              clear A1
              by_cases hh : tm = (1 : Int)
              · have hv := Lib.hid (vStuck_0 HO.out.1 HO.out.2 hkl hno.out (by rw [← hr.out]; exact hh.symm))
                
                go_wp2
                go_quiet (fail)
                go_wp2_with fail
                go_ret2
                exact ⟨by rw [hv.out]; rfl, (Lib.hid (bdrew B1.out _)).out⟩
              · have hno2 := Lib.hid (firstHit_miss hno.out (show hitS xs tm k = false from decide_eq_false (by rw [← hr.out]; exact fun e => hh e.symm)))
                
                go_wp2
                go_quiet (fail)
                go_wp2_with fail
                exact ⟨⟨k + 1, (1 : Int), by omega, rfl, by go_num, hr, hno2, HA.out.drewN _, (Lib.hid (bdrew B1.out _))⟩, by simp [intOf]; omega⟩
        · obtain rfl : n = k := by omega
          have hv := Lib.hid (vStuck_6 HO.out.1 HO.out.2 (by rw [← HN.out]; exact hno.out))
          go_wp2_with fail
          go_ret2
          exact ⟨by rw [hv.out]; rfl, B1.out⟩

end Go.Proofs.Ytejbaoakpkpciaa

/-
  CONTRACTS: are two tallies the same but for their turns?
-/
namespace Go.Proofs.Ytejbaoakpkpciaa
open Go Go.ChangeShapes Go.WideShapes Go.ChangeAt Go.RowKit
set_option maxRecDepth 100000

theorem isRepeated_any (t c f t2 c2 f2 : Int) (w : World) :
    Calls Try.prog 29 #[.agg (t1 t c f), .agg (t1 t2 c2 f2)] w fun e w' => e = .returned (.bool (decide (c = c2 ∧ f = f2))) ∧ Below w.heap.size w w' := by
  have A0 : At ((w.alloc (.cells (t1 t c f) 32)).alloc (.cells (t1 t2 c2 f2) 32)) w.heap.size (t1 t c f) 32 := (At.new w _ _).alloc _
  have D0 : At ((w.alloc (.cells (t1 t c f) 32)).alloc (.cells (t1 t2 c2 f2) 32)) (w.heap.size + 1) (t1 t2 c2 f2) 32 := At.last1 w _ _ _
  have B0 := Lib.hid (bnew (b0 w (.cells (t1 t c f) 32)) (.cells (t1 t2 c2 f2) 32))
  have z0 := D0.cell (t1_0 _ _ _)
  have A1 := A0.setRow (t1 t2 c f)
  have D1 := D0.setRow_other (k := w.heap.size) (by omega) (t1 t2 c f)
  have B1 := Lib.hid (bset B0.out (g := w.heap.size) (by omega) (t1 t2 c f))
  have c0 := A1.cell (t1_0 _ _ _)
  have c1 := A1.cell (t1_1 _ _ _)
  have c2' := A1.cell (t1_2 _ _ _)
  have d0 := D1.cell (t1_0 _ _ _)
  have d1 := D1.cell (t1_1 _ _ _)
  have d2 := D1.cell (t1_2 _ _ _)
  clear A1 D0 D1 B0
  by_cases p : c = c2
  · by_cases q : f = f2
    · have hv := Lib.hid (decide_eq_true (And.intro p q))
      subst p q
      go_enter Try.func29, Try.ntmps29
      go_wp2_with (((with_reducible refine is_store 2 _ _ rfl ?_); refine wpList_store_cell rfl 2 _ _ rfl _ 0 rfl (.int .i64 t2) rfl (t1 t c f) _ (by with_reducible assumption) (by rw [t1_size]; omega) (by kernel_rfl) rfl (t1 t2 c f) (t1_s0 _ _ _ _) ?_))
      go_ret
      exact ⟨by first | rfl | (rw [hv.out]; rfl), B1.out⟩
    · have hv := Lib.hid (decide_eq_false (fun h : c = c2 ∧ f = f2 => q h.2))
      subst p
      have q1 : (f == f2) = false := by simpa using q
      have q2 : decide (f = f2) = false := decide_eq_false q
      go_enter Try.func29, Try.ntmps29
      go_wp2_with (((with_reducible refine is_store 2 _ _ rfl ?_); refine wpList_store_cell rfl 2 _ _ rfl _ 0 rfl (.int .i64 t2) rfl (t1 t c f) _ (by with_reducible assumption) (by rw [t1_size]; omega) (by kernel_rfl) rfl (t1 t2 c f) (t1_s0 _ _ _ _) ?_))
      go_ret
      exact ⟨by first | rfl | (rw [hv.out]; rfl), B1.out⟩
  · have hv := Lib.hid (decide_eq_false (fun h : c = c2 ∧ f = f2 => p h.1))
    have p1 : (c == c2) = false := by simpa using p
    have p2 : decide (c = c2) = false := decide_eq_false p
    go_enter Try.func29, Try.ntmps29
    go_wp2_with (((with_reducible refine is_store 2 _ _ rfl ?_); refine wpList_store_cell rfl 2 _ _ rfl _ 0 rfl (.int .i64 t2) rfl (t1 t c f) _ (by with_reducible assumption) (by rw [t1_size]; omega) (by kernel_rfl) rfl (t1 t2 c f) (t1_s0 _ _ _ _) ?_))
    go_ret
    exact ⟨by first | rfl | (rw [hv.out]; rfl), B1.out⟩

end Go.Proofs.Ytejbaoakpkpciaa
