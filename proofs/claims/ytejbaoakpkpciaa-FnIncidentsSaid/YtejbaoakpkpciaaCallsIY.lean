/-
  CONTRACTS: CallsOf, at tallies with a capacity.
-/
import Derived.Test.YtejbaoakpkpciaaG12
import Derived.Test.YtejbaoakpkpciaaCallsI
import Derived.Test.YtejbaoakpkpciaaVTlIY
namespace Go.Proofs.Ytejbaoakpkpciaa
open Go Go.ChangeShapes Go.WideShapes Go.ChangeAt Go.RowKit
set_option maxRecDepth 100000

set_option maxHeartbeats 1000000 in
theorem CallsOf_anyY (zx : Array Value) (G : Nat) (xs : Ts) (cap : Nat) (hW : TW xs) (hn : xs.length ≤ 1048576) (T : TypeId) (l : Int) (hcap : xs.length ≤ cap) (w : World) (h0 : At w G (tY xs zx) T) :
    Calls Try.prog 13 #[(.slice (some ⟨G, 0, none⟩) xs.length cap), .int .i16 l] w fun e w' => e = .returned (.tuple #[.agg (bl (vCalls xs l).1), .int .i64 (vCalls xs l).2]) ∧ Below w.heap.size w w' := by
  have KV := ValidTallies_anyY zx G xs cap hW hn T (w.alloc (.cells #[.bool false, .bool false, .bool false, .bool false, .bool false, .bool false, .bool false, .bool false] 36)) (h0.alloc _)
  have R0 := At.new w #[.bool false, .bool false, .bool false, .bool false, .bool false, .bool false, .bool false, .bool false] 36
  have B0 := Lib.hid (b0 w (.cells #[.bool false, .bool false, .bool false, .bool false, .bool false, .bool false, .bool false, .bool false] 36))
  cases h : okT xs
  · rw [vCalls_1 h]
    rw [h] at KV
    generalize xs.length = n at KV hcap
    go_enter Try.func13, Try.ntmps13
    go_wp2_with fail
    refine KV.mono ?_
    rintro e w1 ⟨rfl, hb1⟩
    have R1 := R0.step hb1
    have B1 := Lib.hid (bthen B0.out hb1)
    have R9 := R1.setRow (bl (noes 8))
    have B9 := Lib.hid (bset B1.out (g := w.heap.size) (Nat.le_refl _) (bl (noes 8)))
    go_wp2_with (((with_reducible refine is_store 36 _ _ rfl ?_); refine wpList_store_at rfl 36 _ _ rfl _ rfl (bl (noes 8)) rfl (#[.bool false, .bool false, .bool false, .bool false, .bool false, .bool false, .bool false, .bool false]) _ (by with_reducible assumption) 8 (by rw [bl_size, noes_len]) (rfl) (by kernel_rfl) (bl_one _) ?_))
    exact bodyPost_ret (v := .tuple #[.agg (bl (noes 8)), .int .i64 1]) (results_at_tmp (p := 4) (ty := 36) rfl _ _ _ (bl (noes 8)) _ (.int .i64 1) rfl rfl R9 _ Try.underlying36 rfl 8 (by rw [bl_size]; first | exact noes_len 8 | exact clK_len _ _ _) (by kernel_rfl)) rfl ⟨rfl, B9.out⟩
  · rw [h] at KV
    by_cases hl : 0 ≤ l
    · rw [vCalls_0 h hl]
      have h96 := okT_len h
      have HX := Lib.hid (And.intro h0 B0)
      have hln : ¬ l < 0 := by omega
      obtain ⟨n, hnn⟩ : ∃ n, n = xs.length := ⟨_, rfl⟩
      rw [← hnn] at h96 KV hcap ⊢
      have hM : min n 8 ≤ n ∧ min n 8 ≤ 8 := ⟨Nat.min_le_left _ _, Nat.min_le_right _ _⟩
      obtain ⟨M, hMe⟩ : ∃ M, M = min n 8 := ⟨_, rfl⟩
      rw [← hMe] at hM ⊢
      have HN := Lib.hid hnn
      have A0 := h0.alloc (.cells #[.bool false, .bool false, .bool false, .bool false, .bool false, .bool false, .bool false, .bool false] 36)
      have hG := h0.lt
      clear hnn h0 h hn hW
      by_cases c8 : n ≤ 8
      · have c8' : (n : Int) ≤ 8 := by omega
        obtain rfl : n = M := by omega
        clear hMe
        go_enter Try.func13, Try.ntmps13
        go_wp2_with fail
        refine KV.mono ?_
        rintro e w1 ⟨rfl, hb1⟩
        have R1 := R0.step hb1
        have A1 := A0.step hb1
        have B1 := Lib.hid (bthen B0.out hb1)
        have hs1 : w.heap.size < w1.heap.size := R1.lt
        clear R0 A0 B0 hb1 KV
        have X0 := At.new w1 #[.bool false, .bool false, .bool false, .bool false, .bool false, .bool false, .bool false, .bool false] 36
        have X1 := X0.setRow (bl (noes 8))
        have R2 := R1.alloc (.cells #[.bool false, .bool false, .bool false, .bool false, .bool false, .bool false, .bool false, .bool false] 36)
        have A2 := A1.alloc (.cells #[.bool false, .bool false, .bool false, .bool false, .bool false, .bool false, .bool false, .bool false] 36)
        have B2 := Lib.hid (bnew B1.out (.cells #[.bool false, .bool false, .bool false, .bool false, .bool false, .bool false, .bool false, .bool false] 36))
        have R3 := R2.setRow_other (k := w1.heap.size) (by omega) (bl (noes 8))
        have A3 := A2.setRow_other (k := w1.heap.size) (by have := A1.lt; omega) (bl (noes 8))
        have B3 := Lib.hid (bset B2.out (g := w1.heap.size) (by omega) (bl (noes 8)))
        clear X1 R3 A3 B3
        go_wp2_with fail
        go_loopw [22] (fun i wr => ∃ k : Nat, k ≤ n ∧ i = .int .i64 (k : Int) ∧ At wr w1.heap.size (bl (clK xs l k)) 36 ∧ At wr w.heap.size #[.bool false, .bool false, .bool false, .bool false, .bool false, .bool false, .bool false, .bool false] 36 ∧ At wr G (tY xs zx) T ∧ Hid (Below w.heap.size w wr)) (fun i _ => n - (intOf i).toNat)
        case atStart => exact ⟨0, by omega, rfl, by rw [clK_zero]; exact X0, R2, A2, B2⟩
        case round =>
          clear X0 R2 A2 B2 R1 A1 B1
          obtain ⟨k, hk, rfl, P1, Q1, A1, B1⟩ := hrel
          have hp1 := P1.lt
          by_cases hlt : k < n
          · have s2 : IntKind.i64.wrap ((k : Int) + 1) = (k : Int) + 1 := IntWalk.i64_in _ (by omega)
            have kd : (k : Int) < (n : Int) := by omega
            have kd2 : (k : Int) < (n : Int) := by omega
            have k8 : (k : Int) < 8 := by omega
            have hkl : k < xs.length := by rw [← HN.out]; omega
            have hsl := tY_tally zx hkl (k := k * 3) rfl
            have SS := tY_size xs zx
            have hle : k * 3 + 3 ≤ (tY xs zx).size := by omega
            have N0 := At.new wr #[.int .i64 0, .int .i16 0, .int .i16 0] 32
            have N1 := N0.setRow (t1 (tn xs k) (tc xs k) (tf xs k))
            have c1 := N1.cell (t1_1 _ _ _)
            have A2 := (A1.alloc (.cells #[.int .i64 0, .int .i16 0, .int .i16 0] 32)).setRow_other (k := wr.heap.size) (Nat.ne_of_lt A1.lt) (t1 (tn xs k) (tc xs k) (tf xs k))
            have B2 := Lib.hid (bset (bnew B1.out (.cells #[.int .i64 0, .int .i16 0, .int .i16 0] 32)) (g := wr.heap.size) B1.out.size (t1 (tn xs k) (tc xs k) (tf xs k)))
            clear B1 SS
            have P2 := (P1.alloc (.cells #[.int .i64 0, .int .i16 0, .int .i16 0] 32)).setRow_other (k := wr.heap.size) (Nat.ne_of_lt P1.lt) (t1 (tn xs k) (tc xs k) (tf xs k))
            have Q2 := (Q1.alloc (.cells #[.int .i64 0, .int .i16 0, .int .i16 0] 32)).setRow_other (k := wr.heap.size) (Nat.ne_of_lt Q1.lt) (t1 (tn xs k) (tc xs k) (tf xs k))
            have P3 := P2.setRow (bl (clK xs l (k + 1)))
            have Q3 := Q2.setRow_other (k := w1.heap.size) (by omega) (bl (clK xs l (k + 1)))
            have A3 := A2.setRow_other (k := w1.heap.size) (by omega) (bl (clK xs l (k + 1)))
            have B3 := Lib.hid (bset B2.out (g := w1.heap.size) (by omega) (bl (clK xs l (k + 1))))
            clear hkl
            go_wp2_with (first | ((with_reducible refine is_load 32 _ rfl ?_); refine wpList_load_part rfl 32 _ rfl _ (k * 3) rfl (tY xs zx) _ (by with_reducible assumption) 3 (hle) _ Try.underlying32 rfl (by kernel_rfl) ((t1 (tn xs k) (tc xs k) (tf xs k))) (hsl) ?_) | ((with_reducible refine is_store 32 _ _ rfl ?_); refine wpList_store_at rfl 32 _ _ rfl _ rfl ((t1 (tn xs k) (tc xs k) (tf xs k))) rfl (#[.int .i64 0, .int .i16 0, .int .i16 0]) _ (by with_reducible assumption) 3 (t1_size _ _ _) (rfl) (by kernel_rfl) (t1_one _ _ _) ?_) | ((with_reducible refine is_store 4 _ _ rfl ?_); refine wpList_store_cell rfl 4 _ _ rfl _ k rfl (.bool (decide (l ≤ tc xs k))) rfl (bl (clK xs l k)) _ (by with_reducible assumption) (by rw [bl_size, clK_len]; omega) (by kernel_rfl) rfl (bl (clK xs l (k + 1))) (by rw [bl_set, clK_set xs l (by omega)]) ?_))
            exact ⟨⟨k + 1, by omega, by go_num, P3, Q3, A3, B3⟩, by simp [intOf]; omega⟩
          · obtain rfl : n = k := by omega
            have R9 := Q1.setRow (bl (clK xs l n))
            have B9 := Lib.hid (bset B1.out (g := w.heap.size) (Nat.le_refl _) (bl (clK xs l n)))
    
            go_wp2_with (first | ((with_reducible refine is_load 36 _ rfl ?_); refine wpList_load_at rfl 36 _ rfl _ rfl (bl (clK xs l n)) _ (by with_reducible assumption) 8 (by rw [bl_size, clK_len]) _ Try.underlying36 rfl (by kernel_rfl) ?_) | ((with_reducible refine is_store 36 _ _ rfl ?_); refine wpList_store_at rfl 36 _ _ rfl _ rfl (bl (clK xs l n)) rfl (#[.bool false, .bool false, .bool false, .bool false, .bool false, .bool false, .bool false, .bool false]) _ (by with_reducible assumption) 8 (by rw [bl_size, clK_len]) (rfl) (by kernel_rfl) (bl_one _) ?_))
            exact bodyPost_ret (v := .tuple #[.agg (bl (clK xs l n)), .int .i64 0]) (results_at_tmp (p := 4) (ty := 36) rfl _ _ _ (bl (clK xs l n)) _ (.int .i64 0) rfl rfl R9 _ Try.underlying36 rfl 8 (by rw [bl_size]; first | exact noes_len 8 | exact clK_len _ _ _) (by kernel_rfl)) rfl ⟨rfl, B9.out⟩
      · have c8' : ¬ (n : Int) ≤ 8 := by omega
        have cap8 : 8 ≤ cap := by omega
        obtain rfl : 8 = M := by omega
        clear hMe
        go_enter Try.func13, Try.ntmps13
        go_wp2_with fail
        refine KV.mono ?_
        rintro e w1 ⟨rfl, hb1⟩
        have R1 := R0.step hb1
        have A1 := A0.step hb1
        have B1 := Lib.hid (bthen B0.out hb1)
        have hs1 : w.heap.size < w1.heap.size := R1.lt
        clear R0 A0 B0 hb1 KV
        have X0 := At.new w1 #[.bool false, .bool false, .bool false, .bool false, .bool false, .bool false, .bool false, .bool false] 36
        have X1 := X0.setRow (bl (noes 8))
        have R2 := R1.alloc (.cells #[.bool false, .bool false, .bool false, .bool false, .bool false, .bool false, .bool false, .bool false] 36)
        have A2 := A1.alloc (.cells #[.bool false, .bool false, .bool false, .bool false, .bool false, .bool false, .bool false, .bool false] 36)
        have B2 := Lib.hid (bnew B1.out (.cells #[.bool false, .bool false, .bool false, .bool false, .bool false, .bool false, .bool false, .bool false] 36))
        have R3 := R2.setRow_other (k := w1.heap.size) (by omega) (bl (noes 8))
        have A3 := A2.setRow_other (k := w1.heap.size) (by have := A1.lt; omega) (bl (noes 8))
        have B3 := Lib.hid (bset B2.out (g := w1.heap.size) (by omega) (bl (noes 8)))
        clear X1 R3 A3 B3
        go_wp2_with fail
        go_loopw [22] (fun i wr => ∃ k : Nat, k ≤ 8 ∧ i = .int .i64 (k : Int) ∧ At wr w1.heap.size (bl (clK xs l k)) 36 ∧ At wr w.heap.size #[.bool false, .bool false, .bool false, .bool false, .bool false, .bool false, .bool false, .bool false] 36 ∧ At wr G (tY xs zx) T ∧ Hid (Below w.heap.size w wr)) (fun i _ => 8 - (intOf i).toNat)
        case atStart => exact ⟨0, by omega, rfl, by rw [clK_zero]; exact X0, R2, A2, B2⟩
        case round =>
          clear X0 R2 A2 B2 R1 A1 B1
          obtain ⟨k, hk, rfl, P1, Q1, A1, B1⟩ := hrel
          have hp1 := P1.lt
          by_cases hlt : k < 8
          · have s2 : IntKind.i64.wrap ((k : Int) + 1) = (k : Int) + 1 := IntWalk.i64_in _ (by omega)
            have kd : (k : Int) < (8 : Int) := by omega
            have kd2 : (k : Int) < (n : Int) := by omega
            have k8 : (k : Int) < 8 := by omega
            have hkl : k < xs.length := by rw [← HN.out]; omega
            have hsl := tY_tally zx hkl (k := k * 3) rfl
            have SS := tY_size xs zx
            have hle : k * 3 + 3 ≤ (tY xs zx).size := by omega
            have N0 := At.new wr #[.int .i64 0, .int .i16 0, .int .i16 0] 32
            have N1 := N0.setRow (t1 (tn xs k) (tc xs k) (tf xs k))
            have c1 := N1.cell (t1_1 _ _ _)
            have A2 := (A1.alloc (.cells #[.int .i64 0, .int .i16 0, .int .i16 0] 32)).setRow_other (k := wr.heap.size) (Nat.ne_of_lt A1.lt) (t1 (tn xs k) (tc xs k) (tf xs k))
            have B2 := Lib.hid (bset (bnew B1.out (.cells #[.int .i64 0, .int .i16 0, .int .i16 0] 32)) (g := wr.heap.size) B1.out.size (t1 (tn xs k) (tc xs k) (tf xs k)))
            clear B1 SS
            have P2 := (P1.alloc (.cells #[.int .i64 0, .int .i16 0, .int .i16 0] 32)).setRow_other (k := wr.heap.size) (Nat.ne_of_lt P1.lt) (t1 (tn xs k) (tc xs k) (tf xs k))
            have Q2 := (Q1.alloc (.cells #[.int .i64 0, .int .i16 0, .int .i16 0] 32)).setRow_other (k := wr.heap.size) (Nat.ne_of_lt Q1.lt) (t1 (tn xs k) (tc xs k) (tf xs k))
            have P3 := P2.setRow (bl (clK xs l (k + 1)))
            have Q3 := Q2.setRow_other (k := w1.heap.size) (by omega) (bl (clK xs l (k + 1)))
            have A3 := A2.setRow_other (k := w1.heap.size) (by omega) (bl (clK xs l (k + 1)))
            have B3 := Lib.hid (bset B2.out (g := w1.heap.size) (by omega) (bl (clK xs l (k + 1))))
            clear hkl
            go_wp2_with (first | ((with_reducible refine is_load 32 _ rfl ?_); refine wpList_load_part rfl 32 _ rfl _ (k * 3) rfl (tY xs zx) _ (by with_reducible assumption) 3 (hle) _ Try.underlying32 rfl (by kernel_rfl) ((t1 (tn xs k) (tc xs k) (tf xs k))) (hsl) ?_) | ((with_reducible refine is_store 32 _ _ rfl ?_); refine wpList_store_at rfl 32 _ _ rfl _ rfl ((t1 (tn xs k) (tc xs k) (tf xs k))) rfl (#[.int .i64 0, .int .i16 0, .int .i16 0]) _ (by with_reducible assumption) 3 (t1_size _ _ _) (rfl) (by kernel_rfl) (t1_one _ _ _) ?_) | ((with_reducible refine is_store 4 _ _ rfl ?_); refine wpList_store_cell rfl 4 _ _ rfl _ k rfl (.bool (decide (l ≤ tc xs k))) rfl (bl (clK xs l k)) _ (by with_reducible assumption) (by rw [bl_size, clK_len]; omega) (by kernel_rfl) rfl (bl (clK xs l (k + 1))) (by rw [bl_set, clK_set xs l (by omega)]) ?_))
            exact ⟨⟨k + 1, by omega, by go_num, P3, Q3, A3, B3⟩, by simp [intOf]; omega⟩
          · obtain rfl : 8 = k := by omega
            have R9 := Q1.setRow (bl (clK xs l 8))
            have B9 := Lib.hid (bset B1.out (g := w.heap.size) (Nat.le_refl _) (bl (clK xs l 8)))
    
            go_wp2_with (first | ((with_reducible refine is_load 36 _ rfl ?_); refine wpList_load_at rfl 36 _ rfl _ rfl (bl (clK xs l 8)) _ (by with_reducible assumption) 8 (by rw [bl_size, clK_len]) _ Try.underlying36 rfl (by kernel_rfl) ?_) | ((with_reducible refine is_store 36 _ _ rfl ?_); refine wpList_store_at rfl 36 _ _ rfl _ rfl (bl (clK xs l 8)) rfl (#[.bool false, .bool false, .bool false, .bool false, .bool false, .bool false, .bool false, .bool false]) _ (by with_reducible assumption) 8 (by rw [bl_size, clK_len]) (rfl) (by kernel_rfl) (bl_one _) ?_))
            exact bodyPost_ret (v := .tuple #[.agg (bl (clK xs l 8)), .int .i64 0]) (results_at_tmp (p := 4) (ty := 36) rfl _ _ _ (bl (clK xs l 8)) _ (.int .i64 0) rfl rfl R9 _ Try.underlying36 rfl 8 (by rw [bl_size]; first | exact noes_len 8 | exact clK_len _ _ _) (by kernel_rfl)) rfl ⟨rfl, B9.out⟩
    · rw [vCalls_2 h hl]
      have hln : l < 0 := by omega
      generalize xs.length = n at KV hcap
      go_enter Try.func13, Try.ntmps13
      go_wp2_with fail
      refine KV.mono ?_
      rintro e w1 ⟨rfl, hb1⟩
      have R1 := R0.step hb1
      have B1 := Lib.hid (bthen B0.out hb1)
      have R9 := R1.setRow (bl (noes 8))
      have B9 := Lib.hid (bset B1.out (g := w.heap.size) (Nat.le_refl _) (bl (noes 8)))
      go_wp2_with (((with_reducible refine is_store 36 _ _ rfl ?_); refine wpList_store_at rfl 36 _ _ rfl _ rfl (bl (noes 8)) rfl (#[.bool false, .bool false, .bool false, .bool false, .bool false, .bool false, .bool false, .bool false]) _ (by with_reducible assumption) 8 (by rw [bl_size, noes_len]) (rfl) (by kernel_rfl) (bl_one _) ?_))
      exact bodyPost_ret (v := .tuple #[.agg (bl (noes 8)), .int .i64 2]) (results_at_tmp (p := 4) (ty := 36) rfl _ _ _ (bl (noes 8)) _ (.int .i64 2) rfl rfl R9 _ Try.underlying36 rfl 8 (by rw [bl_size]; first | exact noes_len 8 | exact clK_len _ _ _) (by kernel_rfl)) rfl ⟨rfl, B9.out⟩


end Go.Proofs.Ytejbaoakpkpciaa
