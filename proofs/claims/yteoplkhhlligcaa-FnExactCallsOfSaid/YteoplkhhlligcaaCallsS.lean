/-
  CONTRACTS: where counts are great enough, as the model has it.
-/
import Derived.Test.YteoplkhhlligcaaCallsL
namespace Go.Proofs.Yteoplkhhlligcaa
open Go Go.ChangeShapes Go.WideShapes Go.ChangeAt Go.RowKit
set_option maxRecDepth 100000

set_option maxHeartbeats 1000000 in
theorem sCallsOf_any (G : Nat) (xs : Ts) (cap : Nat) (hW : TW xs) (hn : xs.length ≤ 1048576) (T : TypeId) (l : Int) (w : World) (h0 : At w G (tC xs) T) :
    Calls Try.prog 42 #[(.slice (some ⟨G, 0, none⟩) xs.length cap), .int .i16 l] w fun e w' => e = .returned (.tuple #[.agg (bl (vCalls xs l).1), .int .i64 (vCalls xs l).2]) ∧ Below w.heap.size w w' := by
  have KV := l05List_any G xs cap hW hn T (w.alloc (.cells #[.bool false, .bool false, .bool false, .bool false, .bool false, .bool false, .bool false, .bool false] 58)) (h0.alloc _)
  have R0 := At.new w #[.bool false, .bool false, .bool false, .bool false, .bool false, .bool false, .bool false, .bool false] 58
  have B0 := Lib.hid (b0 w (.cells #[.bool false, .bool false, .bool false, .bool false, .bool false, .bool false, .bool false, .bool false] 58))
  cases h : okT xs
  · rw [vCalls_1 h]
    rw [h] at KV
    generalize xs.length = n at KV
    go_enter Try.func42, Try.ntmps42
    go_wp2_with fail
    refine KV.mono ?_
    rintro e w1 ⟨rfl, hb1⟩
    have R1 := R0.step hb1
    have B1 := Lib.hid (bthen B0.out hb1)
    have R9 := R1.setRow (bl (noes 8))
    have B9 := Lib.hid (bset B1.out (g := w.heap.size) (Nat.le_refl _) (bl (noes 8)))
    go_wp2_with (((with_reducible refine is_store 58 _ _ rfl ?_); refine wpList_store_at rfl 58 _ _ rfl _ rfl (bl (noes 8)) rfl (#[.bool false, .bool false, .bool false, .bool false, .bool false, .bool false, .bool false, .bool false]) _ (by with_reducible assumption) 8 (by rw [bl_size, noes_len]) (rfl) (by kernel_rfl) (bl_one _) ?_))
    exact bodyPost_ret (v := .tuple #[.agg (bl (noes 8)), .int .i64 1]) (results_at_tmp (p := 4) (ty := 58) rfl _ _ _ (bl (noes 8)) _ (.int .i64 1) rfl rfl R9 _ Try.underlying58 rfl 8 (by rw [bl_size]; first | exact noes_len 8 | exact clK_len _ _ _) (by kernel_rfl)) rfl ⟨rfl, B9.out⟩
  · rw [h] at KV
    by_cases hl : 0 ≤ l
    · rw [vCalls_0 h hl]
      have h96 := okT_len h
      have HX := Lib.hid (And.intro h0 B0)
      have hln : ¬ l < 0 := by omega
      obtain ⟨n, hnn⟩ : ∃ n, n = xs.length := ⟨_, rfl⟩
      rw [← hnn] at h96 KV ⊢
      have hM : min n 8 ≤ n ∧ min n 8 ≤ 8 := ⟨Nat.min_le_left _ _, Nat.min_le_right _ _⟩
      obtain ⟨M, hMe⟩ : ∃ M, M = min n 8 := ⟨_, rfl⟩
      rw [← hMe] at hM ⊢
      have HN := Lib.hid hnn
      have A0 := h0.alloc (.cells #[.bool false, .bool false, .bool false, .bool false, .bool false, .bool false, .bool false, .bool false] 58)
      have hG := h0.lt
      clear hnn h0 h hn hW
      go_enter Try.func42, Try.ntmps42
      go_wp2_with fail
      refine KV.mono ?_
      rintro e w1 ⟨rfl, hb1⟩
      have R1 := R0.step hb1
      have A1 := A0.step hb1
      have B1 := Lib.hid (bthen B0.out hb1)
      have hs1 : w.heap.size < w1.heap.size := R1.lt
      clear R0 A0 B0 hb1 KV
      have X0 := At.new w1 #[.bool false, .bool false, .bool false, .bool false, .bool false, .bool false, .bool false, .bool false] 58
      have X1 := X0.setRow (bl (noes 8))
      have R2 := R1.alloc (.cells #[.bool false, .bool false, .bool false, .bool false, .bool false, .bool false, .bool false, .bool false] 58)
      have A2 := A1.alloc (.cells #[.bool false, .bool false, .bool false, .bool false, .bool false, .bool false, .bool false, .bool false] 58)
      have B2 := Lib.hid (bnew B1.out (.cells #[.bool false, .bool false, .bool false, .bool false, .bool false, .bool false, .bool false, .bool false] 58))
      have R3 := R2.setRow_other (k := w1.heap.size) (by omega) (bl (noes 8))
      have A3 := A2.setRow_other (k := w1.heap.size) (by have := A1.lt; omega) (bl (noes 8))
      have B3 := Lib.hid (bset B2.out (g := w1.heap.size) (by omega) (bl (noes 8)))
      have S1 := X1
      clear X1 R1 R2 A1 A2 B1 B2
      go_wp2_with (((with_reducible refine is_store 58 _ _ rfl ?_); refine wpList_store_at rfl 58 _ _ rfl _ rfl (bl (noes 8)) rfl (#[.bool false, .bool false, .bool false, .bool false, .bool false, .bool false, .bool false, .bool false]) _ (by with_reducible assumption) 8 (by rw [bl_size, noes_len]) (rfl) (by kernel_rfl) (bl_one _) ?_))
      go_loopw [7] (fun i wr => ∃ k : Nat, k ≤ M ∧ i = .int .i64 (k : Int) ∧ At wr w1.heap.size (bl (clK xs l k)) 58 ∧ At wr w.heap.size #[.bool false, .bool false, .bool false, .bool false, .bool false, .bool false, .bool false, .bool false] 58 ∧ At wr G (tC xs) T ∧ Hid (Below w.heap.size w wr)) (fun i _ => M - (intOf i).toNat)
      case atStart => exact ⟨0, by omega, rfl, by rw [clK_zero]; exact S1, R3, A3, B3⟩
      case round =>
        clear X0 S1 R3 A3 B3
        obtain ⟨k, hk, rfl, P1, Q1, D1, C1⟩ := hrel
        have hp1 := P1.lt
        by_cases hlt : k < M
        · have s2 : IntKind.i64.wrap ((k : Int) + 1) = (k : Int) + 1 := IntWalk.i64_in _ (by omega)
          have kd : decide ((k : Int) < (n : Int)) = true := decide_eq_true (by omega)
          have kd' : (k : Int) < (n : Int) := by omega
          have k8 : (k : Int) < 8 := by omega
          have hkl : k < xs.length := by rw [← HN.out]; omega
          have c1 := D1.cell (tC_count hkl (k := k * 3 + 1) rfl)
          have P2 := P1.setRow (bl (clK xs l (k + 1)))
          have Q2 := Q1.setRow_other (k := w1.heap.size) (by omega) (bl (clK xs l (k + 1)))
          have D2 := D1.setRow_other (k := w1.heap.size) (by have := hG; omega) (bl (clK xs l (k + 1)))
          have C2 := Lib.hid (bset C1.out (g := w1.heap.size) (by omega) (bl (clK xs l (k + 1))))
          clear hkl
          go_wp2_with (((with_reducible refine is_store 4 _ _ rfl ?_); refine wpList_store_cell rfl 4 _ _ rfl _ k rfl (.bool (decide (l ≤ tc xs k))) rfl (bl (clK xs l k)) _ (by with_reducible assumption) (by rw [bl_size, clK_len]; omega) (by kernel_rfl) rfl (bl (clK xs l (k + 1))) (by rw [bl_set, clK_set xs l (by omega)]) ?_))
          exact ⟨⟨k + 1, by omega, by go_num, P2, Q2, D2, C2⟩, by simp [intOf]; omega⟩
        · obtain rfl : k = M := by omega
          have fin : decide ((k : Int) < (n : Int)) = false ∨ (decide ((k : Int) < (n : Int)) = true ∧ ¬ (k : Int) < 8) := by
            by_cases c : (k : Int) < (n : Int)
            · exact .inr ⟨decide_eq_true c, by omega⟩
            · exact .inl (decide_eq_false c)
          clear hMe hlt
          have R9 := Q1.setRow (bl (clK xs l k))
          have B9 := Lib.hid (bset C1.out (g := w.heap.size) (Nat.le_refl _) (bl (clK xs l k)))
          rcases fin with f1 | ⟨f1, f2⟩
          · have f1' : ¬ (k : Int) < (n : Int) := of_decide_eq_false f1
    
            go_wp2_with (first | ((with_reducible refine is_load 58 _ rfl ?_); refine wpList_load_at rfl 58 _ rfl _ rfl (bl (clK xs l k)) _ (by with_reducible assumption) 8 (by rw [bl_size, clK_len]) _ Try.underlying58 rfl (by kernel_rfl) ?_) | ((with_reducible refine is_store 58 _ _ rfl ?_); refine wpList_store_at rfl 58 _ _ rfl _ rfl (bl (clK xs l k)) rfl (#[.bool false, .bool false, .bool false, .bool false, .bool false, .bool false, .bool false, .bool false]) _ (by with_reducible assumption) 8 (by rw [bl_size, clK_len]) (rfl) (by kernel_rfl) (bl_one _) ?_))
            exact bodyPost_ret (v := .tuple #[.agg (bl (clK xs l k)), .int .i64 0]) (results_at_tmp (p := 4) (ty := 58) rfl _ _ _ (bl (clK xs l k)) _ (.int .i64 0) rfl rfl R9 _ Try.underlying58 rfl 8 (by rw [bl_size]; first | exact noes_len 8 | exact clK_len _ _ _) (by kernel_rfl)) rfl ⟨rfl, B9.out⟩
          · have f1' : (k : Int) < (n : Int) := of_decide_eq_true f1
    
            go_wp2_with (first | ((with_reducible refine is_load 58 _ rfl ?_); refine wpList_load_at rfl 58 _ rfl _ rfl (bl (clK xs l k)) _ (by with_reducible assumption) 8 (by rw [bl_size, clK_len]) _ Try.underlying58 rfl (by kernel_rfl) ?_) | ((with_reducible refine is_store 58 _ _ rfl ?_); refine wpList_store_at rfl 58 _ _ rfl _ rfl (bl (clK xs l k)) rfl (#[.bool false, .bool false, .bool false, .bool false, .bool false, .bool false, .bool false, .bool false]) _ (by with_reducible assumption) 8 (by rw [bl_size, clK_len]) (rfl) (by kernel_rfl) (bl_one _) ?_))
            exact bodyPost_ret (v := .tuple #[.agg (bl (clK xs l k)), .int .i64 0]) (results_at_tmp (p := 4) (ty := 58) rfl _ _ _ (bl (clK xs l k)) _ (.int .i64 0) rfl rfl R9 _ Try.underlying58 rfl 8 (by rw [bl_size]; first | exact noes_len 8 | exact clK_len _ _ _) (by kernel_rfl)) rfl ⟨rfl, B9.out⟩
    · rw [vCalls_2 h hl]
      have hln : l < 0 := by omega
      generalize xs.length = n at KV
      go_enter Try.func42, Try.ntmps42
      go_wp2_with fail
      refine KV.mono ?_
      rintro e w1 ⟨rfl, hb1⟩
      have R1 := R0.step hb1
      have B1 := Lib.hid (bthen B0.out hb1)
      have R9 := R1.setRow (bl (noes 8))
      have B9 := Lib.hid (bset B1.out (g := w.heap.size) (Nat.le_refl _) (bl (noes 8)))
      go_wp2_with (((with_reducible refine is_store 58 _ _ rfl ?_); refine wpList_store_at rfl 58 _ _ rfl _ rfl (bl (noes 8)) rfl (#[.bool false, .bool false, .bool false, .bool false, .bool false, .bool false, .bool false, .bool false]) _ (by with_reducible assumption) 8 (by rw [bl_size, noes_len]) (rfl) (by kernel_rfl) (bl_one _) ?_))
      exact bodyPost_ret (v := .tuple #[.agg (bl (noes 8)), .int .i64 2]) (results_at_tmp (p := 4) (ty := 58) rfl _ _ _ (bl (noes 8)) _ (.int .i64 2) rfl rfl R9 _ Try.underlying58 rfl 8 (by rw [bl_size]; first | exact noes_len 8 | exact clK_len _ _ _) (by kernel_rfl)) rfl ⟨rfl, B9.out⟩

end Go.Proofs.Yteoplkhhlligcaa
