/-
  CONTRACTS: two rows of four numbers that agree, NaNs too.
-/
import Derived.Test.YtdoilkhndkakkaaSum4
import Derived.Test.YtdoilkhndkakkaaTake
import Derived.IntWalk
namespace Go.Proofs.Ytdoilkhndkakkaa
open Go Go.RowKit
set_option maxRecDepth 100000

theorem x_conv' {P : Program} {o : Oper} {a : Act} {w w' : World} {v : Value} (src dst : TypeId) (x : Operand) (ho : o.op = .convert src dst x) (v0 : Value) (hx : a.eval x = v0) (hrun : (convert src dst v0).run P w = .ok v w') : (execOp a.eval o).run P w = .ok (.value v) w' := by
  unfold execOp
  simp only [ho, hx, Sem.run_bind, hrun, Sem.run_pure, Result.andThen_ok]
theorem x_index {P : Program} {o : Oper} {a : Act} {w : World} {v : Value} (ty : TypeId) (x y : Operand) (ho : o.op = .indexAddr ty x y) (hrun : (Instr.indexAt ty (a.eval x) (a.eval y)).run P w = .ok v w) : (execOp a.eval o).run P w = .ok (.value v) w := by
  unfold execOp
  simp only [ho, Sem.run_bind, hrun, Sem.run_pure, Result.andThen_ok]
theorem run_indexAddr_arr {P : Program} (w : World) (ty e : TypeId) (n k : Nat) (g off : Nat) (hu : P.underlying ty = some (.array n e)) (he : (P.info? e).map (·.size) = some 1) (hk : k < n) :
    (Instr.indexAt ty (.pointer (some ⟨g, off, none⟩)) (.int .i64 k)).run P w = .ok (.pointer (some ⟨g, off + k, none⟩)) w := by
  cases hq : P.info? e with
  | none => simp [hq] at he
  | some i =>
    have hs : i.size = 1 := by simpa [hq] using he
    by_cases h0 : k = 0
    · subst h0; simp [Instr.indexAt, Instr.sureAddr, asIntOf, run_underlying hu, hk, sizeOf, typeInfo, hq, hs, Addr.add]
    · simp [Instr.indexAt, Instr.sureAddr, asIntOf, run_underlying hu, hk, sizeOf, typeInfo, hq, hs, Addr.add, h0]

set_option maxHeartbeats 1000000 in
theorem eqFour_agr (xs ys : List Nat) (hl : xs.length = 4) (hl' : ys.length = 4) (hag : ∀ k, k < 4 → Agr (nth xs k) (nth ys k)) (w : World) :
    Calls Try.prog 31 #[.agg (fl xs), .agg (fl ys)] w fun e w' => e = .returned (.bool true) ∧ Below w.heap.size w w' := by
  go_enter Try.func31, Try.ntmps31
  go_wp2
  go_loopw [5] (fun i wr => ∃ k : Nat, k ≤ 4 ∧ i = .int .i64 k ∧ Two w (fl xs) 29 (fl ys) 29 wr) (fun i _ => 4 - (intOf i).toNat)
  case atStart => exact ⟨0, by omega, rfl, Two.mk _ _ _ _ _⟩
  case round =>
    obtain ⟨k, hk, rfl, hT⟩ := hrel
    by_cases hlt : k < 4
    · have ag := hag k hlt
      have s2 : IntKind.i64.wrap ((k : Int) + 1) = (k : Int) + 1 := IntWalk.i64_in _ (by omega)
      have kd : decide ((k : Int) < 4) = true := decide_eq_true (by omega)
      go_wp2
      refine wp_region_held (S := fun w' => At w' w.heap.size (fl xs) 29 ∧ At w' (w.heap.size + 1) (fl ys) 29) (by kernel_rfl) ?_
      show wpAnyH _ _ _ _ _ 10 (Array.replicate 10 false) _ _
      have T1 : Two w (fl xs) 29 (fl ys) 29 { wr with drawn := wr.drawn + 1 } := hT.drewN 1
      generalize ({ wr with drawn := wr.drawn + 1 } : World) = w1 at T1 ⊢
      clear hT
      have hSS : ∀ w', Two w (fl xs) 29 (fl ys) 29 w' → (fun w' => At w' w.heap.size (fl xs) 29 ∧ At w' (w.heap.size + 1) (fl ys) 29) w' := fun w' h => ⟨h.1, h.2.1⟩
      have A1 := hSS _ T1
      refine wpAnyH_take (i := 0) (v := .int .i64 k) rfl (by kernel_rfl) (by kernel_rfl) (by kernel_rfl) (fun _ _ _ h => h) (yif rfl fun w' hw' => x_move (.tmp 5) rfl) A1 ?_
      refine wpAnyH_take (i := 1) (v := .pointer (some ⟨w.heap.size, 0 + k, none⟩)) rfl (by kernel_rfl) (by kernel_rfl) (by kernel_rfl) (fun _ _ _ h => h) (yif rfl fun w' hw' => x_index 29 (.tmp 2) (.tmp 10) rfl (run_indexAddr_arr w' 29 22 4 k _ _ Try.underlying29 (by kernel_rfl) hlt)) A1 ?_
      refine wpAnyH_take (i := 2) (v := .float .f32 (nth xs k)) rfl (by kernel_rfl) (by kernel_rfl) (by kernel_rfl) (fun _ _ _ h => h) (yif rfl fun w' hw' => x_load 22 (.tmp 11) rfl _ rfl (run_load_cell w' 22 _ Try.underlying22 _ _ (hw'.1.cell (by rw [Nat.zero_add]; exact fl_get (by omega))))) A1 ?_
      refine wpAnyH_take (i := 4) (v := .int .i64 k) rfl (by kernel_rfl) (by kernel_rfl) (by kernel_rfl) (fun _ _ _ h => h) (yif rfl fun w' hw' => x_move (.tmp 5) rfl) A1 ?_
      refine wpAnyH_take (i := 5) (v := .pointer (some ⟨w.heap.size + 1, 0 + k, none⟩)) rfl (by kernel_rfl) (by kernel_rfl) (by kernel_rfl) (fun _ _ _ h => h) (yif rfl fun w' hw' => x_index 29 (.tmp 3) (.tmp 14) rfl (run_indexAddr_arr w' 29 22 4 k _ _ Try.underlying29 (by kernel_rfl) hlt)) A1 ?_
      refine wpAnyH_take (i := 6) (v := .float .f32 (nth ys k)) rfl (by kernel_rfl) (by kernel_rfl) (by kernel_rfl) (fun _ _ _ h => h) (yif rfl fun w' hw' => x_load 22 (.tmp 15) rfl _ rfl (run_load_cell w' 22 _ Try.underlying22 _ _ (hw'.2.cell (by rw [Nat.zero_add]; exact fl_get (by omega))))) A1 ?_
      refine wpAnyH_all (rs := [3, 7]) (by kernel_rfl) (by simp) fun i hi => ?_
      have hi' : i = 3 ∨ i = 7 := by simpa using hi
      clear hi
      rcases hi' with rfl | rfl
      · skip
        obtain ⟨X, n1, e1, qX⟩ := (wide_agr ag.1 w1)
        refine op_value rfl rfl (x_conv' 22 60 (.tmp 12) rfl (.float .f32 (nth xs k)) (by kernel_rfl) e1) ⟨hSS _ (T1.drewN n1), ?_⟩
        refine wpAnyH_all (rs := [7]) (by kernel_rfl) (by simp) fun i hi => ?_
        obtain rfl := one_of hi
        obtain ⟨Y, n2, e2, qY⟩ := (wide_agr ag.2.1 (w1.drewN n1))
        refine op_value rfl rfl (x_conv' 22 60 (.tmp 16) rfl (.float .f32 (nth ys k)) (by kernel_rfl) e2) ⟨hSS _ ((T1.drewN n1).drewN n2), ?_⟩
        refine wpAnyH_all (rs := [8]) (by kernel_rfl) (by simp) fun i hi => ?_
        obtain rfl := one_of hi
        refine op_call (f := 44) (args := #[.float .f64 X, .float .f64 Y]) rfl rfl (by kernel_rfl) ((sameFloat_agr ag qX qY _).mono ?_)
        rintro e w5 ⟨rfl, rfl⟩
        refine ⟨_, rfl, hSS _ ((T1.drewN n1).drewN n2), ?_⟩
        refine wpAnyH_all (rs := [9]) (by kernel_rfl) (by simp) fun i hi => ?_
        obtain rfl := one_of hi
        refine op_value (v := .bool false) rfl rfl (by kernel_rfl) ⟨hSS _ ((T1.drewN n1).drewN n2), ?_⟩
        refine wpAnyH_done (by kernel_rfl) ?_ _
        have hT2 : Two w (fl xs) 29 (fl ys) 29 ((w1.drewN n1).drewN n2) := (T1.drewN n1).drewN n2
        clear e1 e2 qX qY
        generalize (w1.drewN n1).drewN n2 = w6 at hT2 ⊢
        generalize hA : Act.put _ _ _ = A
        have eA : A = { tmps := #[.agg (fl xs), .agg (fl ys), .pointer (some ⟨w.heap.size, 0, none⟩), .pointer (some ⟨w.heap.size + 1, 0, none⟩), u4, .int .i64 k, .int .i64 k, .bool true, u8, u9, .int .i64 k, .pointer (some ⟨w.heap.size, 0 + k, none⟩), .float .f32 (nth xs k), .float .f64 X, .int .i64 k, .pointer (some ⟨w.heap.size + 1, 0 + k, none⟩), .float .f32 (nth ys k), .float .f64 Y, .bool true, .bool false], defers := [] } := by rw [← hA]; kernel_rfl
        clear hA
        subst eA
        go_wp2
        exact ⟨⟨k + 1, by omega, by go_num, hT2⟩, by simp [intOf]; omega⟩
      · skip
        obtain ⟨Y, n1, e1, qY⟩ := (wide_agr ag.2.1 w1)
        refine op_value rfl rfl (x_conv' 22 60 (.tmp 16) rfl (.float .f32 (nth ys k)) (by kernel_rfl) e1) ⟨hSS _ (T1.drewN n1), ?_⟩
        refine wpAnyH_all (rs := [3]) (by kernel_rfl) (by simp) fun i hi => ?_
        obtain rfl := one_of hi
        obtain ⟨X, n2, e2, qX⟩ := (wide_agr ag.1 (w1.drewN n1))
        refine op_value rfl rfl (x_conv' 22 60 (.tmp 12) rfl (.float .f32 (nth xs k)) (by kernel_rfl) e2) ⟨hSS _ ((T1.drewN n1).drewN n2), ?_⟩
        refine wpAnyH_all (rs := [8]) (by kernel_rfl) (by simp) fun i hi => ?_
        obtain rfl := one_of hi
        refine op_call (f := 44) (args := #[.float .f64 X, .float .f64 Y]) rfl rfl (by kernel_rfl) ((sameFloat_agr ag qX qY _).mono ?_)
        rintro e w5 ⟨rfl, rfl⟩
        refine ⟨_, rfl, hSS _ ((T1.drewN n1).drewN n2), ?_⟩
        refine wpAnyH_all (rs := [9]) (by kernel_rfl) (by simp) fun i hi => ?_
        obtain rfl := one_of hi
        refine op_value (v := .bool false) rfl rfl (by kernel_rfl) ⟨hSS _ ((T1.drewN n1).drewN n2), ?_⟩
        refine wpAnyH_done (by kernel_rfl) ?_ _
        have hT2 : Two w (fl xs) 29 (fl ys) 29 ((w1.drewN n1).drewN n2) := (T1.drewN n1).drewN n2
        clear e1 e2 qX qY
        generalize (w1.drewN n1).drewN n2 = w6 at hT2 ⊢
        generalize hA : Act.put _ _ _ = A
        have eA : A = { tmps := #[.agg (fl xs), .agg (fl ys), .pointer (some ⟨w.heap.size, 0, none⟩), .pointer (some ⟨w.heap.size + 1, 0, none⟩), u4, .int .i64 k, .int .i64 k, .bool true, u8, u9, .int .i64 k, .pointer (some ⟨w.heap.size, 0 + k, none⟩), .float .f32 (nth xs k), .float .f64 X, .int .i64 k, .pointer (some ⟨w.heap.size + 1, 0 + k, none⟩), .float .f32 (nth ys k), .float .f64 Y, .bool true, .bool false], defers := [] } := by rw [← hA]; kernel_rfl
        clear hA
        subst eA
        go_wp2
        exact ⟨⟨k + 1, by omega, by go_num, hT2⟩, by simp [intOf]; omega⟩
    · go_wp2
      go_ret
      exact ⟨rfl, hT.2.2⟩

end Go.Proofs.Ytdoilkhndkakkaa
