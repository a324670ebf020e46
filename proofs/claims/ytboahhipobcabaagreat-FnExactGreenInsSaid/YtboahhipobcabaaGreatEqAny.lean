/-
  CONTRACTS: rows of numbers held against themselves, NaNs too.
-/
import Derived.Test.YtboahhipobcabaaGreatG10
import Derived.Test.YtboahhipobcabaaGreatG11
import Derived.Test.YtboahhipobcabaaGreatG5
namespace Go.Proofs.YtboahhipobcabaaGreat
open Go Go.ChangeShapes Go.WideShapes Go.ChangeAt Go.RowKit
set_option maxRecDepth 100000

theorem run_indexJ {P : Program} (w : World) (ty e : TypeId) (n k s : Nat) (g off : Nat) (hu : P.underlying ty = some (.array n e)) (he : (P.info? e).map (·.size) = some s) (hk : k < n) :
    (Instr.indexAt ty (.pointer (some ⟨g, off, none⟩)) (.int .i64 k)).run P w = .ok (.pointer (some ⟨g, off + k * s, none⟩)) w := by
  cases hq : P.info? e with
  | none => simp [hq] at he
  | some i =>
    have hs : i.size = s := by simpa [hq] using he
    by_cases h0 : k * s = 0
    · simp [Instr.indexAt, Instr.sureAddr, asIntOf, run_underlying hu, hk, sizeOf, typeInfo, hq, hs, Addr.add, h0]
    · simp [Instr.indexAt, Instr.sureAddr, asIntOf, run_underlying hu, hk, sizeOf, typeInfo, hq, hs, Addr.add, h0]

theorem hs_convJ {P : Program} {o : Oper} {a : Act} {w w' : World} {v : Value} (s t : TypeId) (x : Operand) (ho : o.op = .convert s t x) (v1 : Value) (h1 : a.eval x = v1) (hrun : (convert s t v1).run P w = .ok v w') : (execOp a.eval o).run P w = .ok (.value v) w' := by
  unfold execOp
  simp only [ho, h1, Sem.run_bind, hrun, Sem.run_pure, Result.andThen_ok]

theorem drewN2e (W : World) (a b : Nat) : (W.drewN a).drewN b = W.drewN (a + b) := by simp [World.drewN, Nat.add_assoc]

theorem Agr.selfJ {x : Nat} (h : x < 4294967296) : Agr x x := ⟨h, h, by cases h : nanB x; exact .inr ⟨rfl, rfl⟩; exact .inl ⟨rfl, rfl⟩⟩

set_option maxHeartbeats 1000000 in
theorem eqCars_all (xs : List Nat) (hl : xs.length = 16) (hc : ∀ x ∈ xs, x < 4294967296) (w : World) :
    Calls Tryz.prog 109 #[.agg (fl xs), .agg (fl xs)] w fun e w' => e = .returned (.bool true) ∧ Below w.heap.size w w' := by
  go_enter Tryz.func109, Tryz.ntmps109
  go_wp2
  go_loopw [5] (fun i wr => ∃ k : Nat, k ≤ 16 ∧ i = .int .i64 (k : Int) ∧ Two w (fl xs) 62 (fl xs) 62 wr) (fun i _ => 16 - (intOf i).toNat)
  case atStart => exact ⟨0, by omega, rfl, Two.mk _ _ _ _ _⟩
  case round =>
    obtain ⟨k, hk, rfl, hT⟩ := hrel
    by_cases hlt : k < 16
    · have hxk : nth xs k < 4294967296 := u32_lt hc k
      have s2 : IntKind.i64.wrap ((k : Int) + 1) = (k : Int) + 1 := IntWalk.i64_in _ (by omega)
      have kd : (k : Int) < 16 := by omega
      go_wp2
      have L1 : ∀ w', (∃ m', w' = wr.drewN m') → (Instr.loadAt 26 (.pointer (some ⟨w.heap.size, 0 + k * 1, none⟩))).run Tryz.prog w' = .ok (.float .f32 (nth xs k)) w' := by
        rintro _ ⟨m', rfl⟩
        exact run_load_cell _ 26 _ Tryz.underlying26 _ _ (by rw [show 0 + k * 1 = k from by omega]; exact (hT.drewN m').cell1 (fl_get (xs := xs) (by omega)))
      have L2 : ∀ w', (∃ m', w' = wr.drewN m') → (Instr.loadAt 26 (.pointer (some ⟨w.heap.size + 1, 0 + k * 1, none⟩))).run Tryz.prog w' = .ok (.float .f32 (nth xs k)) w' := by
        rintro _ ⟨m', rfl⟩
        exact run_load_cell _ 26 _ Tryz.underlying26 _ _ (by rw [show 0 + k * 1 = k from by omega]; exact (hT.drewN m').cell2 (fl_get (xs := xs) (by omega)))
      refine wp_region_held (S := fun w' => ∃ m', w' = wr.drewN m') (by kernel_rfl) ?_
      show wpAnyH _ _ _ _ _ 10 (Array.replicate 10 false) _ _
      have S0 : ∃ m', ({ wr with drawn := wr.drawn + 1 } : World) = wr.drewN m' := ⟨1, rfl⟩
      generalize hw0 : ({ wr with drawn := wr.drawn + 1 } : World) = w0 at S0 ⊢
      clear hw0
      obtain ⟨m0, rfl⟩ := S0
      have S0 : ∃ m', wr.drewN m0 = wr.drewN m' := ⟨_, rfl⟩
      refine wpAnyH_take (i := 0) (v := .int .i64 (k : Int)) rfl (by kernel_rfl) (by kernel_rfl) (by kernel_rfl) (fun _ _ _ h => h) (yif rfl fun w2 hw2 => by kernel_rfl) (by assumption) ?_
      refine wpAnyH_take (i := 1) (v := .pointer (some ⟨w.heap.size, 0 + k * 1, none⟩)) rfl (by kernel_rfl) (by kernel_rfl) (by kernel_rfl) (fun _ _ _ h => h) (yif rfl fun w' hw' => hx_index 62 (.tmp 2) (.tmp 10) rfl (.pointer (some ⟨w.heap.size, 0, none⟩)) (.int .i64 (k : Int)) (by kernel_rfl) (by kernel_rfl) (run_indexJ w' 62 26 16 k 1 _ 0 Tryz.underlying62 (by kernel_rfl) hlt)) (by assumption) ?_
      refine wpAnyH_take (i := 2) (v := .float .f32 (nth xs k)) rfl (by kernel_rfl) (by kernel_rfl) (by kernel_rfl) (fun _ _ _ h => h) (yif rfl fun w' hw' => x_load 26 (.tmp 11) rfl ⟨w.heap.size, 0 + k * 1, none⟩ (by kernel_rfl) (L1 w' hw')) (by assumption) ?_
      refine wpAnyH_take (i := 4) (v := .int .i64 (k : Int)) rfl (by kernel_rfl) (by kernel_rfl) (by kernel_rfl) (fun _ _ _ h => h) (yif rfl fun w2 hw2 => by kernel_rfl) (by assumption) ?_
      refine wpAnyH_take (i := 5) (v := .pointer (some ⟨w.heap.size + 1, 0 + k * 1, none⟩)) rfl (by kernel_rfl) (by kernel_rfl) (by kernel_rfl) (fun _ _ _ h => h) (yif rfl fun w' hw' => hx_index 62 (.tmp 3) (.tmp 14) rfl (.pointer (some ⟨w.heap.size + 1, 0, none⟩)) (.int .i64 (k : Int)) (by kernel_rfl) (by kernel_rfl) (run_indexJ w' 62 26 16 k 1 _ 0 Tryz.underlying62 (by kernel_rfl) hlt)) (by assumption) ?_
      refine wpAnyH_take (i := 6) (v := .float .f32 (nth xs k)) rfl (by kernel_rfl) (by kernel_rfl) (by kernel_rfl) (fun _ _ _ h => h) (yif rfl fun w' hw' => x_load 26 (.tmp 15) rfl ⟨w.heap.size + 1, 0 + k * 1, none⟩ (by kernel_rfl) (L2 w' hw')) (by assumption) ?_
      refine wpAnyH_all (rs := [3, 7]) (by kernel_rfl) (by simp) fun i' hi' => ?_
      have hi2 : i' = 3 ∨ i' = 7 := by simpa using hi'
      clear hi'
      rcases hi2 with rfl | rfl
      · obtain ⟨X, n1, e1, hX⟩ := wide_agr hxk (wr.drewN m0)
        refine op_value (v := .float .f64 X) rfl rfl (hs_convJ 26 96 (.tmp 12) rfl (.float .f32 (nth xs k)) (by kernel_rfl) e1) ⟨⟨_, by first | exact drewN2e _ _ _ | rw [drewN2e, drewN2e]⟩, ?_⟩
        refine wpAnyH_all (rs := [7]) (by kernel_rfl) (by simp) fun i' hi'' => ?_
        obtain rfl := one_of hi''
        obtain ⟨Y, n2, e2, hY⟩ := wide_agr hxk ((wr.drewN m0).drewN n1)
        refine op_value (v := .float .f64 Y) rfl rfl (hs_convJ 26 96 (.tmp 16) rfl (.float .f32 (nth xs k)) (by kernel_rfl) e2) ⟨⟨_, by first | exact drewN2e _ _ _ | rw [drewN2e, drewN2e]⟩, ?_⟩
        refine wpAnyH_all (rs := [8]) (by kernel_rfl) (by simp) fun i' hi'' => ?_
        obtain rfl := one_of hi''
        refine op_call (f := 38) (args := #[.float .f64 X, .float .f64 Y]) rfl rfl (by kernel_rfl) ((sameFloat_agr (Agr.selfJ hxk) hX hY _).mono ?_)
        rintro e w9 ⟨rfl, rfl⟩
        refine ⟨_, rfl, ⟨_, by rw [drewN2e, drewN2e]⟩, ?_⟩
        refine wpAnyH_take (i := 9) (v := .bool false) rfl (by kernel_rfl) (by kernel_rfl) (by kernel_rfl) (fun _ _ _ h => h) (yif rfl fun w2 hw2 => by kernel_rfl) ⟨_, by rw [drewN2e, drewN2e]⟩ ?_
        refine wpAnyH_done (by kernel_rfl) ?_ _
        clear hX hY L1 L2 hxk
        go_simp
        go_wp2
        exact ⟨⟨k + 1, by omega, by go_num, hT.drewN _⟩, by simp [intOf]; omega⟩
      · obtain ⟨Y, n2, e2, hY⟩ := wide_agr hxk (wr.drewN m0)
        refine op_value (v := .float .f64 Y) rfl rfl (hs_convJ 26 96 (.tmp 16) rfl (.float .f32 (nth xs k)) (by kernel_rfl) e2) ⟨⟨_, by first | exact drewN2e _ _ _ | rw [drewN2e, drewN2e]⟩, ?_⟩
        refine wpAnyH_all (rs := [3]) (by kernel_rfl) (by simp) fun i' hi'' => ?_
        obtain rfl := one_of hi''
        obtain ⟨X, n1, e1, hX⟩ := wide_agr hxk ((wr.drewN m0).drewN n2)
        refine op_value (v := .float .f64 X) rfl rfl (hs_convJ 26 96 (.tmp 12) rfl (.float .f32 (nth xs k)) (by kernel_rfl) e1) ⟨⟨_, by first | exact drewN2e _ _ _ | rw [drewN2e, drewN2e]⟩, ?_⟩
        refine wpAnyH_all (rs := [8]) (by kernel_rfl) (by simp) fun i' hi'' => ?_
        obtain rfl := one_of hi''
        refine op_call (f := 38) (args := #[.float .f64 X, .float .f64 Y]) rfl rfl (by kernel_rfl) ((sameFloat_agr (Agr.selfJ hxk) hX hY _).mono ?_)
        rintro e w9 ⟨rfl, rfl⟩
        refine ⟨_, rfl, ⟨_, by rw [drewN2e, drewN2e]⟩, ?_⟩
        refine wpAnyH_take (i := 9) (v := .bool false) rfl (by kernel_rfl) (by kernel_rfl) (by kernel_rfl) (fun _ _ _ h => h) (yif rfl fun w2 hw2 => by kernel_rfl) ⟨_, by rw [drewN2e, drewN2e]⟩ ?_
        refine wpAnyH_done (by kernel_rfl) ?_ _
        clear hX hY L1 L2 hxk
        go_simp
        go_wp2
        exact ⟨⟨k + 1, by omega, by go_num, hT.drewN _⟩, by simp [intOf]; omega⟩
    · go_wp2
      go_ret
      exact ⟨rfl, hT.2.2⟩

set_option maxHeartbeats 1000000 in
theorem eqFloat32A4_all (xs : List Nat) (hl : xs.length = 4) (hc : ∀ x ∈ xs, x < 4294967296) (w : World) :
    Calls Tryz.prog 164 #[.agg (fl xs), .agg (fl xs)] w fun e w' => e = .returned (.bool true) ∧ Below w.heap.size w w' := by
  go_enter Tryz.func164, Tryz.ntmps164
  go_wp2
  go_loopw [5] (fun i wr => ∃ k : Nat, k ≤ 4 ∧ i = .int .i64 (k : Int) ∧ Two w (fl xs) 65 (fl xs) 65 wr) (fun i _ => 4 - (intOf i).toNat)
  case atStart => exact ⟨0, by omega, rfl, Two.mk _ _ _ _ _⟩
  case round =>
    obtain ⟨k, hk, rfl, hT⟩ := hrel
    by_cases hlt : k < 4
    · have hxk : nth xs k < 4294967296 := u32_lt hc k
      have s2 : IntKind.i64.wrap ((k : Int) + 1) = (k : Int) + 1 := IntWalk.i64_in _ (by omega)
      have kd : (k : Int) < 4 := by omega
      go_wp2
      have L1 : ∀ w', (∃ m', w' = wr.drewN m') → (Instr.loadAt 26 (.pointer (some ⟨w.heap.size, 0 + k * 1, none⟩))).run Tryz.prog w' = .ok (.float .f32 (nth xs k)) w' := by
        rintro _ ⟨m', rfl⟩
        exact run_load_cell _ 26 _ Tryz.underlying26 _ _ (by rw [show 0 + k * 1 = k from by omega]; exact (hT.drewN m').cell1 (fl_get (xs := xs) (by omega)))
      have L2 : ∀ w', (∃ m', w' = wr.drewN m') → (Instr.loadAt 26 (.pointer (some ⟨w.heap.size + 1, 0 + k * 1, none⟩))).run Tryz.prog w' = .ok (.float .f32 (nth xs k)) w' := by
        rintro _ ⟨m', rfl⟩
        exact run_load_cell _ 26 _ Tryz.underlying26 _ _ (by rw [show 0 + k * 1 = k from by omega]; exact (hT.drewN m').cell2 (fl_get (xs := xs) (by omega)))
      refine wp_region_held (S := fun w' => ∃ m', w' = wr.drewN m') (by kernel_rfl) ?_
      show wpAnyH _ _ _ _ _ 10 (Array.replicate 10 false) _ _
      have S0 : ∃ m', ({ wr with drawn := wr.drawn + 1 } : World) = wr.drewN m' := ⟨1, rfl⟩
      generalize hw0 : ({ wr with drawn := wr.drawn + 1 } : World) = w0 at S0 ⊢
      clear hw0
      obtain ⟨m0, rfl⟩ := S0
      have S0 : ∃ m', wr.drewN m0 = wr.drewN m' := ⟨_, rfl⟩
      refine wpAnyH_take (i := 0) (v := .int .i64 (k : Int)) rfl (by kernel_rfl) (by kernel_rfl) (by kernel_rfl) (fun _ _ _ h => h) (yif rfl fun w2 hw2 => by kernel_rfl) (by assumption) ?_
      refine wpAnyH_take (i := 1) (v := .pointer (some ⟨w.heap.size, 0 + k * 1, none⟩)) rfl (by kernel_rfl) (by kernel_rfl) (by kernel_rfl) (fun _ _ _ h => h) (yif rfl fun w' hw' => hx_index 65 (.tmp 2) (.tmp 10) rfl (.pointer (some ⟨w.heap.size, 0, none⟩)) (.int .i64 (k : Int)) (by kernel_rfl) (by kernel_rfl) (run_indexJ w' 65 26 4 k 1 _ 0 Tryz.underlying65 (by kernel_rfl) hlt)) (by assumption) ?_
      refine wpAnyH_take (i := 2) (v := .float .f32 (nth xs k)) rfl (by kernel_rfl) (by kernel_rfl) (by kernel_rfl) (fun _ _ _ h => h) (yif rfl fun w' hw' => x_load 26 (.tmp 11) rfl ⟨w.heap.size, 0 + k * 1, none⟩ (by kernel_rfl) (L1 w' hw')) (by assumption) ?_
      refine wpAnyH_take (i := 4) (v := .int .i64 (k : Int)) rfl (by kernel_rfl) (by kernel_rfl) (by kernel_rfl) (fun _ _ _ h => h) (yif rfl fun w2 hw2 => by kernel_rfl) (by assumption) ?_
      refine wpAnyH_take (i := 5) (v := .pointer (some ⟨w.heap.size + 1, 0 + k * 1, none⟩)) rfl (by kernel_rfl) (by kernel_rfl) (by kernel_rfl) (fun _ _ _ h => h) (yif rfl fun w' hw' => hx_index 65 (.tmp 3) (.tmp 14) rfl (.pointer (some ⟨w.heap.size + 1, 0, none⟩)) (.int .i64 (k : Int)) (by kernel_rfl) (by kernel_rfl) (run_indexJ w' 65 26 4 k 1 _ 0 Tryz.underlying65 (by kernel_rfl) hlt)) (by assumption) ?_
      refine wpAnyH_take (i := 6) (v := .float .f32 (nth xs k)) rfl (by kernel_rfl) (by kernel_rfl) (by kernel_rfl) (fun _ _ _ h => h) (yif rfl fun w' hw' => x_load 26 (.tmp 15) rfl ⟨w.heap.size + 1, 0 + k * 1, none⟩ (by kernel_rfl) (L2 w' hw')) (by assumption) ?_
      refine wpAnyH_all (rs := [3, 7]) (by kernel_rfl) (by simp) fun i' hi' => ?_
      have hi2 : i' = 3 ∨ i' = 7 := by simpa using hi'
      clear hi'
      rcases hi2 with rfl | rfl
      · obtain ⟨X, n1, e1, hX⟩ := wide_agr hxk (wr.drewN m0)
        refine op_value (v := .float .f64 X) rfl rfl (hs_convJ 26 96 (.tmp 12) rfl (.float .f32 (nth xs k)) (by kernel_rfl) e1) ⟨⟨_, by first | exact drewN2e _ _ _ | rw [drewN2e, drewN2e]⟩, ?_⟩
        refine wpAnyH_all (rs := [7]) (by kernel_rfl) (by simp) fun i' hi'' => ?_
        obtain rfl := one_of hi''
        obtain ⟨Y, n2, e2, hY⟩ := wide_agr hxk ((wr.drewN m0).drewN n1)
        refine op_value (v := .float .f64 Y) rfl rfl (hs_convJ 26 96 (.tmp 16) rfl (.float .f32 (nth xs k)) (by kernel_rfl) e2) ⟨⟨_, by first | exact drewN2e _ _ _ | rw [drewN2e, drewN2e]⟩, ?_⟩
        refine wpAnyH_all (rs := [8]) (by kernel_rfl) (by simp) fun i' hi'' => ?_
        obtain rfl := one_of hi''
        refine op_call (f := 38) (args := #[.float .f64 X, .float .f64 Y]) rfl rfl (by kernel_rfl) ((sameFloat_agr (Agr.selfJ hxk) hX hY _).mono ?_)
        rintro e w9 ⟨rfl, rfl⟩
        refine ⟨_, rfl, ⟨_, by rw [drewN2e, drewN2e]⟩, ?_⟩
        refine wpAnyH_take (i := 9) (v := .bool false) rfl (by kernel_rfl) (by kernel_rfl) (by kernel_rfl) (fun _ _ _ h => h) (yif rfl fun w2 hw2 => by kernel_rfl) ⟨_, by rw [drewN2e, drewN2e]⟩ ?_
        refine wpAnyH_done (by kernel_rfl) ?_ _
        clear hX hY L1 L2 hxk
        go_simp
        go_wp2
        exact ⟨⟨k + 1, by omega, by go_num, hT.drewN _⟩, by simp [intOf]; omega⟩
      · obtain ⟨Y, n2, e2, hY⟩ := wide_agr hxk (wr.drewN m0)
        refine op_value (v := .float .f64 Y) rfl rfl (hs_convJ 26 96 (.tmp 16) rfl (.float .f32 (nth xs k)) (by kernel_rfl) e2) ⟨⟨_, by first | exact drewN2e _ _ _ | rw [drewN2e, drewN2e]⟩, ?_⟩
        refine wpAnyH_all (rs := [3]) (by kernel_rfl) (by simp) fun i' hi'' => ?_
        obtain rfl := one_of hi''
        obtain ⟨X, n1, e1, hX⟩ := wide_agr hxk ((wr.drewN m0).drewN n2)
        refine op_value (v := .float .f64 X) rfl rfl (hs_convJ 26 96 (.tmp 12) rfl (.float .f32 (nth xs k)) (by kernel_rfl) e1) ⟨⟨_, by first | exact drewN2e _ _ _ | rw [drewN2e, drewN2e]⟩, ?_⟩
        refine wpAnyH_all (rs := [8]) (by kernel_rfl) (by simp) fun i' hi'' => ?_
        obtain rfl := one_of hi''
        refine op_call (f := 38) (args := #[.float .f64 X, .float .f64 Y]) rfl rfl (by kernel_rfl) ((sameFloat_agr (Agr.selfJ hxk) hX hY _).mono ?_)
        rintro e w9 ⟨rfl, rfl⟩
        refine ⟨_, rfl, ⟨_, by rw [drewN2e, drewN2e]⟩, ?_⟩
        refine wpAnyH_take (i := 9) (v := .bool false) rfl (by kernel_rfl) (by kernel_rfl) (by kernel_rfl) (fun _ _ _ h => h) (yif rfl fun w2 hw2 => by kernel_rfl) ⟨_, by rw [drewN2e, drewN2e]⟩ ?_
        refine wpAnyH_done (by kernel_rfl) ?_ _
        clear hX hY L1 L2 hxk
        go_simp
        go_wp2
        exact ⟨⟨k + 1, by omega, by go_num, hT.drewN _⟩, by simp [intOf]; omega⟩
    · go_wp2
      go_ret
      exact ⟨rfl, hT.2.2⟩

set_option maxHeartbeats 1000000 in
theorem eqFour_all (xs : List Nat) (hl : xs.length = 4) (hc : ∀ x ∈ xs, x < 4294967296) (w : World) :
    Calls Tryz.prog 142 #[.agg (fl xs), .agg (fl xs)] w fun e w' => e = .returned (.bool true) ∧ Below w.heap.size w w' := by
  go_enter Tryz.func142, Tryz.ntmps142
  go_wp2
  go_loopw [5] (fun i wr => ∃ k : Nat, k ≤ 4 ∧ i = .int .i64 (k : Int) ∧ Two w (fl xs) 68 (fl xs) 68 wr) (fun i _ => 4 - (intOf i).toNat)
  case atStart => exact ⟨0, by omega, rfl, Two.mk _ _ _ _ _⟩
  case round =>
    obtain ⟨k, hk, rfl, hT⟩ := hrel
    by_cases hlt : k < 4
    · have hxk : nth xs k < 4294967296 := u32_lt hc k
      have s2 : IntKind.i64.wrap ((k : Int) + 1) = (k : Int) + 1 := IntWalk.i64_in _ (by omega)
      have kd : (k : Int) < 4 := by omega
      go_wp2
      have L1 : ∀ w', (∃ m', w' = wr.drewN m') → (Instr.loadAt 26 (.pointer (some ⟨w.heap.size, 0 + k * 1, none⟩))).run Tryz.prog w' = .ok (.float .f32 (nth xs k)) w' := by
        rintro _ ⟨m', rfl⟩
        exact run_load_cell _ 26 _ Tryz.underlying26 _ _ (by rw [show 0 + k * 1 = k from by omega]; exact (hT.drewN m').cell1 (fl_get (xs := xs) (by omega)))
      have L2 : ∀ w', (∃ m', w' = wr.drewN m') → (Instr.loadAt 26 (.pointer (some ⟨w.heap.size + 1, 0 + k * 1, none⟩))).run Tryz.prog w' = .ok (.float .f32 (nth xs k)) w' := by
        rintro _ ⟨m', rfl⟩
        exact run_load_cell _ 26 _ Tryz.underlying26 _ _ (by rw [show 0 + k * 1 = k from by omega]; exact (hT.drewN m').cell2 (fl_get (xs := xs) (by omega)))
      refine wp_region_held (S := fun w' => ∃ m', w' = wr.drewN m') (by kernel_rfl) ?_
      show wpAnyH _ _ _ _ _ 10 (Array.replicate 10 false) _ _
      have S0 : ∃ m', ({ wr with drawn := wr.drawn + 1 } : World) = wr.drewN m' := ⟨1, rfl⟩
      generalize hw0 : ({ wr with drawn := wr.drawn + 1 } : World) = w0 at S0 ⊢
      clear hw0
      obtain ⟨m0, rfl⟩ := S0
      have S0 : ∃ m', wr.drewN m0 = wr.drewN m' := ⟨_, rfl⟩
      refine wpAnyH_take (i := 0) (v := .int .i64 (k : Int)) rfl (by kernel_rfl) (by kernel_rfl) (by kernel_rfl) (fun _ _ _ h => h) (yif rfl fun w2 hw2 => by kernel_rfl) (by assumption) ?_
      refine wpAnyH_take (i := 1) (v := .pointer (some ⟨w.heap.size, 0 + k * 1, none⟩)) rfl (by kernel_rfl) (by kernel_rfl) (by kernel_rfl) (fun _ _ _ h => h) (yif rfl fun w' hw' => hx_index 68 (.tmp 2) (.tmp 10) rfl (.pointer (some ⟨w.heap.size, 0, none⟩)) (.int .i64 (k : Int)) (by kernel_rfl) (by kernel_rfl) (run_indexJ w' 68 26 4 k 1 _ 0 Tryz.underlying68 (by kernel_rfl) hlt)) (by assumption) ?_
      refine wpAnyH_take (i := 2) (v := .float .f32 (nth xs k)) rfl (by kernel_rfl) (by kernel_rfl) (by kernel_rfl) (fun _ _ _ h => h) (yif rfl fun w' hw' => x_load 26 (.tmp 11) rfl ⟨w.heap.size, 0 + k * 1, none⟩ (by kernel_rfl) (L1 w' hw')) (by assumption) ?_
      refine wpAnyH_take (i := 4) (v := .int .i64 (k : Int)) rfl (by kernel_rfl) (by kernel_rfl) (by kernel_rfl) (fun _ _ _ h => h) (yif rfl fun w2 hw2 => by kernel_rfl) (by assumption) ?_
      refine wpAnyH_take (i := 5) (v := .pointer (some ⟨w.heap.size + 1, 0 + k * 1, none⟩)) rfl (by kernel_rfl) (by kernel_rfl) (by kernel_rfl) (fun _ _ _ h => h) (yif rfl fun w' hw' => hx_index 68 (.tmp 3) (.tmp 14) rfl (.pointer (some ⟨w.heap.size + 1, 0, none⟩)) (.int .i64 (k : Int)) (by kernel_rfl) (by kernel_rfl) (run_indexJ w' 68 26 4 k 1 _ 0 Tryz.underlying68 (by kernel_rfl) hlt)) (by assumption) ?_
      refine wpAnyH_take (i := 6) (v := .float .f32 (nth xs k)) rfl (by kernel_rfl) (by kernel_rfl) (by kernel_rfl) (fun _ _ _ h => h) (yif rfl fun w' hw' => x_load 26 (.tmp 15) rfl ⟨w.heap.size + 1, 0 + k * 1, none⟩ (by kernel_rfl) (L2 w' hw')) (by assumption) ?_
      refine wpAnyH_all (rs := [3, 7]) (by kernel_rfl) (by simp) fun i' hi' => ?_
      have hi2 : i' = 3 ∨ i' = 7 := by simpa using hi'
      clear hi'
      rcases hi2 with rfl | rfl
      · obtain ⟨X, n1, e1, hX⟩ := wide_agr hxk (wr.drewN m0)
        refine op_value (v := .float .f64 X) rfl rfl (hs_convJ 26 96 (.tmp 12) rfl (.float .f32 (nth xs k)) (by kernel_rfl) e1) ⟨⟨_, by first | exact drewN2e _ _ _ | rw [drewN2e, drewN2e]⟩, ?_⟩
        refine wpAnyH_all (rs := [7]) (by kernel_rfl) (by simp) fun i' hi'' => ?_
        obtain rfl := one_of hi''
        obtain ⟨Y, n2, e2, hY⟩ := wide_agr hxk ((wr.drewN m0).drewN n1)
        refine op_value (v := .float .f64 Y) rfl rfl (hs_convJ 26 96 (.tmp 16) rfl (.float .f32 (nth xs k)) (by kernel_rfl) e2) ⟨⟨_, by first | exact drewN2e _ _ _ | rw [drewN2e, drewN2e]⟩, ?_⟩
        refine wpAnyH_all (rs := [8]) (by kernel_rfl) (by simp) fun i' hi'' => ?_
        obtain rfl := one_of hi''
        refine op_call (f := 38) (args := #[.float .f64 X, .float .f64 Y]) rfl rfl (by kernel_rfl) ((sameFloat_agr (Agr.selfJ hxk) hX hY _).mono ?_)
        rintro e w9 ⟨rfl, rfl⟩
        refine ⟨_, rfl, ⟨_, by rw [drewN2e, drewN2e]⟩, ?_⟩
        refine wpAnyH_take (i := 9) (v := .bool false) rfl (by kernel_rfl) (by kernel_rfl) (by kernel_rfl) (fun _ _ _ h => h) (yif rfl fun w2 hw2 => by kernel_rfl) ⟨_, by rw [drewN2e, drewN2e]⟩ ?_
        refine wpAnyH_done (by kernel_rfl) ?_ _
        clear hX hY L1 L2 hxk
        go_simp
        go_wp2
        exact ⟨⟨k + 1, by omega, by go_num, hT.drewN _⟩, by simp [intOf]; omega⟩
      · obtain ⟨Y, n2, e2, hY⟩ := wide_agr hxk (wr.drewN m0)
        refine op_value (v := .float .f64 Y) rfl rfl (hs_convJ 26 96 (.tmp 16) rfl (.float .f32 (nth xs k)) (by kernel_rfl) e2) ⟨⟨_, by first | exact drewN2e _ _ _ | rw [drewN2e, drewN2e]⟩, ?_⟩
        refine wpAnyH_all (rs := [3]) (by kernel_rfl) (by simp) fun i' hi'' => ?_
        obtain rfl := one_of hi''
        obtain ⟨X, n1, e1, hX⟩ := wide_agr hxk ((wr.drewN m0).drewN n2)
        refine op_value (v := .float .f64 X) rfl rfl (hs_convJ 26 96 (.tmp 12) rfl (.float .f32 (nth xs k)) (by kernel_rfl) e1) ⟨⟨_, by first | exact drewN2e _ _ _ | rw [drewN2e, drewN2e]⟩, ?_⟩
        refine wpAnyH_all (rs := [8]) (by kernel_rfl) (by simp) fun i' hi'' => ?_
        obtain rfl := one_of hi''
        refine op_call (f := 38) (args := #[.float .f64 X, .float .f64 Y]) rfl rfl (by kernel_rfl) ((sameFloat_agr (Agr.selfJ hxk) hX hY _).mono ?_)
        rintro e w9 ⟨rfl, rfl⟩
        refine ⟨_, rfl, ⟨_, by rw [drewN2e, drewN2e]⟩, ?_⟩
        refine wpAnyH_take (i := 9) (v := .bool false) rfl (by kernel_rfl) (by kernel_rfl) (by kernel_rfl) (fun _ _ _ h => h) (yif rfl fun w2 hw2 => by kernel_rfl) ⟨_, by rw [drewN2e, drewN2e]⟩ ?_
        refine wpAnyH_done (by kernel_rfl) ?_ _
        clear hX hY L1 L2 hxk
        go_simp
        go_wp2
        exact ⟨⟨k + 1, by omega, by go_num, hT.drewN _⟩, by simp [intOf]; omega⟩
    · go_wp2
      go_ret
      exact ⟨rfl, hT.2.2⟩

end Go.Proofs.YtboahhipobcabaaGreat
