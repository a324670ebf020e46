/-
  CONTRACTS: OutFlows of whatever numbers, the program's.
-/
import Derived.Test.YtdoilkhndkakkaaRows4
namespace Go.Proofs.Ytdoilkhndkakkaa
open Go Go.RowKit
set_option maxRecDepth 100000

theorem run_indexAt {P : Program} (w : World) (ty e : TypeId) (n k s : Nat) (g off : Nat) (hu : P.underlying ty = some (.array n e)) (he : (P.info? e).map (·.size) = some s) (hk : k < n) :
    (Instr.indexAt ty (.pointer (some ⟨g, off, none⟩)) (.int .i64 k)).run P w = .ok (.pointer (some ⟨g, off + k * s, none⟩)) w := by
  cases hq : P.info? e with
  | none => simp [hq] at he
  | some i =>
    have hs : i.size = s := by simpa [hq] using he
    by_cases h0 : k * s = 0
    · simp [Instr.indexAt, Instr.sureAddr, asIntOf, run_underlying hu, hk, sizeOf, typeInfo, hq, hs, Addr.add, h0]
    · simp [Instr.indexAt, Instr.sureAddr, asIntOf, run_underlying hu, hk, sizeOf, typeInfo, hq, hs, Addr.add, h0]
theorem x_move_k {P : Program} {o : Oper} {a : Act} {w : World} {v : Value} (x : Operand) (ho : o.op = .move x) (hx : a.eval x = v) : (execOp a.eval o).run P w = .ok (.value v) w := by
  unfold execOp
  simp only [ho, hx, Sem.run_pure]
theorem x_index_k {P : Program} {o : Oper} {a : Act} {w : World} {v : Value} (ty : TypeId) (x y : Operand) (ho : o.op = .indexAddr ty x y) (v1 v2 : Value) (h1 : a.eval x = v1) (h2 : a.eval y = v2) (hrun : (Instr.indexAt ty v1 v2).run P w = .ok v w) : (execOp a.eval o).run P w = .ok (.value v) w := by
  unfold execOp
  simp only [ho, h1, h2, Sem.run_bind, hrun, Sem.run_pure, Result.andThen_ok]
theorem x_bin {P : Program} {o : Oper} {a : Act} {w w' : World} {v : Value} (ty : TypeId) (x y : Operand) {T : TypeId} (ho : o.op = .binOp .add ty x y T) (v1 v2 : Value) (h1 : a.eval x = v1) (h2 : a.eval y = v2) (hrun : (binOp .add ty v1 v2).run P w = .ok v w') : (execOp a.eval o).run P w = .ok (.value v) w' := by
  have hg : eqGuard .add ty x y v1 v2 = pure () := rfl
  unfold execOp
  simp only [ho, h1, h2, hg, Sem.run_bind, hrun, Sem.run_pure, Result.andThen_ok]
theorem x_store {P : Program} {o : Oper} {a : Act} {w w' : World} (ty : TypeId) (x y : Operand) (ho : o.op = .store ty x y) (v1 v2 : Value) (h1 : a.eval x = v1) (h2 : a.eval y = v2) (hrun : (Instr.storeAt ty v1 v2).run P w = .ok () w') : (execOp a.eval o).run P w = .ok .skip w' := by
  unfold execOp
  simp only [ho, h1, h2, Sem.run_bind, hrun, Sem.run_pure, Result.andThen_ok]

/-- v is the sum of the first m rows in column c (a NaN where there is none) -/
def CS (ts : List Nat) (c : Nat) : Nat → Nat → Prop
  | 0, _ => True
  | 1, v => v = nth ts (0 * 4 + c)
  | m + 2, v => ∃ u, CS ts c (m + 1) u ∧ AddR u (nth ts ((m + 1) * 4 + c)) v
theorem CS_next {ts : List Nat} {c m u v : Nat} (h0 : 0 < m) (h : CS ts c m u) (hv : AddR u (nth ts (m * 4 + c)) v) : CS ts c (m + 1) v := by
  obtain ⟨n, rfl⟩ : ∃ n, m = n + 1 := ⟨m - 1, by omega⟩
  exact ⟨u, h, hv⟩
theorem CS_agr {ts : List Nat} (hc : ∀ k, nth ts k < 4294967296) {c : Nat} : ∀ {m v v' : Nat}, 0 < m → CS ts c m v → CS ts c m v' → Agr v v'
  | 1, v, v', _, h, h' => by
    have e1 : v = nth ts (0 * 4 + c) := h
    have e2 : v' = nth ts (0 * 4 + c) := h'
    rw [e1, e2]
    exact ⟨hc _, hc _, by cases h : nanB (nth ts (0 * 4 + c)); exact .inr ⟨rfl, rfl⟩; exact .inl ⟨rfl, rfl⟩⟩
  | m + 2, v, v', _, ⟨u, h1, h2⟩, ⟨u', k1, k2⟩ => AddR.agr (CS_agr hc (m := m + 1) (by omega) h1 k1) h2 k2
/-- m rows summed, and the first k columns one row more -/
def ColR (ts : List Nat) (m k : Nat) (vs : List Nat) : Prop := (∀ c, c < k → CS ts c (m + 1) (nth vs c)) ∧ ∀ c, k ≤ c → c < 4 → CS ts c m (nth vs c)
theorem ColR.put {ts vs : List Nat} {m k v : Nat} (hl : vs.length = 4) (hk : k < 4) (h : ColR ts m k vs) (hv : CS ts k (m + 1) v) : ColR ts m (k + 1) (vs.set k v) := by
  refine ⟨fun c hc => ?_, fun c hc hc4 => ?_⟩ <;> rw [nth_set (by omega)]
  · by_cases e : c = k
    · subst e; rw [if_pos rfl]; exact hv
    · rw [if_neg e]; exact h.1 c (by omega)
  · rw [if_neg (by omega)]; exact h.2 c (by omega) hc4
theorem ColR.next {ts vs : List Nat} {m : Nat} (h : ColR ts m 4 vs) : ColR ts (m + 1) 0 vs := ⟨fun c hc => by omega, fun c _ hc4 => h.1 c hc4⟩

set_option maxHeartbeats 2000000 in
theorem OutFlows_any (ts : List Nat) (hlt : ts.length = 16) (w : World) :
    Calls Try.prog 41 #[.agg (fl ts)] w fun e w' => ∃ vs, e = .returned (.agg (fl vs)) ∧ vs.length = 4 ∧ (∀ c, c < 4 → CS ts c 4 (nth vs c)) ∧ Below w.heap.size w w' := by
  have A0 : At (((w.alloc (.cells (fl ts) 28)).alloc (.cells (#[.float .f32 0, .float .f32 0, .float .f32 0, .float .f32 0]) 29)).alloc (.cells (#[.float .f32 0, .float .f32 0, .float .f32 0, .float .f32 0]) 29)) w.heap.size (fl ts) 28 := ((At.new w _ _).alloc _).alloc _
  have R0 : At (((w.alloc (.cells (fl ts) 28)).alloc (.cells (#[.float .f32 0, .float .f32 0, .float .f32 0, .float .f32 0]) 29)).alloc (.cells (#[.float .f32 0, .float .f32 0, .float .f32 0, .float .f32 0]) 29)) (w.heap.size + 1) (#[.float .f32 0, .float .f32 0, .float .f32 0, .float .f32 0]) 29 := (At.last1 w _ _ _).alloc _
  have P0 : At (((w.alloc (.cells (fl ts) 28)).alloc (.cells (#[.float .f32 0, .float .f32 0, .float .f32 0, .float .f32 0]) 29)).alloc (.cells (#[.float .f32 0, .float .f32 0, .float .f32 0, .float .f32 0]) 29)) (w.heap.size + 1 + 1) (#[.float .f32 0, .float .f32 0, .float .f32 0, .float .f32 0]) 29 := At.last2 w _ _ _ _
  have B0 := Lib.hid (bnew (bnew (b0 w (.cells (fl ts) 28)) (.cells (#[.float .f32 0, .float .f32 0, .float .f32 0, .float .f32 0]) 29)) (.cells (#[.float .f32 0, .float .f32 0, .float .f32 0, .float .f32 0]) 29))
  go_enter Try.func41, Try.ntmps41
  go_wp2
  go_loopw [5] (fun i' wr => ∃ (k : Nat) (vs : List Nat), k ≤ 4 ∧ i' = .int .i64 k ∧ vs.length = 4 ∧ Hid (∀ c, c < k → CS ts c 4 (nth vs c)) ∧ At wr w.heap.size (fl ts) 28 ∧ At wr (w.heap.size + 1) (#[.float .f32 0, .float .f32 0, .float .f32 0, .float .f32 0]) 29 ∧ At wr (w.heap.size + 1 + 1) (fl vs) 29 ∧ Hid (Below w.heap.size w wr)) (fun i' _ => 4 - (intOf i').toNat)
  case atStart => exact ⟨0, zeros 4, by omega, rfl, zeros_len _, Lib.hid (fun k hk => by omega), A0, R0, P0, B0⟩
  case round =>
    clear A0 R0 P0 B0
    obtain ⟨k, vs, hk, rfl, hvl, hR, A4, R4, P4, B4⟩ := hrel
    by_cases hlk : k < 4
    · have s2 : IntKind.i64.wrap ((k : Int) + 1) = (k : Int) + 1 := IntWalk.i64_in _ (by omega)
      have kd : decide ((k : Int) < 4) = true := decide_eq_true (by omega)
      go_wp2
      refine wp_region_held (S := fun w' => At w' w.heap.size (fl ts) 28) (by kernel_rfl) ?_
      show wpAnyH _ _ _ _ _ 22 (Array.replicate 22 false) _ _
      have A1 : At { wr with drawn := wr.drawn + 1 } w.heap.size (fl ts) 28 := A4
      have R1 : At { wr with drawn := wr.drawn + 1 } (w.heap.size + 1) (#[.float .f32 0, .float .f32 0, .float .f32 0, .float .f32 0]) 29 := R4
      have P1 : At { wr with drawn := wr.drawn + 1 } (w.heap.size + 1 + 1) (fl vs) 29 := P4
      have B1 : Hid (Below w.heap.size w { wr with drawn := wr.drawn + 1 }) := Lib.hid (bdrew B4.out 1)
      generalize ({ wr with drawn := wr.drawn + 1 } : World) = w1 at A1 R1 P1 B1 ⊢
      clear A4 R4 P4 B4
      refine wpAnyH_take (i := 0) (v := .int .i64 k) rfl (by kernel_rfl) (by kernel_rfl) (by kernel_rfl) (fun _ _ _ h => h) (yif rfl fun w' hw' => x_move_k (.tmp 4) rfl (by kernel_rfl)) A1 ?_
      refine wpAnyH_take (i := 1) (v := .int .i64 k) rfl (by kernel_rfl) (by kernel_rfl) (by kernel_rfl) (fun _ _ _ h => h) (yif rfl fun w' hw' => x_move_k (.tmp 4) rfl (by kernel_rfl)) A1 ?_
      refine wpAnyH_take (i := 2) (v := .pointer (some ⟨w.heap.size, 0 + 0 * 4, none⟩)) rfl (by kernel_rfl) (by kernel_rfl) (by kernel_rfl) (fun _ _ _ h => h) (yif rfl fun w' hw' => x_index_k 28 (.tmp 1) (.const (.int .i64 0)) rfl (.pointer (some ⟨w.heap.size, 0, none⟩)) (.int .i64 0) (by kernel_rfl) (by kernel_rfl) (run_indexAt w' 28 23 4 0 4 _ _ Try.underlying28 (by kernel_rfl) (by omega))) A1 ?_
      refine wpAnyH_take (i := 3) (v := .pointer (some ⟨w.heap.size, 0 + 0 * 4 + k * 1, none⟩)) rfl (by kernel_rfl) (by kernel_rfl) (by kernel_rfl) (fun _ _ _ h => h) (yif rfl fun w' hw' => x_index_k 23 (.tmp 10) (.tmp 9) rfl (.pointer (some ⟨w.heap.size, 0 + 0 * 4, none⟩)) (.int .i64 k) (by kernel_rfl) (by kernel_rfl) (run_indexAt w' 23 22 4 k 1 _ _ Try.underlying23 (by kernel_rfl) hlk)) A1 ?_
      refine wpAnyH_take (i := 4) (v := .float .f32 (nth ts (0 * 4 + k))) rfl (by kernel_rfl) (by kernel_rfl) (by kernel_rfl) (fun _ _ _ h => h) (yif rfl fun w' hw' => x_load 22 (.tmp 11) rfl ⟨w.heap.size, 0 + 0 * 4 + k * 1, none⟩ (by kernel_rfl) (run_load_cell w' 22 _ Try.underlying22 _ _ (hw'.cell (by rw [show 0 + 0 * 4 + k * 1 = 0 * 4 + k from by omega]; exact fl_get (by omega))))) A1 ?_
      refine wpAnyH_take (i := 5) (v := .int .i64 k) rfl (by kernel_rfl) (by kernel_rfl) (by kernel_rfl) (fun _ _ _ h => h) (yif rfl fun w' hw' => x_move_k (.tmp 4) rfl (by kernel_rfl)) A1 ?_
      refine wpAnyH_take (i := 6) (v := .pointer (some ⟨w.heap.size, 0 + 1 * 4, none⟩)) rfl (by kernel_rfl) (by kernel_rfl) (by kernel_rfl) (fun _ _ _ h => h) (yif rfl fun w' hw' => x_index_k 28 (.tmp 1) (.const (.int .i64 1)) rfl (.pointer (some ⟨w.heap.size, 0, none⟩)) (.int .i64 1) (by kernel_rfl) (by kernel_rfl) (run_indexAt w' 28 23 4 1 4 _ _ Try.underlying28 (by kernel_rfl) (by omega))) A1 ?_
      refine wpAnyH_take (i := 7) (v := .pointer (some ⟨w.heap.size, 0 + 1 * 4 + k * 1, none⟩)) rfl (by kernel_rfl) (by kernel_rfl) (by kernel_rfl) (fun _ _ _ h => h) (yif rfl fun w' hw' => x_index_k 23 (.tmp 14) (.tmp 13) rfl (.pointer (some ⟨w.heap.size, 0 + 1 * 4, none⟩)) (.int .i64 k) (by kernel_rfl) (by kernel_rfl) (run_indexAt w' 23 22 4 k 1 _ _ Try.underlying23 (by kernel_rfl) hlk)) A1 ?_
      refine wpAnyH_take (i := 8) (v := .float .f32 (nth ts (1 * 4 + k))) rfl (by kernel_rfl) (by kernel_rfl) (by kernel_rfl) (fun _ _ _ h => h) (yif rfl fun w' hw' => x_load 22 (.tmp 15) rfl ⟨w.heap.size, 0 + 1 * 4 + k * 1, none⟩ (by kernel_rfl) (run_load_cell w' 22 _ Try.underlying22 _ _ (hw'.cell (by rw [show 0 + 1 * 4 + k * 1 = 1 * 4 + k from by omega]; exact fl_get (by omega))))) A1 ?_
      refine wpAnyH_take (i := 10) (v := .int .i64 k) rfl (by kernel_rfl) (by kernel_rfl) (by kernel_rfl) (fun _ _ _ h => h) (yif rfl fun w' hw' => x_move_k (.tmp 4) rfl (by kernel_rfl)) A1 ?_
      refine wpAnyH_take (i := 11) (v := .pointer (some ⟨w.heap.size, 0 + 2 * 4, none⟩)) rfl (by kernel_rfl) (by kernel_rfl) (by kernel_rfl) (fun _ _ _ h => h) (yif rfl fun w' hw' => x_index_k 28 (.tmp 1) (.const (.int .i64 2)) rfl (.pointer (some ⟨w.heap.size, 0, none⟩)) (.int .i64 2) (by kernel_rfl) (by kernel_rfl) (run_indexAt w' 28 23 4 2 4 _ _ Try.underlying28 (by kernel_rfl) (by omega))) A1 ?_
      refine wpAnyH_take (i := 12) (v := .pointer (some ⟨w.heap.size, 0 + 2 * 4 + k * 1, none⟩)) rfl (by kernel_rfl) (by kernel_rfl) (by kernel_rfl) (fun _ _ _ h => h) (yif rfl fun w' hw' => x_index_k 23 (.tmp 19) (.tmp 18) rfl (.pointer (some ⟨w.heap.size, 0 + 2 * 4, none⟩)) (.int .i64 k) (by kernel_rfl) (by kernel_rfl) (run_indexAt w' 23 22 4 k 1 _ _ Try.underlying23 (by kernel_rfl) hlk)) A1 ?_
      refine wpAnyH_take (i := 13) (v := .float .f32 (nth ts (2 * 4 + k))) rfl (by kernel_rfl) (by kernel_rfl) (by kernel_rfl) (fun _ _ _ h => h) (yif rfl fun w' hw' => x_load 22 (.tmp 20) rfl ⟨w.heap.size, 0 + 2 * 4 + k * 1, none⟩ (by kernel_rfl) (run_load_cell w' 22 _ Try.underlying22 _ _ (hw'.cell (by rw [show 0 + 2 * 4 + k * 1 = 2 * 4 + k from by omega]; exact fl_get (by omega))))) A1 ?_
      refine wpAnyH_take (i := 15) (v := .int .i64 k) rfl (by kernel_rfl) (by kernel_rfl) (by kernel_rfl) (fun _ _ _ h => h) (yif rfl fun w' hw' => x_move_k (.tmp 4) rfl (by kernel_rfl)) A1 ?_
      refine wpAnyH_take (i := 16) (v := .pointer (some ⟨w.heap.size, 0 + 3 * 4, none⟩)) rfl (by kernel_rfl) (by kernel_rfl) (by kernel_rfl) (fun _ _ _ h => h) (yif rfl fun w' hw' => x_index_k 28 (.tmp 1) (.const (.int .i64 3)) rfl (.pointer (some ⟨w.heap.size, 0, none⟩)) (.int .i64 3) (by kernel_rfl) (by kernel_rfl) (run_indexAt w' 28 23 4 3 4 _ _ Try.underlying28 (by kernel_rfl) (by omega))) A1 ?_
      refine wpAnyH_take (i := 17) (v := .pointer (some ⟨w.heap.size, 0 + 3 * 4 + k * 1, none⟩)) rfl (by kernel_rfl) (by kernel_rfl) (by kernel_rfl) (fun _ _ _ h => h) (yif rfl fun w' hw' => x_index_k 23 (.tmp 24) (.tmp 23) rfl (.pointer (some ⟨w.heap.size, 0 + 3 * 4, none⟩)) (.int .i64 k) (by kernel_rfl) (by kernel_rfl) (run_indexAt w' 23 22 4 k 1 _ _ Try.underlying23 (by kernel_rfl) hlk)) A1 ?_
      refine wpAnyH_take (i := 18) (v := .float .f32 (nth ts (3 * 4 + k))) rfl (by kernel_rfl) (by kernel_rfl) (by kernel_rfl) (fun _ _ _ h => h) (yif rfl fun w' hw' => x_load 22 (.tmp 25) rfl ⟨w.heap.size, 0 + 3 * 4 + k * 1, none⟩ (by kernel_rfl) (run_load_cell w' 22 _ Try.underlying22 _ _ (hw'.cell (by rw [show 0 + 3 * 4 + k * 1 = 3 * 4 + k from by omega]; exact fl_get (by omega))))) A1 ?_
      have A2 : ∀ n1, At (w1.drewN n1) w.heap.size (fl ts) 28 := fun n1 => A1.drewN n1
      have A3 : ∀ n1 n2, At ((w1.drewN n1).drewN n2) w.heap.size (fl ts) 28 := fun n1 n2 => (A1.drewN n1).drewN n2
      have A4 : ∀ n1 n2 n3, At (((w1.drewN n1).drewN n2).drewN n3) w.heap.size (fl ts) 28 := fun n1 n2 n3 => ((A1.drewN n1).drewN n2).drewN n3
      refine wpAnyH_all (rs := [9]) (by kernel_rfl) (by simp) fun i hi => ?_
      obtain rfl := one_of hi
      obtain ⟨y1, n1, e1, r1⟩ := run_add_any (P := Try.prog) 22 (nth ts (0 * 4 + k)) (nth ts (1 * 4 + k)) (w1)
      refine op_value rfl rfl (x_bin 22 (.tmp 12) (.tmp 16) rfl (.float .f32 (nth ts (0 * 4 + k))) (.float .f32 (nth ts (1 * 4 + k))) (by kernel_rfl) (by kernel_rfl) e1) ⟨A2 _, ?_⟩
      refine wpAnyH_all (rs := [14]) (by kernel_rfl) (by simp) fun i hi => ?_
      obtain rfl := one_of hi
      obtain ⟨y2, n2, e2, r2⟩ := run_add_any (P := Try.prog) 22 y1 (nth ts (2 * 4 + k)) (w1.drewN n1)
      refine op_value rfl rfl (x_bin 22 (.tmp 17) (.tmp 21) rfl (.float .f32 y1) (.float .f32 (nth ts (2 * 4 + k))) (by kernel_rfl) (by kernel_rfl) e2) ⟨A3 _ _, ?_⟩
      refine wpAnyH_all (rs := [19]) (by kernel_rfl) (by simp) fun i hi => ?_
      obtain rfl := one_of hi
      obtain ⟨v, n3, e3, r3⟩ := run_add_any (P := Try.prog) 22 y2 (nth ts (3 * 4 + k)) ((w1.drewN n1).drewN n2)
      refine op_value rfl rfl (x_bin 22 (.tmp 22) (.tmp 26) rfl (.float .f32 y2) (.float .f32 (nth ts (3 * 4 + k))) (by kernel_rfl) (by kernel_rfl) e3) ⟨A4 _ _ _, ?_⟩
      have B1b : Below w1.heap.size w1 (((w1.drewN n1).drewN n2).drewN n3) := bdrew (bdrew (bdrew (Below.refl _ _) _) _) _
      have A5 := (A4 n1 n2 n3).setRow_other (k := w.heap.size + 1 + 1) (by omega) (fl (vs.set k v))
      refine wpAnyH_all (rs := [20]) (by kernel_rfl) (by simp) fun i hi => ?_
      obtain rfl := one_of hi
      refine op_value (v := .pointer (some ⟨w.heap.size + 1 + 1, 0 + k * 1, none⟩)) rfl rfl (x_index_k 29 (.tmp 3) (.tmp 8) rfl (.pointer (some ⟨w.heap.size + 1 + 1, 0, none⟩)) (.int .i64 k) (by kernel_rfl) (by kernel_rfl) (run_indexAt _ 29 22 4 k 1 _ _ Try.underlying29 (by kernel_rfl) hlk)) ⟨A4 _ _ _, ?_⟩
      refine wpAnyH_all (rs := [21]) (by kernel_rfl) (by simp) fun i hi => ?_
      obtain rfl := one_of hi
      have hst := run_storeAt_one (P := Try.prog) (((w1.drewN n1).drewN n2).drewN n3) (w.heap.size + 1 + 1) (0 + k * 1) 29 22 (fl vs) (.float .f32 v) (P1.step B1b) (by kernel_rfl) (by rw [fl_size, hvl]; omega) rfl
      rw [fl_set, show 0 + k * 1 = k from by omega] at hst
      refine op_skip rfl rfl (x_store 22 (.tmp 28) (.tmp 27) rfl (.pointer (some ⟨w.heap.size + 1 + 1, 0 + k * 1, none⟩)) (.float .f32 v) (by kernel_rfl) (by kernel_rfl) (by rw [show 0 + k * 1 = k from by omega]; exact hst)) ⟨A5, ?_⟩
      refine wpAnyH_done (by kernel_rfl) ?_ _
      have R9 := (R1.step B1b).setRow_other (k := w.heap.size + 1 + 1) (by omega) (fl (vs.set k v))
      have P9 := (P1.step B1b).setRow (fl (vs.set k v))
      have B9 := Lib.hid (bset (bthen B1.out B1b) (g := w.heap.size + 1 + 1) (by omega) (fl (vs.set k v)))
      have HCS : CS ts k 4 v := ⟨y2, ⟨y1, ⟨nth ts (0 * 4 + k), rfl, r1⟩, r2⟩, r3⟩
      have HR : Hid (∀ c, c < k + 1 → CS ts c 4 (nth (vs.set k v) c)) := Lib.hid fun c hc => by
        rw [nth_set (by omega)]
        by_cases e : c = k
        · subst e; rw [if_pos rfl]; exact HCS
        · rw [if_neg e]; exact hR.out c (by omega)
      clear e1 e2 e3 r1 r2 r3 HCS hR hst A1 A2 A3 A4 R1 P1 B1 B1b
      generalize (((((w1.drewN n1).drewN n2).drewN n3).setRow (w.heap.size + 1 + 1) (fl (vs.set k v))) : World) = w9 at A5 R9 P9 B9 ⊢
      generalize hA : Act.put _ _ _ = A
      have eA : A = { tmps := #[.agg (fl ts), .pointer (some ⟨w.heap.size, 0, none⟩), .pointer (some ⟨w.heap.size + 1, 0, none⟩), .pointer (some ⟨w.heap.size + 1 + 1, 0, none⟩), .int .i64 k, .int .i64 k, .bool true, .int .i64 k, .int .i64 k, .int .i64 k, .pointer (some ⟨w.heap.size, 0 + 0 * 4, none⟩), .pointer (some ⟨w.heap.size, 0 + 0 * 4 + k * 1, none⟩), .float .f32 (nth ts (0 * 4 + k)), .int .i64 k, .pointer (some ⟨w.heap.size, 0 + 1 * 4, none⟩), .pointer (some ⟨w.heap.size, 0 + 1 * 4 + k * 1, none⟩), .float .f32 (nth ts (1 * 4 + k)), .float .f32 y1, .int .i64 k, .pointer (some ⟨w.heap.size, 0 + 2 * 4, none⟩), .pointer (some ⟨w.heap.size, 0 + 2 * 4 + k * 1, none⟩), .float .f32 (nth ts (2 * 4 + k)), .float .f32 y2, .int .i64 k, .pointer (some ⟨w.heap.size, 0 + 3 * 4, none⟩), .pointer (some ⟨w.heap.size, 0 + 3 * 4 + k * 1, none⟩), .float .f32 (nth ts (3 * 4 + k)), .float .f32 v, .pointer (some ⟨w.heap.size + 1 + 1, 0 + k * 1, none⟩), u29, undef], defers := [] } := by rw [← hA]; kernel_rfl
      clear hA
      subst eA
      go_wp2
      exact ⟨⟨k + 1, vs.set k v, by omega, by go_num, by simp [hvl], HR, A5, R9, P9, B9⟩, by simp [intOf]; omega⟩
    · obtain rfl : k = 4 := by omega
      have SV : (fl vs).size = 4 := by rw [fl_size, hvl]
      have R9 := R4.setRow (fl vs)
      have B9 := Lib.hid (bset B4.out (g := w.heap.size + 1) (by omega) (fl vs))
      go_wp2_with (first | ((with_reducible refine is_load 29 _ rfl ?_); refine wpList_load_at rfl 29 _ rfl _ rfl (fl vs) _ P4 4 (SV) _ Try.underlying29 rfl (by kernel_rfl) ?_) | ((with_reducible refine is_store 29 (.tmp 2) (.tmp 30) rfl ?_); refine wpList_store_at rfl 29 (.tmp 2) (.tmp 30) rfl _ rfl (fl vs) rfl (#[.float .f32 0, .float .f32 0, .float .f32 0, .float .f32 0]) _ R4 4 (SV) (rfl) (by kernel_rfl) (fl_one _) ?_))
      exact bodyPost_ret (v := .agg (fl vs)) (results_at (p := 2) (ty := 29) rfl _ _ _ (fl vs) _ rfl R9 _ Try.underlying29 rfl 4 SV (by kernel_rfl)) rfl ⟨vs, rfl, hvl, hR.out, B9.out⟩

end Go.Proofs.Ytdoilkhndkakkaa
