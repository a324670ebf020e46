/-
  CONTRACTS: OutFlows of whatever numbers, the model's.
-/
import Derived.Test.YtdoilkhndkakkaaOut
namespace Go.Proofs.Ytdoilkhndkakkaa
open Go Go.RowKit
set_option maxRecDepth 100000

set_option maxHeartbeats 2000000 in
theorem l03Columns_any (g : Nat) (ts : List Nat) (T : TypeId) (hlt : ts.length = 16) (w : World) (hA : At w g (fl ts) T) :
    Calls Try.prog 66 #[.pointer (some ⟨g, 0, none⟩)] w fun e w' => ∃ vs, e = .returned (.agg (fl vs)) ∧ vs.length = 4 ∧ (∀ c, c < 4 → CS ts c 4 (nth vs c)) ∧ Below w.heap.size w w' := by
  have A0 : At ((w.alloc (.cells (#[.float .f32 0, .float .f32 0, .float .f32 0, .float .f32 0]) 29)).alloc (.cells (#[.float .f32 0, .float .f32 0, .float .f32 0, .float .f32 0]) 23)) g (fl ts) T := (hA.alloc _).alloc _
  have A00 : At (w.alloc (.cells (#[.float .f32 0, .float .f32 0, .float .f32 0, .float .f32 0]) 29)) g (fl ts) T := hA.alloc _
  have R0 : At ((w.alloc (.cells (#[.float .f32 0, .float .f32 0, .float .f32 0, .float .f32 0]) 29)).alloc (.cells (#[.float .f32 0, .float .f32 0, .float .f32 0, .float .f32 0]) 23)) w.heap.size (#[.float .f32 0, .float .f32 0, .float .f32 0, .float .f32 0]) 29 := (At.new w _ _).alloc _
  have P0 : At ((w.alloc (.cells (#[.float .f32 0, .float .f32 0, .float .f32 0, .float .f32 0]) 29)).alloc (.cells (#[.float .f32 0, .float .f32 0, .float .f32 0, .float .f32 0]) 23)) (w.heap.size + 1) (#[.float .f32 0, .float .f32 0, .float .f32 0, .float .f32 0]) 23 := At.last1 w _ _ _
  have B0 := Lib.hid (bnew (b0 w (.cells (#[.float .f32 0, .float .f32 0, .float .f32 0, .float .f32 0]) 29)) (.cells (#[.float .f32 0, .float .f32 0, .float .f32 0, .float .f32 0]) 23))
  have SF : (fl ts).size = 16 := by rw [fl_size, hlt]
  have glt : g < w.heap.size := hA.lt
  have rl := row4_len hlt (k := 0) (by omega)
  have P1 := P0.setRow (fl (row4 ts 0))
  have A1 := A0.setRow_other (k := w.heap.size + 1) (by omega) (fl (row4 ts 0))
  have R1 := R0.setRow_other (k := w.heap.size + 1) (by omega) (fl (row4 ts 0))
  have B1 := Lib.hid (bset B0.out (g := w.heap.size + 1) (by omega) (fl (row4 ts 0)))
  have C1 : Hid (ColR ts 1 0 (row4 ts 0)) := Lib.hid ⟨fun c hc => by omega, fun c _ hc => by
    show nth (row4 ts 0) c = nth ts (0 * 4 + c)
    rw [row4_nth hlt 0 hc]⟩
  clear hA
  go_enter Try.func66, Try.ntmps66
  go_wp2_with (first | ((with_reducible refine is_load 23 _ rfl ?_); refine wpList_load_part rfl 23 _ rfl _ _ rfl (fl ts) _ A00 4 (by rw [SF]; omega) _ Try.underlying23 rfl (by kernel_rfl) (fl (row4 ts 0)) (fl_row hlt (k := 0) (by omega) rfl) ?_) | ((with_reducible refine is_store 23 (.tmp 3) (.tmp 9) rfl ?_); refine wpList_store_at rfl 23 (.tmp 3) (.tmp 9) rfl _ rfl (fl (row4 ts 0)) rfl (#[.float .f32 0, .float .f32 0, .float .f32 0, .float .f32 0]) _ P0 4 (by rw [fl_size, rl]) (rfl) (by kernel_rfl) (fl_one _) ?_))
  go_loopw [4] (fun i' wr => ∃ (m : Nat) (vs : List Nat), 1 ≤ m ∧ m ≤ 4 ∧ i' = .int .i64 m ∧ vs.length = 4 ∧ Hid (ColR ts m 0 vs) ∧ At wr g (fl ts) T ∧ At wr w.heap.size (#[.float .f32 0, .float .f32 0, .float .f32 0, .float .f32 0]) 29 ∧ At wr (w.heap.size + 1) (fl vs) 23 ∧ Hid (Below w.heap.size w wr)) (fun i' _ => 4 - (intOf i').toNat)
  case atStart => exact ⟨1, row4 ts 0, by omega, by omega, rfl, rl, C1, A1, R1, P1, B1⟩
  case round =>
    clear A0 A00 R0 P0 B0 A1 R1 P1 B1 C1 rl
    obtain ⟨m, vs, hm1, hm4, rfl, hvl, hR, A4, R4, P4, B4⟩ := hrel
    by_cases hlm : m < 4
    · have s2 : IntKind.i64.wrap ((m : Int) + 1) = (m : Int) + 1 := IntWalk.i64_in _ (by omega)
      have hmd : decide ((m : Int) < 4) = true := decide_eq_true (by omega)
      go_wp2
      go_loopw [5] (fun i' wr' => ∃ (k : Nat) (vs : List Nat), k ≤ 4 ∧ i' = .int .i64 k ∧ vs.length = 4 ∧ Hid (ColR ts m k vs) ∧ At wr' g (fl ts) T ∧ At wr' w.heap.size (#[.float .f32 0, .float .f32 0, .float .f32 0, .float .f32 0]) 29 ∧ At wr' (w.heap.size + 1) (fl vs) 23 ∧ Hid (Below w.heap.size w wr')) (fun i' _ => 4 - (intOf i').toNat)
      case atStart => exact ⟨0, vs, by omega, rfl, hvl, hR, A4, R4, P4, B4⟩
      case round =>
        clear A4 R4 P4 B4 hR hvl
        obtain ⟨k, vs, hk, rfl, hvl, hR, A4, R4, P4, B4⟩ := hrel
        by_cases hlk : k < 4
        · have s3 : IntKind.i64.wrap ((k : Int) + 1) = (k : Int) + 1 := IntWalk.i64_in _ (by omega)
          have kd : decide ((k : Int) < 4) = true := decide_eq_true (by omega)
          go_wp2
          refine wp_region_held (S := fun w' => At w' g (fl ts) T) (by kernel_rfl) ?_
          show wpAnyH _ _ _ _ _ 14 (Array.replicate 14 false) _ _
          have A1 : At { wr with drawn := wr.drawn + 1 } g (fl ts) T := A4
          have R1 : At { wr with drawn := wr.drawn + 1 } w.heap.size (#[.float .f32 0, .float .f32 0, .float .f32 0, .float .f32 0]) 29 := R4
          have P1 : At { wr with drawn := wr.drawn + 1 } (w.heap.size + 1) (fl vs) 23 := P4
          have B1 : Hid (Below w.heap.size w { wr with drawn := wr.drawn + 1 }) := Lib.hid (bdrew B4.out 1)
          generalize ({ wr with drawn := wr.drawn + 1 } : World) = w1 at A1 R1 P1 B1 ⊢
          clear A4 R4 P4 B4
          refine wpAnyH_take (i := 0) (v := .int .i64 k) rfl (by kernel_rfl) (by kernel_rfl) (by kernel_rfl) (fun _ _ _ h => h) (yif rfl fun w' hw' => x_move_k (.tmp 5) rfl (by kernel_rfl)) A1 ?_
          refine wpAnyH_take (i := 1) (v := .int .i64 k) rfl (by kernel_rfl) (by kernel_rfl) (by kernel_rfl) (fun _ _ _ h => h) (yif rfl fun w' hw' => x_move_k (.tmp 5) rfl (by kernel_rfl)) A1 ?_
          refine wpAnyH_take (i := 2) (v := .pointer (some ⟨w.heap.size + 1, 0 + k * 1, none⟩)) rfl (by kernel_rfl) (by kernel_rfl) (by kernel_rfl) (fun _ _ _ h => h) (yif rfl fun w' hw' => x_index_k 23 (.tmp 3) (.tmp 19) rfl (.pointer (some ⟨w.heap.size + 1, 0, none⟩)) (.int .i64 k) (by kernel_rfl) (by kernel_rfl) (run_indexAt w' 23 22 4 k 1 _ _ Try.underlying23 (by kernel_rfl) hlk)) A1 ?_
          refine wpAnyH_take (i := 4) (v := .pointer (some ⟨g, 0, none⟩)) rfl (by kernel_rfl) (by kernel_rfl) (by kernel_rfl) (fun _ _ _ h => h) (yif rfl fun w' hw' => x_move_k (.tmp 0) rfl (by kernel_rfl)) A1 ?_
          refine wpAnyH_take (i := 5) (v := .int .i64 m) rfl (by kernel_rfl) (by kernel_rfl) (by kernel_rfl) (fun _ _ _ h => h) (yif rfl fun w' hw' => x_move_k (.tmp 4) rfl (by kernel_rfl)) A1 ?_
          refine wpAnyH_take (i := 6) (v := .int .i64 k) rfl (by kernel_rfl) (by kernel_rfl) (by kernel_rfl) (fun _ _ _ h => h) (yif rfl fun w' hw' => x_move_k (.tmp 5) rfl (by kernel_rfl)) A1 ?_
          refine wpAnyH_take (i := 7) (v := .pointer (some ⟨g, 0, none⟩)) rfl (by kernel_rfl) (by kernel_rfl) (by kernel_rfl) (fun _ _ _ h => h) (yif rfl fun w' hw' => by kernel_rfl) A1 ?_
          refine wpAnyH_take (i := 8) (v := .pointer (some ⟨g, 0 + m * 4, none⟩)) rfl (by kernel_rfl) (by kernel_rfl) (by kernel_rfl) (fun _ _ _ h => h) (yif rfl fun w' hw' => x_index_k 28 (.tmp 25) (.tmp 23) rfl (.pointer (some ⟨g, 0, none⟩)) (.int .i64 m) (by kernel_rfl) (by kernel_rfl) (run_indexAt w' 28 23 4 m 4 _ _ Try.underlying28 (by kernel_rfl) hlm)) A1 ?_
          refine wpAnyH_take (i := 9) (v := .pointer (some ⟨g, 0 + m * 4 + k * 1, none⟩)) rfl (by kernel_rfl) (by kernel_rfl) (by kernel_rfl) (fun _ _ _ h => h) (yif rfl fun w' hw' => x_index_k 23 (.tmp 26) (.tmp 24) rfl (.pointer (some ⟨g, 0 + m * 4, none⟩)) (.int .i64 k) (by kernel_rfl) (by kernel_rfl) (run_indexAt w' 23 22 4 k 1 _ _ Try.underlying23 (by kernel_rfl) hlk)) A1 ?_
          refine wpAnyH_take (i := 10) (v := .float .f32 (nth ts (m * 4 + k))) rfl (by kernel_rfl) (by kernel_rfl) (by kernel_rfl) (fun _ _ _ h => h) (yif rfl fun w' hw' => x_load 22 (.tmp 27) rfl ⟨g, 0 + m * 4 + k * 1, none⟩ (by kernel_rfl) (run_load_cell w' 22 _ Try.underlying22 _ _ (hw'.cell (by rw [show 0 + m * 4 + k * 1 = m * 4 + k from by omega]; exact fl_get (by omega))))) A1 ?_
          refine wpAnyH_all (rs := [3]) (by kernel_rfl) (by simp) fun i hi => ?_
          obtain rfl := one_of hi
          refine op_value (v := .float .f32 (nth vs k)) rfl rfl (x_load 22 (.tmp 20) rfl ⟨w.heap.size + 1, 0 + k * 1, none⟩ (by kernel_rfl) (run_load_cell w1 22 _ Try.underlying22 _ _ (P1.cell (by rw [show 0 + k * 1 = k from by omega]; exact fl_get (by omega))))) ⟨A1, ?_⟩
          refine wpAnyH_all (rs := [11]) (by kernel_rfl) (by simp) fun i hi => ?_
          obtain rfl := one_of hi
          obtain ⟨v, n1, e1, r1⟩ := run_add_any (P := Try.prog) 22 (nth vs k) (nth ts (m * 4 + k)) w1
          refine op_value rfl rfl (x_bin 22 (.tmp 21) (.tmp 28) rfl (.float .f32 (nth vs k)) (.float .f32 (nth ts (m * 4 + k))) (by kernel_rfl) (by kernel_rfl) e1) ⟨A1.drewN n1, ?_⟩
          refine wpAnyH_all (rs := [12]) (by kernel_rfl) (by simp) fun i hi => ?_
          obtain rfl := one_of hi
          refine op_value (v := .pointer (some ⟨w.heap.size + 1, 0 + k * 1, none⟩)) rfl rfl (x_index_k 23 (.tmp 3) (.tmp 18) rfl (.pointer (some ⟨w.heap.size + 1, 0, none⟩)) (.int .i64 k) (by kernel_rfl) (by kernel_rfl) (run_indexAt _ 23 22 4 k 1 _ _ Try.underlying23 (by kernel_rfl) hlk)) ⟨A1.drewN n1, ?_⟩
          refine wpAnyH_all (rs := [13]) (by kernel_rfl) (by simp) fun i hi => ?_
          obtain rfl := one_of hi
          have hst := run_storeAt_one (P := Try.prog) (w1.drewN n1) (w.heap.size + 1) (0 + k * 1) 23 22 (fl vs) (.float .f32 v) (P1.drewN n1) (by kernel_rfl) (by rw [fl_size, hvl]; omega) rfl
          rw [fl_set, show 0 + k * 1 = k from by omega] at hst
          have A5 := (A1.drewN n1).setRow_other (k := w.heap.size + 1) (by omega) (fl (vs.set k v))
          refine op_skip rfl rfl (x_store 22 (.tmp 30) (.tmp 29) rfl (.pointer (some ⟨w.heap.size + 1, 0 + k * 1, none⟩)) (.float .f32 v) (by kernel_rfl) (by kernel_rfl) (by rw [show 0 + k * 1 = k from by omega]; exact hst)) ⟨A5, ?_⟩
          refine wpAnyH_done (by kernel_rfl) ?_ _
          have R9 := (R1.drewN n1).setRow_other (k := w.heap.size + 1) (by omega) (fl (vs.set k v))
          have P9 := (P1.drewN n1).setRow (fl (vs.set k v))
          have B9 := Lib.hid (bset (bdrew B1.out n1) (g := w.heap.size + 1) (by omega) (fl (vs.set k v)))
          have HR := Lib.hid (ColR.put hvl hlk hR.out (CS_next (by omega) (hR.out.2 k (Nat.le_refl _) hlk) r1))
          clear e1 r1 hR hst A1 R1 P1 B1
          generalize (((w1.drewN n1).setRow (w.heap.size + 1) (fl (vs.set k v))) : World) = w9 at A5 R9 P9 B9 ⊢
          generalize hA : Act.put _ _ _ = A
          have eA : A = { tmps := #[.pointer (some ⟨g, 0, none⟩), undef, .pointer (some ⟨w.heap.size, 0, none⟩), .pointer (some ⟨w.heap.size + 1, 0, none⟩), .int .i64 m, .int .i64 k, .pointer (some ⟨g, 0, none⟩), .pointer (some ⟨g, 0, none⟩), .pointer (some ⟨g, 0, none⟩), .agg (fl (row4 ts 0)), .int .i64 m, .bool true, u12, u13, .int .i64 k, .bool true, u16, u17, .int .i64 k, .int .i64 k, .pointer (some ⟨w.heap.size + 1, 0 + k * 1, none⟩), .float .f32 (nth vs k), .pointer (some ⟨g, 0, none⟩), .int .i64 m, .int .i64 k, .pointer (some ⟨g, 0, none⟩), .pointer (some ⟨g, 0 + m * 4, none⟩), .pointer (some ⟨g, 0 + m * 4 + k * 1, none⟩), .float .f32 (nth ts (m * 4 + k)), .float .f32 v, .pointer (some ⟨w.heap.size + 1, 0 + k * 1, none⟩), undef], defers := [] } := by rw [← hA]; kernel_rfl
          clear hA
          subst eA
          go_wp2
          exact ⟨⟨k + 1, vs.set k v, by omega, by go_num, by simp [hvl], HR, A5, R9, P9, B9⟩, by simp [intOf]; omega⟩
        · obtain rfl : k = 4 := by omega
          have HR := Lib.hid hR.out.next
          go_wp2
          exact ⟨⟨m + 1, vs, by omega, by omega, by go_num, hvl, HR, A4, R4, P4, B4⟩, by simp [intOf]; omega⟩
    · obtain rfl : m = 4 := by omega
      have SV : (fl vs).size = 4 := by rw [fl_size, hvl]
      have R9 := R4.setRow (fl vs)
      have B9 := Lib.hid (bset B4.out (g := w.heap.size) (Nat.le_refl _) (fl vs))
      go_wp2_with (first | ((with_reducible refine is_load 23 _ rfl ?_); refine wpList_load_at rfl 23 _ rfl _ rfl (fl vs) _ P4 4 (SV) _ Try.underlying23 rfl (by kernel_rfl) ?_) | ((with_reducible refine is_store 29 (.tmp 2) (.tmp 31) rfl ?_); refine wpList_store_at rfl 29 (.tmp 2) (.tmp 31) rfl _ rfl (fl vs) rfl (#[.float .f32 0, .float .f32 0, .float .f32 0, .float .f32 0]) _ R4 4 (SV) (rfl) (by kernel_rfl) (fl_one _) ?_))
      exact bodyPost_ret (v := .agg (fl vs)) (results_at (p := 2) (ty := 29) rfl _ _ _ (fl vs) _ rfl R9 _ Try.underlying29 rfl 4 SV (by kernel_rfl)) rfl ⟨vs, rfl, hvl, fun c hc => hR.out.2 c (Nat.zero_le _) hc, B9.out⟩

theorem sOutFlows_any (ts : List Nat) (hlt : ts.length = 16) (w : World) :
    Calls Try.prog 40 #[.agg (fl ts)] w fun e w' => ∃ vs, e = .returned (.agg (fl vs)) ∧ vs.length = 4 ∧ (∀ c, c < 4 → CS ts c 4 (nth vs c)) ∧ Below w.heap.size w w' := by
  have A0 : At ((w.alloc (.cells (fl ts) 28)).alloc (.cells (#[.float .f32 0, .float .f32 0, .float .f32 0, .float .f32 0]) 29)) w.heap.size (fl ts) 28 := (At.new w _ _).alloc _
  have R0 : At ((w.alloc (.cells (fl ts) 28)).alloc (.cells (#[.float .f32 0, .float .f32 0, .float .f32 0, .float .f32 0]) 29)) (w.heap.size + 1) (#[.float .f32 0, .float .f32 0, .float .f32 0, .float .f32 0]) 29 := At.last1 w _ _ _
  have B0 := Lib.hid (bnew (b0 w (.cells (fl ts) 28)) (.cells (#[.float .f32 0, .float .f32 0, .float .f32 0, .float .f32 0]) 29))
  go_enter Try.func40, Try.ntmps40
  go_wp2_with fail
  refine (l03Columns_any _ ts 28 hlt _ A0).mono ?_
  rintro e w1 ⟨vs, rfl, hvl, hR, hb1⟩
  have R1 := R0.step hb1
  have B1 := Lib.hid (bthen B0.out hb1)
  have HR := Lib.hid hR
  clear hR hb1 A0 R0 B0
  have SV : (fl vs).size = 4 := by rw [fl_size, hvl]
  have R9 := R1.setRow (fl vs)
  have B9 := Lib.hid (bset B1.out (g := w.heap.size + 1) (by omega) (fl vs))
  go_wp2_with (((with_reducible refine is_store 29 (.tmp 2) (.tmp 3) rfl ?_); refine wpList_store_at rfl 29 (.tmp 2) (.tmp 3) rfl _ rfl (fl vs) rfl (#[.float .f32 0, .float .f32 0, .float .f32 0, .float .f32 0]) _ R1 4 (SV) (rfl) (by kernel_rfl) (fl_one _) ?_))
  exact bodyPost_ret (v := .agg (fl vs)) (results_at (p := 2) (ty := 29) rfl _ _ _ (fl vs) _ rfl R9 _ Try.underlying29 rfl 4 SV (by kernel_rfl)) rfl ⟨vs, rfl, hvl, HR.out, B9.out⟩

end Go.Proofs.Ytdoilkhndkakkaa
