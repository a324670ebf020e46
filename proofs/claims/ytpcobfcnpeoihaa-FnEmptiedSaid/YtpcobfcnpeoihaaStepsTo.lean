/-
  CONTRACTS: the steps until a road is empty, until it is full: the program's.
-/
import Derived.Test.YtpcobfcnpeoihaaUntil
import Derived.Test.YtpcobfcnpeoihaaG16
import Derived.Test.YtpcobfcnpeoihaaSteps
namespace Go.Proofs.Ytpcobfcnpeoihaa
open Go Go.RowKit Go.Shelf
set_option maxRecDepth 100000

theorem stepsC_zero {ok : Bool} {o m : Nat} {n : Int} (h : stepsC ok o m n = 0) : givenC ok o m = 0 ∧ 0 ≤ n ∧ n ≤ 400 := by
  unfold stepsC at h
  by_cases g : givenC ok o m = 0
  · rw [if_pos g] at h
    by_cases c : 0 ≤ n ∧ n ≤ 400
    · exact ⟨g, c⟩
    · rw [if_neg c] at h; cases h
  · rw [if_neg g] at h; exact absurd h g

def vToEmpty (cs : List Nat) (p b l : Nat) (n : Int) : Int × Int := if stepsC (okB cs p b l) 0 1065353216 n = 0 then untilF (fun k => emptyW l (itL p b cs (fun _ => 0) (fun _ => 1065353216) k)) 0 n.toNat else (0, stepsC (okB cs p b l) 0 1065353216 n)

theorem StepsToEmpty_no (cs : List Nat) (p b l : Nat) (hl : cs.length = 16) (hc : ∀ x ∈ cs, x < 4294967296) (hp : p < 4294967296) (hb : b < 4294967296) (hla : l < 4294967296) (n : Int) (hn : -9223372036854775808 ≤ n ∧ n ≤ 9223372036854775807) (h : stepsC (okB cs p b l) 0 1065353216 n ≠ 0) (w : World) :
    Calls Try.prog 6 #[.agg (rd cs p b l), .int .i64 n] w fun e w' => e = .returned (.tuple #[.int .i64 0, .int .i64 (stepsC (okB cs p b l) 0 1065353216 n)]) ∧ Below w.heap.size w w' := by
  have A0 := At.new w (rd cs p b l) 28
  have B0 := Lib.hid (b0 w (.cells (rd cs p b l) 28))
  have KR := fun w => refusalOfSteps_any cs p b l hl hc hp hb hla 0 1065353216 (by omega) (by omega) n w
  generalize stepsC (okB cs p b l) 0 1065353216 n = c at KR h ⊢
  have gne : (c == 0) = false := by simp [h]
  go_enter Try.func6, Try.ntmps6
  go_wp2_with (((with_reducible refine is_load 28 _ rfl ?_); refine wpList_load_at rfl 28 _ rfl _ rfl (rd cs p b l) _ A0 19 (rd_size hl p b l) _ Try.underlying28 rfl (by kernel_rfl) ?_))
  refine (KR _).mono ?_
  rintro e' w1 ⟨rfl, hb1⟩
  have B1 := Lib.hid (bthen B0.out hb1)
  clear KR A0 B0 hb1
  go_wp2_with fail
  go_ret2
  exact ⟨rfl, B1.out⟩

set_option maxHeartbeats 400000 in
theorem StepsToEmpty_yes (cs : List Nat) (p b l : Nat) (hl : cs.length = 16) (hc : ∀ x ∈ cs, x < 4294967296) (hp : p < 4294967296) (hb : b < 4294967296) (hla : l < 4294967296) (N : Nat) (hN : N ≤ 400) (h : givenC (okB cs p b l) 0 1065353216 = 0) (w : World) :
    Calls Try.prog 6 #[.agg (rd cs p b l), .int .i64 (N : Int)] w fun e w' => e = .returned (.tuple #[.int .i64 (untilF (fun k => emptyW l (itL p b cs (fun _ => 0) (fun _ => 1065353216) k)) 0 N).1, .int .i64 (untilF (fun k => emptyW l (itL p b cs (fun _ => 0) (fun _ => 1065353216) k)) 0 N).2]) ∧ Below w.heap.size w w' := by
  have A0 := At.new w (rd cs p b l) 28
  have B0 := Lib.hid (b0 w (.cells (rd cs p b l) 28))
  have gz := given_zero h
  have ok := OkR.of hl gz.1
  have KR := fun w => refusalOfSteps_any cs p b l hl hc hp hb hla 0 1065353216 (by omega) (by omega) N w
  rw [show stepsC (okB cs p b l) 0 1065353216 N = 0 from by unfold stepsC; rw [if_pos h, if_pos (by omega)]] at KR
  have GZ := Lib.hid gz.2
  clear gz h
  go_enter Try.func6, Try.ntmps6
  go_wp2_with (((with_reducible refine is_load 28 _ rfl ?_); refine wpList_load_at rfl 28 _ rfl _ rfl (rd cs p b l) _ A0 19 (rd_size hl p b l) _ Try.underlying28 rfl (by kernel_rfl) ?_))
  refine (KR _).mono ?_
  rintro e' w1 ⟨rfl, hb1⟩
  have A1 := A0.step hb1
  have B1 := Lib.hid (bthen B0.out hb1)
  clear KR A0 B0 hb1
  go_wp2
  refine wp_region_held (S := fun w' => At w' w.heap.size (rd cs p b l) 28) (by kernel_rfl) ?_
  show wpAnyH _ _ _ _ _ 9 (Array.replicate 9 false) _ _
  have A2 : At { w1 with drawn := w1.drawn + 1 } w.heap.size (rd cs p b l) 28 := A1
  have B2 : Hid (Below w.heap.size w { w1 with drawn := w1.drawn + 1 }) := Lib.hid ⟨B1.out.1, B1.out.2, B1.out.3, B1.out.4, B1.out.5⟩
  generalize ({ w1 with drawn := w1.drawn + 1 } : World) = w2 at A2 B2 ⊢
  clear A1 B1
  have L0 : ∀ w', At w' w.heap.size (rd cs p b l) 28 → (Instr.loadAt 28 (.pointer (some ⟨w.heap.size, 0, none⟩))).run Try.prog w' = .ok (.agg (rd cs p b l)) w' := fun w' h => run_load_road hl h
  refine wpAnyH_take (i := 0) (v := .agg (rd cs p b l)) rfl (by kernel_rfl) (by kernel_rfl) (by kernel_rfl) (fun _ _ _ h => h) (yif rfl fun w' hw' => x_load 28 (.tmp 2) rfl _ rfl (L0 w' hw')) (by assumption) ?_
  refine wpAnyH_take (i := 1) (v := .agg (rd cs p b l)) rfl (by kernel_rfl) (by kernel_rfl) (by kernel_rfl) (fun _ _ _ h => h) (yif rfl fun w' hw' => x_load 28 (.tmp 2) rfl _ rfl (L0 w' hw')) (by assumption) ?_
  refine wpAnyH_take (i := 2) (v := .int .i64 (N : Int)) rfl (by kernel_rfl) (by kernel_rfl) (by kernel_rfl) (fun _ _ _ h => h) (yif rfl fun w' hw' => x_move (.tmp 1) rfl) (by assumption) ?_
  refine wpAnyH_all (rs := [3]) (by kernel_rfl) (by simp) fun i hi => ?_
  obtain rfl := one_of hi
  refine op_call (f := 22) (args := #[.agg (rd cs p b l), .float .f32 0, .float .f32 1065353216, .int .i64 (N : Int)]) rfl rfl (by kernel_rfl) ((steadySteps_any cs p b l hl 0 1065353216 N hN w2).mono ?_)
  rintro e w3 ⟨⟨lb, rfl, g1, g2, g3, go, gm, rfl, a1, a2, a3, a4, a5⟩, hb3⟩
  have A3 := A2.step hb3
  refine ⟨_, rfl, A3, ?_⟩
  have hrep : ∀ x k : Nat, k < N → (fl (List.replicate 400 x))[k]? = some (.float .f32 x) := fun x k hk => by
    have h1 := fl_get (xs := List.replicate 400 x) (k := k) (by simp; omega)
    rw [h1]
    congr 2
    unfold nth
    rw [List.getD_eq_getElem?_getD, List.getElem?_replicate, if_pos (by omega)]; rfl
  have SQ := steps_seq cs p b l ok (fun _ => 0) (fun _ => 1065353216) N hN (fun _ _ => GZ.out.1) (fun _ _ => GZ.out.2) g1 g2 g3 go gm _ _ _ _ (hrep 0) (hrep 1065353216) w3 a1 a2 a3 a4 a5
  refine wpAnyH_all (rs := [4]) (by kernel_rfl) (by simp) fun i hi => ?_
  obtain rfl := one_of hi
  refine op_call (f := 20) (args := #[.func (.func 21) #[] #[], .agg (rd cs p b l), .func (.func 63) #[] #[.pointer (some ⟨g1, 0, none⟩), .pointer (some ⟨g2, 0, none⟩), .pointer (some ⟨g3, 0, none⟩)]]) rfl rfl (by kernel_rfl) ((untilEmpty_any cs p b l ok (fun _ => 0) (fun _ => 1065353216) N hN _ w3 SQ).mono ?_)
  rintro e w4 ⟨rfl, hb4⟩
  have A4 := A3.step hb4
  have B4 := Lib.hid (bthen (bthen B2.out hb3) hb4)
  refine ⟨_, rfl, A4, ?_⟩
  clear SQ a1 a2 a3 a4 a5 A2 A3 B2 hb3 hb4 hrep
  refine wpAnyH_take (i := 5) (v := .int .i64 (untilF (fun k => emptyW l (itL p b cs (fun _ => 0) (fun _ => 1065353216) k)) 0 N).1) rfl (by kernel_rfl) (by kernel_rfl) (by kernel_rfl) (fun _ _ _ h => h) (yif rfl fun w' hw' => by kernel_rfl) (by assumption) ?_
  refine wpAnyH_take (i := 6) (v := .int .i64 (untilF (fun k => emptyW l (itL p b cs (fun _ => 0) (fun _ => 1065353216) k)) 0 N).2) rfl (by kernel_rfl) (by kernel_rfl) (by kernel_rfl) (fun _ _ _ h => h) (yif rfl fun w' hw' => by kernel_rfl) (by assumption) ?_
  refine wpAnyH_take (i := 7) (v := .int .i64 (untilF (fun k => emptyW l (itL p b cs (fun _ => 0) (fun _ => 1065353216) k)) 0 N).1) rfl (by kernel_rfl) (by kernel_rfl) (by kernel_rfl) (fun _ _ _ h => h) (yif rfl fun w' hw' => by kernel_rfl) (by assumption) ?_
  refine wpAnyH_take (i := 8) (v := .int .i64 (untilF (fun k => emptyW l (itL p b cs (fun _ => 0) (fun _ => 1065353216) k)) 0 N).2) rfl (by kernel_rfl) (by kernel_rfl) (by kernel_rfl) (fun _ _ _ h => h) (yif rfl fun w' hw' => by kernel_rfl) (by assumption) ?_
  refine wpAnyH_done (by kernel_rfl) ?_ _
  generalize hA : Act.put _ _ _ = A
  have eA : A = { tmps := #[.agg (rd cs p b l), .int .i64 (N : Int), .pointer (some ⟨w.heap.size, 0, none⟩), undef, .int .i64 (untilF (fun k => emptyW l (itL p b cs (fun _ => 0) (fun _ => 1065353216) k)) 0 N).1, .int .i64 (untilF (fun k => emptyW l (itL p b cs (fun _ => 0) (fun _ => 1065353216) k)) 0 N).2, .int .i64 0, .agg (rd cs p b l), .int .i64 (N : Int), .int .i64 0, .int .i64 0, .bool false, undef, .agg (rd cs p b l), .agg (rd cs p b l), .int .i64 (N : Int), .func (.func 63) #[] #[.pointer (some ⟨g1, 0, none⟩), .pointer (some ⟨g2, 0, none⟩), .pointer (some ⟨g3, 0, none⟩)], .tuple #[.int .i64 (untilF (fun k => emptyW l (itL p b cs (fun _ => 0) (fun _ => 1065353216) k)) 0 N).1, .int .i64 (untilF (fun k => emptyW l (itL p b cs (fun _ => 0) (fun _ => 1065353216) k)) 0 N).2], .int .i64 (untilF (fun k => emptyW l (itL p b cs (fun _ => 0) (fun _ => 1065353216) k)) 0 N).1, .int .i64 (untilF (fun k => emptyW l (itL p b cs (fun _ => 0) (fun _ => 1065353216) k)) 0 N).2], defers := [] } := by rw [← hA]; kernel_rfl
  clear hA
  subst eA
  go_wp2
  go_ret2
  exact ⟨rfl, B4.out⟩

theorem StepsToEmpty_any (cs : List Nat) (p b l : Nat) (hl : cs.length = 16) (hc : ∀ x ∈ cs, x < 4294967296) (hp : p < 4294967296) (hb : b < 4294967296) (hla : l < 4294967296) (n : Int) (hn : -9223372036854775808 ≤ n ∧ n ≤ 9223372036854775807) (w : World) :
    Calls Try.prog 6 #[.agg (rd cs p b l), .int .i64 n] w fun e w' => e = .returned (.tuple #[.int .i64 (vToEmpty cs p b l n).1, .int .i64 (vToEmpty cs p b l n).2]) ∧ Below w.heap.size w w' := by
  by_cases h : stepsC (okB cs p b l) 0 1065353216 n = 0
  · have e : vToEmpty cs p b l n = untilF (fun k => emptyW l (itL p b cs (fun _ => 0) (fun _ => 1065353216) k)) 0 n.toNat := by unfold vToEmpty; rw [if_pos h]
    rw [e]
    have hh : givenC (okB cs p b l) 0 1065353216 = 0 ∧ 0 ≤ n ∧ n ≤ 400 := stepsC_zero h
    obtain ⟨N, rfl⟩ := Int.eq_ofNat_of_zero_le hh.2.1
    rw [Int.toNat_natCast]
    exact StepsToEmpty_yes cs p b l hl hc hp hb hla N (by omega) hh.1 w
  · have e : vToEmpty cs p b l n = (0, stepsC (okB cs p b l) 0 1065353216 n) := by unfold vToEmpty; rw [if_neg h]
    rw [e]
    exact StepsToEmpty_no cs p b l hl hc hp hb hla n hn h w

def vToFull (cs : List Nat) (p b l : Nat) (o : Nat) (n : Int) : Int × Int := if stepsC (okB cs p b l) o 0 n = 0 then untilF (fun k => fullW p b (itL p b cs (fun _ => o) (fun _ => 0) k)) 0 n.toNat else (0, stepsC (okB cs p b l) o 0 n)

theorem StepsToFull_no (cs : List Nat) (p b l : Nat) (hl : cs.length = 16) (hc : ∀ x ∈ cs, x < 4294967296) (hp : p < 4294967296) (hb : b < 4294967296) (hla : l < 4294967296) (o : Nat) (ho : o < 4294967296) (n : Int) (hn : -9223372036854775808 ≤ n ∧ n ≤ 9223372036854775807) (h : stepsC (okB cs p b l) o 0 n ≠ 0) (w : World) :
    Calls Try.prog 11 #[.agg (rd cs p b l), .float .f32 o, .int .i64 n] w fun e w' => e = .returned (.tuple #[.int .i64 0, .int .i64 (stepsC (okB cs p b l) o 0 n)]) ∧ Below w.heap.size w w' := by
  have A0 := At.new w (rd cs p b l) 28
  have B0 := Lib.hid (b0 w (.cells (rd cs p b l) 28))
  have KR := fun w => refusalOfSteps_any cs p b l hl hc hp hb hla o 0 ho (by omega) n w
  generalize stepsC (okB cs p b l) o 0 n = c at KR h ⊢
  have gne : (c == 0) = false := by simp [h]
  go_enter Try.func11, Try.ntmps11
  go_wp2_with (((with_reducible refine is_load 28 _ rfl ?_); refine wpList_load_at rfl 28 _ rfl _ rfl (rd cs p b l) _ A0 19 (rd_size hl p b l) _ Try.underlying28 rfl (by kernel_rfl) ?_))
  refine (KR _).mono ?_
  rintro e' w1 ⟨rfl, hb1⟩
  have B1 := Lib.hid (bthen B0.out hb1)
  clear KR A0 B0 hb1
  go_wp2_with fail
  go_ret2
  exact ⟨rfl, B1.out⟩

set_option maxHeartbeats 400000 in
theorem StepsToFull_yes (cs : List Nat) (p b l : Nat) (hl : cs.length = 16) (hc : ∀ x ∈ cs, x < 4294967296) (hp : p < 4294967296) (hb : b < 4294967296) (hla : l < 4294967296) (o : Nat) (ho : o < 4294967296) (N : Nat) (hN : N ≤ 400) (h : givenC (okB cs p b l) o 0 = 0) (w : World) :
    Calls Try.prog 11 #[.agg (rd cs p b l), .float .f32 o, .int .i64 (N : Int)] w fun e w' => e = .returned (.tuple #[.int .i64 (untilF (fun k => fullW p b (itL p b cs (fun _ => o) (fun _ => 0) k)) 0 N).1, .int .i64 (untilF (fun k => fullW p b (itL p b cs (fun _ => o) (fun _ => 0) k)) 0 N).2]) ∧ Below w.heap.size w w' := by
  have A0 := At.new w (rd cs p b l) 28
  have B0 := Lib.hid (b0 w (.cells (rd cs p b l) 28))
  have gz := given_zero h
  have ok := OkR.of hl gz.1
  have KR := fun w => refusalOfSteps_any cs p b l hl hc hp hb hla o 0 ho (by omega) N w
  rw [show stepsC (okB cs p b l) o 0 N = 0 from by unfold stepsC; rw [if_pos h, if_pos (by omega)]] at KR
  have GZ := Lib.hid gz.2
  clear gz h
  go_enter Try.func11, Try.ntmps11
  go_wp2_with (((with_reducible refine is_load 28 _ rfl ?_); refine wpList_load_at rfl 28 _ rfl _ rfl (rd cs p b l) _ A0 19 (rd_size hl p b l) _ Try.underlying28 rfl (by kernel_rfl) ?_))
  refine (KR _).mono ?_
  rintro e' w1 ⟨rfl, hb1⟩
  have A1 := A0.step hb1
  have B1 := Lib.hid (bthen B0.out hb1)
  clear KR A0 B0 hb1
  go_wp2
  refine wp_region_held (S := fun w' => At w' w.heap.size (rd cs p b l) 28) (by kernel_rfl) ?_
  show wpAnyH _ _ _ _ _ 10 (Array.replicate 10 false) _ _
  have A2 : At { w1 with drawn := w1.drawn + 1 } w.heap.size (rd cs p b l) 28 := A1
  have B2 : Hid (Below w.heap.size w { w1 with drawn := w1.drawn + 1 }) := Lib.hid ⟨B1.out.1, B1.out.2, B1.out.3, B1.out.4, B1.out.5⟩
  generalize ({ w1 with drawn := w1.drawn + 1 } : World) = w2 at A2 B2 ⊢
  clear A1 B1
  have L0 : ∀ w', At w' w.heap.size (rd cs p b l) 28 → (Instr.loadAt 28 (.pointer (some ⟨w.heap.size, 0, none⟩))).run Try.prog w' = .ok (.agg (rd cs p b l)) w' := fun w' h => run_load_road hl h
  refine wpAnyH_take (i := 0) (v := .agg (rd cs p b l)) rfl (by kernel_rfl) (by kernel_rfl) (by kernel_rfl) (fun _ _ _ h => h) (yif rfl fun w' hw' => x_load 28 (.tmp 3) rfl _ rfl (L0 w' hw')) (by assumption) ?_
  refine wpAnyH_take (i := 1) (v := .agg (rd cs p b l)) rfl (by kernel_rfl) (by kernel_rfl) (by kernel_rfl) (fun _ _ _ h => h) (yif rfl fun w' hw' => x_load 28 (.tmp 3) rfl _ rfl (L0 w' hw')) (by assumption) ?_
  refine wpAnyH_take (i := 2) (v := .float .f32 o) rfl (by kernel_rfl) (by kernel_rfl) (by kernel_rfl) (fun _ _ _ h => h) (yif rfl fun w' hw' => x_move (.tmp 1) rfl) (by assumption) ?_
  refine wpAnyH_take (i := 3) (v := .int .i64 (N : Int)) rfl (by kernel_rfl) (by kernel_rfl) (by kernel_rfl) (fun _ _ _ h => h) (yif rfl fun w' hw' => x_move (.tmp 2) rfl) (by assumption) ?_
  refine wpAnyH_all (rs := [4]) (by kernel_rfl) (by simp) fun i hi => ?_
  obtain rfl := one_of hi
  refine op_call (f := 22) (args := #[.agg (rd cs p b l), .float .f32 o, .float .f32 0, .int .i64 (N : Int)]) rfl rfl (by kernel_rfl) ((steadySteps_any cs p b l hl o 0 N hN w2).mono ?_)
  rintro e w3 ⟨⟨lb, rfl, g1, g2, g3, go, gm, rfl, a1, a2, a3, a4, a5⟩, hb3⟩
  have A3 := A2.step hb3
  refine ⟨_, rfl, A3, ?_⟩
  have hrep : ∀ x k : Nat, k < N → (fl (List.replicate 400 x))[k]? = some (.float .f32 x) := fun x k hk => by
    have h1 := fl_get (xs := List.replicate 400 x) (k := k) (by simp; omega)
    rw [h1]
    congr 2
    unfold nth
    rw [List.getD_eq_getElem?_getD, List.getElem?_replicate, if_pos (by omega)]; rfl
  have SQ := steps_seq cs p b l ok (fun _ => o) (fun _ => 0) N hN (fun _ _ => GZ.out.1) (fun _ _ => GZ.out.2) g1 g2 g3 go gm _ _ _ _ (hrep o) (hrep 0) w3 a1 a2 a3 a4 a5
  refine wpAnyH_all (rs := [5]) (by kernel_rfl) (by simp) fun i hi => ?_
  obtain rfl := one_of hi
  refine op_call (f := 20) (args := #[.func (.func 32) #[] #[], .agg (rd cs p b l), .func (.func 63) #[] #[.pointer (some ⟨g1, 0, none⟩), .pointer (some ⟨g2, 0, none⟩), .pointer (some ⟨g3, 0, none⟩)]]) rfl rfl (by kernel_rfl) ((untilFull_any cs p b l ok (fun _ => o) (fun _ => 0) N hN _ w3 SQ).mono ?_)
  rintro e w4 ⟨rfl, hb4⟩
  have A4 := A3.step hb4
  have B4 := Lib.hid (bthen (bthen B2.out hb3) hb4)
  refine ⟨_, rfl, A4, ?_⟩
  clear SQ a1 a2 a3 a4 a5 A2 A3 B2 hb3 hb4 hrep
  refine wpAnyH_take (i := 6) (v := .int .i64 (untilF (fun k => fullW p b (itL p b cs (fun _ => o) (fun _ => 0) k)) 0 N).1) rfl (by kernel_rfl) (by kernel_rfl) (by kernel_rfl) (fun _ _ _ h => h) (yif rfl fun w' hw' => by kernel_rfl) (by assumption) ?_
  refine wpAnyH_take (i := 7) (v := .int .i64 (untilF (fun k => fullW p b (itL p b cs (fun _ => o) (fun _ => 0) k)) 0 N).2) rfl (by kernel_rfl) (by kernel_rfl) (by kernel_rfl) (fun _ _ _ h => h) (yif rfl fun w' hw' => by kernel_rfl) (by assumption) ?_
  refine wpAnyH_take (i := 8) (v := .int .i64 (untilF (fun k => fullW p b (itL p b cs (fun _ => o) (fun _ => 0) k)) 0 N).1) rfl (by kernel_rfl) (by kernel_rfl) (by kernel_rfl) (fun _ _ _ h => h) (yif rfl fun w' hw' => by kernel_rfl) (by assumption) ?_
  refine wpAnyH_take (i := 9) (v := .int .i64 (untilF (fun k => fullW p b (itL p b cs (fun _ => o) (fun _ => 0) k)) 0 N).2) rfl (by kernel_rfl) (by kernel_rfl) (by kernel_rfl) (fun _ _ _ h => h) (yif rfl fun w' hw' => by kernel_rfl) (by assumption) ?_
  refine wpAnyH_done (by kernel_rfl) ?_ _
  generalize hA : Act.put _ _ _ = A
  have eA : A = { tmps := #[.agg (rd cs p b l), .float .f32 o, .int .i64 (N : Int), .pointer (some ⟨w.heap.size, 0, none⟩), undef, undef, .int .i64 (untilF (fun k => fullW p b (itL p b cs (fun _ => o) (fun _ => 0) k)) 0 N).1, .int .i64 (untilF (fun k => fullW p b (itL p b cs (fun _ => o) (fun _ => 0) k)) 0 N).2, .int .i64 0, .agg (rd cs p b l), .float .f32 o, .int .i64 (N : Int), .int .i64 0, .int .i64 0, .bool false, undef, .agg (rd cs p b l), .agg (rd cs p b l), .float .f32 o, .int .i64 (N : Int), .func (.func 63) #[] #[.pointer (some ⟨g1, 0, none⟩), .pointer (some ⟨g2, 0, none⟩), .pointer (some ⟨g3, 0, none⟩)], .tuple #[.int .i64 (untilF (fun k => fullW p b (itL p b cs (fun _ => o) (fun _ => 0) k)) 0 N).1, .int .i64 (untilF (fun k => fullW p b (itL p b cs (fun _ => o) (fun _ => 0) k)) 0 N).2], .int .i64 (untilF (fun k => fullW p b (itL p b cs (fun _ => o) (fun _ => 0) k)) 0 N).1, .int .i64 (untilF (fun k => fullW p b (itL p b cs (fun _ => o) (fun _ => 0) k)) 0 N).2], defers := [] } := by rw [← hA]; kernel_rfl
  clear hA
  subst eA
  go_wp2
  go_ret2
  exact ⟨rfl, B4.out⟩

theorem StepsToFull_any (cs : List Nat) (p b l : Nat) (hl : cs.length = 16) (hc : ∀ x ∈ cs, x < 4294967296) (hp : p < 4294967296) (hb : b < 4294967296) (hla : l < 4294967296) (o : Nat) (ho : o < 4294967296) (n : Int) (hn : -9223372036854775808 ≤ n ∧ n ≤ 9223372036854775807) (w : World) :
    Calls Try.prog 11 #[.agg (rd cs p b l), .float .f32 o, .int .i64 n] w fun e w' => e = .returned (.tuple #[.int .i64 (vToFull cs p b l o n).1, .int .i64 (vToFull cs p b l o n).2]) ∧ Below w.heap.size w w' := by
  by_cases h : stepsC (okB cs p b l) o 0 n = 0
  · have e : vToFull cs p b l o n = untilF (fun k => fullW p b (itL p b cs (fun _ => o) (fun _ => 0) k)) 0 n.toNat := by unfold vToFull; rw [if_pos h]
    rw [e]
    have hh : givenC (okB cs p b l) o 0 = 0 ∧ 0 ≤ n ∧ n ≤ 400 := stepsC_zero h
    obtain ⟨N, rfl⟩ := Int.eq_ofNat_of_zero_le hh.2.1
    rw [Int.toNat_natCast]
    exact StepsToFull_yes cs p b l hl hc hp hb hla o ho N (by omega) hh.1 w
  · have e : vToFull cs p b l o n = (0, stepsC (okB cs p b l) o 0 n) := by unfold vToFull; rw [if_neg h]
    rw [e]
    exact StepsToFull_no cs p b l hl hc hp hb hla o ho n hn h w

end Go.Proofs.Ytpcobfcnpeoihaa
