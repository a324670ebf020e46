/-
  CONTRACTS: several steps, the program's.
-/
import Derived.Test.YtiaflomabgnmaaaG15
import Derived.Test.YtiaflomabgnmaaaSteps
namespace Go.Proofs.Ytiaflomabgnmaaa
open Go Go.RowKit Go.Shelf
set_option maxRecDepth 100000

theorem StepRoads_no (cs : List Nat) (p b l : Nat) (hl : cs.length = 16) (hc : ∀ x ∈ cs, x < 4294967296) (hp : p < 4294967296) (hb : b < 4294967296) (hla : l < 4294967296) (o m : Nat) (ho : o < 4294967296) (hm : m < 4294967296) (n : Int) (h : stepsC (okB cs p b l) o m n ≠ 0) (w : World) :
    Calls Try.prog 11 #[.agg (rd cs p b l), .float .f32 o, .float .f32 m, .int .i64 n] w fun e w' => e = .returned (.tuple #[.agg (rd (zeros 16) 0 0 0), .float .f32 0, .float .f32 0, .int .i64 (stepsC (okB cs p b l) o m n)]) ∧ Below w.heap.size w w' := by
  have R0 : At ((w.alloc (.cells (rd cs p b l) 28)).alloc (.cells (rd (zeros 16) 0 0 0) 28)) w.heap.size (rd cs p b l) 28 := (At.new w _ _).alloc _
  have Y0 : At ((w.alloc (.cells (rd cs p b l) 28)).alloc (.cells (rd (zeros 16) 0 0 0) 28)) (w.heap.size + 1) (rd (zeros 16) 0 0 0) 28 := At.last1 w _ _ _
  have B0 := Lib.hid (bnew (b0 w (.cells (rd cs p b l) 28)) (.cells (rd (zeros 16) 0 0 0) 28))
  have KR := fun w => refusalOfSteps_any cs p b l hl hc hp hb hla o m ho hm n w
  generalize stepsC (okB cs p b l) o m n = c at KR h ⊢
  have gne : (c == 0) = false := by simp [h]
  go_enter Try.func11, Try.ntmps11
  go_wp2_with (((with_reducible refine is_load 28 _ rfl ?_); refine wpList_load_at rfl 28 _ rfl _ rfl (rd cs p b l) _ (by assumption) 19 (rd_size hl p b l) _ Try.underlying28 rfl (by kernel_rfl) ?_))
  refine (KR _).mono ?_
  rintro e' w1 ⟨rfl, hb1⟩
  have Y1 := Y0.step hb1
  have B1 := Lib.hid (bthen B0.out hb1)
  clear KR R0 Y0 B0 hb1
  have Y9 := Y1.setRow (rd (zeros 16) 0 0 0)
  have B9 := Lib.hid (bset B1.out (g := w.heap.size + 1) (by omega) (rd (zeros 16) 0 0 0))
  go_wp2_with (((with_reducible refine is_store 28 (.tmp 8) (.tmp 20) rfl ?_); refine wpList_store_at rfl 28 (.tmp 8) (.tmp 20) rfl _ rfl (rd (zeros 16) 0 0 0) rfl (rd (zeros 16) 0 0 0) _ (by assumption) 19 (rd_size (zeros_len 16) _ _ _) (rd_size (zeros_len 16) _ _ _) (by kernel_rfl) (fl_one _) ?_))
  exact bodyPost_ret (v := .tuple #[.agg (rd (zeros 16) 0 0 0), .float .f32 0, .float .f32 0, .int .i64 c]) (results_at3 (p := 8) (ty := 28) rfl _ _ _ (rd (zeros 16) 0 0 0) _ _ _ _ (rfl) (rfl) (rfl) (rfl) Y9 _ Try.underlying28 rfl 19 (rd_size (zeros_len 16) _ _ _) (by kernel_rfl)) (rfl) ⟨rfl, B9.out⟩

set_option maxHeartbeats 400000 in
theorem StepRoads_yes (cs : List Nat) (p b l : Nat) (hl : cs.length = 16) (hc : ∀ x ∈ cs, x < 4294967296) (hp : p < 4294967296) (hb : b < 4294967296) (hla : l < 4294967296) (o m : Nat) (ho : o < 4294967296) (hm : m < 4294967296) (n : Nat) (hn : n ≤ 400) (h : givenC (okB cs p b l) o m = 0) (w : World) :
    Calls Try.prog 11 #[.agg (rd cs p b l), .float .f32 o, .float .f32 m, .int .i64 n] w fun e w' => e = .returned (.tuple #[.agg (rd (itL p b cs (fun _ => o) (fun _ => m) n) p b l), .float .f32 (itS p b cs (fun _ => o) (fun _ => m) 0 n), .float .f32 (itS p b cs (fun _ => o) (fun _ => m) 16 n), .int .i64 0]) ∧ Below w.heap.size w w' := by
  have R0 : At ((w.alloc (.cells (rd cs p b l) 28)).alloc (.cells (rd (zeros 16) 0 0 0) 28)) w.heap.size (rd cs p b l) 28 := (At.new w _ _).alloc _
  have Y0 : At ((w.alloc (.cells (rd cs p b l) 28)).alloc (.cells (rd (zeros 16) 0 0 0) 28)) (w.heap.size + 1) (rd (zeros 16) 0 0 0) 28 := At.last1 w _ _ _
  have B0 := Lib.hid (bnew (b0 w (.cells (rd cs p b l) 28)) (.cells (rd (zeros 16) 0 0 0) 28))
  have gz := given_zero h
  have ok := OkR.of hl gz.1
  have KR := fun w => refusalOfSteps_any cs p b l hl hc hp hb hla o m ho hm n w
  rw [show stepsC (okB cs p b l) o m n = 0 from by unfold stepsC; rw [if_pos h, if_pos (by omega)]] at KR
  have GZ := Lib.hid gz.2
  clear gz h
  have SZ : (rd (itL p b cs (fun _ => o) (fun _ => m) n) p b l).size = 19 := rd_size (itL_ok ok (fun _ => o) (fun _ => m) n).len p b l
  go_enter Try.func11, Try.ntmps11
  go_wp2_with (((with_reducible refine is_load 28 _ rfl ?_); refine wpList_load_at rfl 28 _ rfl _ rfl (rd cs p b l) _ (by assumption) 19 (rd_size hl p b l) _ Try.underlying28 rfl (by kernel_rfl) ?_))
  refine (KR _).mono ?_
  rintro e' w1 ⟨rfl, hb1⟩
  have R1 := R0.step hb1
  have Y1 := Y0.step hb1
  have B1 := Lib.hid (bthen B0.out hb1)
  clear KR R0 Y0 B0 hb1
  go_wp2
  refine wp_region_held (S := fun w' => At w' w.heap.size (rd cs p b l) 28) (by kernel_rfl) ?_
  show wpAnyH _ _ _ _ _ 15 (Array.replicate 15 false) _ _
  have A0 : At { w1 with drawn := w1.drawn + 1 } w.heap.size (rd cs p b l) 28 := R1
  have Y2 : At { w1 with drawn := w1.drawn + 1 } (w.heap.size + 1) (rd (zeros 16) 0 0 0) 28 := Y1
  have B2 : Hid (Below w.heap.size w { w1 with drawn := w1.drawn + 1 }) := Lib.hid ⟨B1.out.1, B1.out.2, B1.out.3, B1.out.4, B1.out.5⟩
  generalize ({ w1 with drawn := w1.drawn + 1 } : World) = w2 at A0 Y2 B2 ⊢
  clear R1 Y1 B1
  have L0 : ∀ w', At w' w.heap.size (rd cs p b l) 28 → (Instr.loadAt 28 (.pointer (some ⟨w.heap.size, 0, none⟩))).run Try.prog w' = .ok (.agg (rd cs p b l)) w' := fun w' h => run_load_road hl h
  refine wpAnyH_take (i := 0) (v := .agg (rd cs p b l)) rfl (by kernel_rfl) (by kernel_rfl) (by kernel_rfl) (fun _ _ _ h => h) (yif rfl fun w' hw' => x_load 28 (.tmp 4) rfl _ rfl (L0 w' hw')) (by assumption) ?_
  refine wpAnyH_take (i := 1) (v := .agg (rd cs p b l)) rfl (by kernel_rfl) (by kernel_rfl) (by kernel_rfl) (fun _ _ _ h => h) (yif rfl fun w' hw' => x_load 28 (.tmp 4) rfl _ rfl (L0 w' hw')) (by assumption) ?_
  refine wpAnyH_take (i := 2) (v := .float .f32 o) rfl (by kernel_rfl) (by kernel_rfl) (by kernel_rfl) (fun _ _ _ h => h) (yif rfl fun w' hw' => x_move (.tmp 1) rfl) (by assumption) ?_
  refine wpAnyH_take (i := 3) (v := .float .f32 m) rfl (by kernel_rfl) (by kernel_rfl) (by kernel_rfl) (fun _ _ _ h => h) (yif rfl fun w' hw' => x_move (.tmp 2) rfl) (by assumption) ?_
  refine wpAnyH_take (i := 4) (v := .int .i64 n) rfl (by kernel_rfl) (by kernel_rfl) (by kernel_rfl) (fun _ _ _ h => h) (yif rfl fun w' hw' => x_move (.tmp 3) rfl) (by assumption) ?_
  refine wpAnyH_all (rs := [5]) (by kernel_rfl) (by simp) fun i hi => ?_
  obtain rfl := one_of hi
  refine op_call (f := 24) (args := #[.agg (rd cs p b l), .float .f32 o, .float .f32 m, .int .i64 n]) rfl rfl (by kernel_rfl) ((steadySteps_any cs p b l hl o m n hn w2).mono ?_)
  rintro e w3 ⟨⟨lb, rfl, g1, g2, g3, go, gm, rfl, a1, a2, a3, a4, a5⟩, hb3⟩
  have A3 := A0.step hb3
  refine ⟨_, rfl, A3, ?_⟩
  have hrep : ∀ x k : Nat, k < n → (fl (List.replicate 400 x))[k]? = some (.float .f32 x) := fun x k hk => by
    have h1 := fl_get (xs := List.replicate 400 x) (k := k) (by simp; omega)
    rw [h1]
    congr 2
    unfold nth
    rw [List.getD_eq_getElem?_getD, List.getElem?_replicate, if_pos (by omega)]; rfl
  have SQ := steps_seq cs p b l ok (fun _ => o) (fun _ => m) n hn (fun _ _ => GZ.out.1) (fun _ _ => GZ.out.2) g1 g2 g3 go gm _ _ _ _ (hrep o) (hrep m) w3 a1 a2 a3 a4 a5
  refine wpAnyH_all (rs := [6]) (by kernel_rfl) (by simp) fun i hi => ?_
  obtain rfl := one_of hi
  refine op_call (f := 23) (args := #[.agg (rd cs p b l), .func (.func 45) #[] #[.pointer (some ⟨g1, 0, none⟩), .pointer (some ⟨g2, 0, none⟩), .pointer (some ⟨g3, 0, none⟩)]]) rfl rfl (by kernel_rfl) ((sumOfSteps_any cs p b l ok (fun _ => o) (fun _ => m) n _ w3 SQ).mono ?_)
  rintro e w4 ⟨rfl, hb4⟩
  have A4 := A3.step hb4
  have Y4 := (Y2.step hb3).step hb4
  have B4 := Lib.hid (bthen (bthen B2.out hb3) hb4)
  refine ⟨_, rfl, A4, ?_⟩
  clear SQ a1 a2 a3 a4 a5 A0 A3 Y2 B2 hb3 hb4 hrep
  refine wpAnyH_take (i := 7) (v := .agg (rd (itL p b cs (fun _ => o) (fun _ => m) n) p b l)) rfl (by kernel_rfl) (by kernel_rfl) (by kernel_rfl) (fun _ _ _ h => h) (yif rfl fun w' hw' => by kernel_rfl) (by assumption) ?_
  refine wpAnyH_take (i := 8) (v := .float .f32 (itS p b cs (fun _ => o) (fun _ => m) 0 n)) rfl (by kernel_rfl) (by kernel_rfl) (by kernel_rfl) (fun _ _ _ h => h) (yif rfl fun w' hw' => by kernel_rfl) (by assumption) ?_
  refine wpAnyH_take (i := 9) (v := .float .f32 (itS p b cs (fun _ => o) (fun _ => m) 16 n)) rfl (by kernel_rfl) (by kernel_rfl) (by kernel_rfl) (fun _ _ _ h => h) (yif rfl fun w' hw' => by kernel_rfl) (by assumption) ?_
  refine wpAnyH_take (i := 10) (v := .int .i64 0) rfl (by kernel_rfl) (by kernel_rfl) (by kernel_rfl) (fun _ _ _ h => h) (yif rfl fun w' hw' => by kernel_rfl) (by assumption) ?_
  have A5 := A4.setRow_other (k := w.heap.size + 1) (by omega) (rd (itL p b cs (fun _ => o) (fun _ => m) n) p b l)
  have Y5 := Y4.setRow (rd (itL p b cs (fun _ => o) (fun _ => m) n) p b l)
  have B5 := Lib.hid (bset B4.out (g := w.heap.size + 1) (by omega) (rd (itL p b cs (fun _ => o) (fun _ => m) n) p b l))
  refine wpAnyH_all (rs := [11]) (by kernel_rfl) (by simp) fun i hi => ?_
  obtain rfl := one_of hi
  refine op_skip rfl rfl (store_fresh (ty := 28) (d := 8) (s := 29) rfl 19 SZ (rd_size (zeros_len 16) _ _ _) (by kernel_rfl) (fl_one _) _ w4 (w.heap.size + 1) (by kernel_rfl) (by kernel_rfl) Y4) ⟨A5, ?_⟩
  refine wpAnyH_take (i := 12) (v := .float .f32 (itS p b cs (fun _ => o) (fun _ => m) 0 n)) rfl (by kernel_rfl) (by kernel_rfl) (by kernel_rfl) (fun _ _ _ h => h) (yif rfl fun w' hw' => by kernel_rfl) (by assumption) ?_
  refine wpAnyH_take (i := 13) (v := .float .f32 (itS p b cs (fun _ => o) (fun _ => m) 16 n)) rfl (by kernel_rfl) (by kernel_rfl) (by kernel_rfl) (fun _ _ _ h => h) (yif rfl fun w' hw' => by kernel_rfl) (by assumption) ?_
  refine wpAnyH_take (i := 14) (v := .int .i64 0) rfl (by kernel_rfl) (by kernel_rfl) (by kernel_rfl) (fun _ _ _ h => h) (yif rfl fun w' hw' => by kernel_rfl) (by assumption) ?_
  refine wpAnyH_done (by kernel_rfl) ?_ _
  clear A4 A5 Y4 B4
  generalize w4.setRow (w.heap.size + 1) (rd (itL p b cs (fun _ => o) (fun _ => m) n) p b l) = w5 at Y5 B5 ⊢
  generalize hA : Act.put _ _ _ = A
  have HA := Lib.hid hA
  clear hA
  go_wp2
  have hA := HA.out
  subst hA
  exact bodyPost_ret (v := .tuple #[.agg (rd (itL p b cs (fun _ => o) (fun _ => m) n) p b l), .float .f32 (itS p b cs (fun _ => o) (fun _ => m) 0 n), .float .f32 (itS p b cs (fun _ => o) (fun _ => m) 16 n), .int .i64 0]) (results_at3 (p := 8) (ty := 28) rfl _ _ _ (rd (itL p b cs (fun _ => o) (fun _ => m) n) p b l) _ _ _ _ (by kernel_rfl) (by kernel_rfl) (by kernel_rfl) (by kernel_rfl) Y5 _ Try.underlying28 rfl 19 (SZ) (by kernel_rfl)) (by kernel_rfl) ⟨rfl, B5.out⟩

end Go.Proofs.Ytiaflomabgnmaaa
