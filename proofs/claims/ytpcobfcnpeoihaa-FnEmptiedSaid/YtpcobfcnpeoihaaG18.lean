/-
  SEVERAL TEXTS IN ONE.
-/
import Derived.Test.YtpcobfcnpeoihaaG16
import Derived.Test.YtpcobfcnpeoihaaSteps

/-
  CONTRACTS: several steps, the program's.
-/
namespace Go.Proofs.Ytpcobfcnpeoihaa
open Go Go.RowKit Go.Shelf
set_option maxRecDepth 100000

theorem StepRoads_no (cs : List Nat) (p b l : Nat) (hl : cs.length = 16) (hc : ∀ x ∈ cs, x < 4294967296) (hp : p < 4294967296) (hb : b < 4294967296) (hla : l < 4294967296) (o m : Nat) (ho : o < 4294967296) (hm : m < 4294967296) (n : Int) (h : stepsC (okB cs p b l) o m n ≠ 0) (w : World) :
    Calls Try.prog 8 #[.agg (rd cs p b l), .float .f32 o, .float .f32 m, .int .i64 n] w fun e w' => e = .returned (.tuple #[.agg (rd (zeros 16) 0 0 0), .float .f32 0, .float .f32 0, .int .i64 (stepsC (okB cs p b l) o m n)]) ∧ Below w.heap.size w w' := by
  have R0 : At ((w.alloc (.cells (rd cs p b l) 28)).alloc (.cells (rd (zeros 16) 0 0 0) 28)) w.heap.size (rd cs p b l) 28 := (At.new w _ _).alloc _
  have Y0 : At ((w.alloc (.cells (rd cs p b l) 28)).alloc (.cells (rd (zeros 16) 0 0 0) 28)) (w.heap.size + 1) (rd (zeros 16) 0 0 0) 28 := At.last1 w _ _ _
  have B0 := Lib.hid (bnew (b0 w (.cells (rd cs p b l) 28)) (.cells (rd (zeros 16) 0 0 0) 28))
  have KR := fun w => refusalOfSteps_any cs p b l hl hc hp hb hla o m ho hm n w
  generalize stepsC (okB cs p b l) o m n = c at KR h ⊢
  have gne : (c == 0) = false := by simp [h]
  go_enter Try.func8, Try.ntmps8
  go_wp2_with (((with_reducible refine is_load 28 _ rfl ?_); refine wpList_load_at rfl 28 _ rfl _ rfl (rd cs p b l) _ (by assumption) 19 (rd_size hl p b l) _ Try.underlying28 rfl (by kernel_rfl) ?_))
  refine (KR _).mono ?_
  rintro e' w1 ⟨rfl, hb1⟩
  have Y1 := Y0.step hb1
  have B1 := Lib.hid (bthen B0.out hb1)
  clear KR R0 Y0 B0 hb1
  have Y9 := Y1.setRow (rd (zeros 16) 0 0 0)
  have B9 := Lib.hid (bset B1.out (g := w.heap.size + 1) (by omega) (rd (zeros 16) 0 0 0))
  go_wp2_with (((with_reducible refine is_store 28 (.tmp 8) (.tmp 20) rfl ?_); refine wpList_store_at rfl 28 (.tmp 8) (.tmp 20) rfl _ rfl (rd (zeros 16) 0 0 0) rfl (rd (zeros 16) 0 0 0) _ (by assumption) 19 (rd_size (zeros_len 16) _ _ _) (rd_size (zeros_len 16) _ _ _) (by kernel_rfl) (fl_one _) ?_))
  exact bodyPost_ret (v := .tuple #[.agg (rd (zeros 16) 0 0 0), .float .f32 0, .float .f32 0, .int .i64 c]) (results_at3 (p := 8) (ty := 28) rfl _ _ _ (rd (zeros 16) 0 0 0) _ _ _ _ (rfl) (rfl) (rfl) (rfl) Y9 _ Try.underlying28 rfl 19 (rd_size (zeros_len 16) _ _ _) (by kernel_rfl)) (rfl) ⟨rfl, B9.out⟩

set_option maxHeartbeats 400000 in
theorem StepRoads_yes (cs : List Nat) (p b l : Nat) (hl : cs.length = 16) (hc : ∀ x ∈ cs, x < 4294967296) (hp : p < 4294967296) (hb : b < 4294967296) (hla : l < 4294967296) (o m : Nat) (ho : o < 4294967296) (hm : m < 4294967296) (n : Nat) (hn : n ≤ 400) (h : givenC (okB cs p b l) o m = 0) (w : World) :
    Calls Try.prog 8 #[.agg (rd cs p b l), .float .f32 o, .float .f32 m, .int .i64 n] w fun e w' => e = .returned (.tuple #[.agg (rd (itL p b cs (fun _ => o) (fun _ => m) n) p b l), .float .f32 (itS p b cs (fun _ => o) (fun _ => m) 0 n), .float .f32 (itS p b cs (fun _ => o) (fun _ => m) 16 n), .int .i64 0]) ∧ Below w.heap.size w w' := by
  have R0 : At ((w.alloc (.cells (rd cs p b l) 28)).alloc (.cells (rd (zeros 16) 0 0 0) 28)) w.heap.size (rd cs p b l) 28 := (At.new w _ _).alloc _
  have Y0 : At ((w.alloc (.cells (rd cs p b l) 28)).alloc (.cells (rd (zeros 16) 0 0 0) 28)) (w.heap.size + 1) (rd (zeros 16) 0 0 0) 28 := At.last1 w _ _ _
  have B0 := Lib.hid (bnew (b0 w (.cells (rd cs p b l) 28)) (.cells (rd (zeros 16) 0 0 0) 28))
  have gz := given_zero h
  have ok := OkR.of hl gz.1
  have KR := fun w => refusalOfSteps_any cs p b l hl hc hp hb hla o m ho hm n w
  rw [show stepsC (okB cs p b l) o m n = 0 from by unfold stepsC; rw [if_pos h, if_pos (by omega)]] at KR
  have GZ := Lib.hid gz.2
  clear gz h
  have SZ : (rd (itL p b cs (fun _ => o) (fun _ => m) n) p b l).size = 19 := rd_size (itL_ok ok (fun _ => o) (fun _ => m) n).len p b l
  go_enter Try.func8, Try.ntmps8
  go_wp2_with (((with_reducible refine is_load 28 _ rfl ?_); refine wpList_load_at rfl 28 _ rfl _ rfl (rd cs p b l) _ (by assumption) 19 (rd_size hl p b l) _ Try.underlying28 rfl (by kernel_rfl) ?_))
  refine (KR _).mono ?_
  rintro e' w1 ⟨rfl, hb1⟩
  have R1 := R0.step hb1
  have Y1 := Y0.step hb1
  have B1 := Lib.hid (bthen B0.out hb1)
  clear KR R0 Y0 B0 hb1
  go_wp2
  refine wp_region_held (S := fun w' => At w' w.heap.size (rd cs p b l) 28) (by kernel_rfl) ?_
  show wpAnyH _ _ _ _ _ 15 (Array.replicate 15 false) _ _
  have A0 : At { w1 with drawn := w1.drawn + 1 } w.heap.size (rd cs p b l) 28 := R1
  have Y2 : At { w1 with drawn := w1.drawn + 1 } (w.heap.size + 1) (rd (zeros 16) 0 0 0) 28 := Y1
  have B2 : Hid (Below w.heap.size w { w1 with drawn := w1.drawn + 1 }) := Lib.hid ⟨B1.out.1, B1.out.2, B1.out.3, B1.out.4, B1.out.5⟩
  generalize ({ w1 with drawn := w1.drawn + 1 } : World) = w2 at A0 Y2 B2 ⊢
  clear R1 Y1 B1
  have L0 : ∀ w', At w' w.heap.size (rd cs p b l) 28 → (Instr.loadAt 28 (.pointer (some ⟨w.heap.size, 0, none⟩))).run Try.prog w' = .ok (.agg (rd cs p b l)) w' := fun w' h => run_load_road hl h
  refine wpAnyH_take (i := 0) (v := .agg (rd cs p b l)) rfl (by kernel_rfl) (by kernel_rfl) (by kernel_rfl) (fun _ _ _ h => h) (yif rfl fun w' hw' => x_load 28 (.tmp 4) rfl _ rfl (L0 w' hw')) (by assumption) ?_
  refine wpAnyH_take (i := 1) (v := .agg (rd cs p b l)) rfl (by kernel_rfl) (by kernel_rfl) (by kernel_rfl) (fun _ _ _ h => h) (yif rfl fun w' hw' => x_load 28 (.tmp 4) rfl _ rfl (L0 w' hw')) (by assumption) ?_
  refine wpAnyH_take (i := 2) (v := .float .f32 o) rfl (by kernel_rfl) (by kernel_rfl) (by kernel_rfl) (fun _ _ _ h => h) (yif rfl fun w' hw' => x_move (.tmp 1) rfl) (by assumption) ?_
  refine wpAnyH_take (i := 3) (v := .float .f32 m) rfl (by kernel_rfl) (by kernel_rfl) (by kernel_rfl) (fun _ _ _ h => h) (yif rfl fun w' hw' => x_move (.tmp 2) rfl) (by assumption) ?_
  refine wpAnyH_take (i := 4) (v := .int .i64 n) rfl (by kernel_rfl) (by kernel_rfl) (by kernel_rfl) (fun _ _ _ h => h) (yif rfl fun w' hw' => x_move (.tmp 3) rfl) (by assumption) ?_
  refine wpAnyH_all (rs := [5]) (by kernel_rfl) (by simp) fun i hi => ?_
  obtain rfl := one_of hi
  refine op_call (f := 22) (args := #[.agg (rd cs p b l), .float .f32 o, .float .f32 m, .int .i64 n]) rfl rfl (by kernel_rfl) ((steadySteps_any cs p b l hl o m n hn w2).mono ?_)
  rintro e w3 ⟨⟨lb, rfl, g1, g2, g3, go, gm, rfl, a1, a2, a3, a4, a5⟩, hb3⟩
  have A3 := A0.step hb3
  refine ⟨_, rfl, A3, ?_⟩
  have hrep : ∀ x k : Nat, k < n → (fl (List.replicate 400 x))[k]? = some (.float .f32 x) := fun x k hk => by
    have h1 := fl_get (xs := List.replicate 400 x) (k := k) (by simp; omega)
    rw [h1]
    congr 2
    unfold nth
    rw [List.getD_eq_getElem?_getD, List.getElem?_replicate, if_pos (by omega)]; rfl
  have SQ := steps_seq cs p b l ok (fun _ => o) (fun _ => m) n hn (fun _ _ => GZ.out.1) (fun _ _ => GZ.out.2) g1 g2 g3 go gm _ _ _ _ (hrep o) (hrep m) w3 a1 a2 a3 a4 a5
  refine wpAnyH_all (rs := [6]) (by kernel_rfl) (by simp) fun i hi => ?_
  obtain rfl := one_of hi
  refine op_call (f := 28) (args := #[.agg (rd cs p b l), .func (.func 63) #[] #[.pointer (some ⟨g1, 0, none⟩), .pointer (some ⟨g2, 0, none⟩), .pointer (some ⟨g3, 0, none⟩)]]) rfl rfl (by kernel_rfl) ((sumOfSteps_any cs p b l ok (fun _ => o) (fun _ => m) n _ w3 SQ).mono ?_)
  rintro e w4 ⟨rfl, hb4⟩
  have A4 := A3.step hb4
  have Y4 := (Y2.step hb3).step hb4
  have B4 := Lib.hid (bthen (bthen B2.out hb3) hb4)
  refine ⟨_, rfl, A4, ?_⟩
  clear SQ a1 a2 a3 a4 a5 A0 A3 Y2 B2 hb3 hb4 hrep
  refine wpAnyH_take (i := 7) (v := .agg (rd (itL p b cs (fun _ => o) (fun _ => m) n) p b l)) rfl (by kernel_rfl) (by kernel_rfl) (by kernel_rfl) (fun _ _ _ h => h) (yif rfl fun w' hw' => by kernel_rfl) (by assumption) ?_
  refine wpAnyH_take (i := 8) (v := .float .f32 (itS p b cs (fun _ => o) (fun _ => m) 0 n)) rfl (by kernel_rfl) (by kernel_rfl) (by kernel_rfl) (fun _ _ _ h => h) (yif rfl fun w' hw' => by kernel_rfl) (by assumption) ?_
  refine wpAnyH_take (i := 9) (v := .float .f32 (itS p b cs (fun _ => o) (fun _ => m) 16 n)) rfl (by kernel_rfl) (by kernel_rfl) (by kernel_rfl) (fun _ _ _ h => h) (yif rfl fun w' hw' => by kernel_rfl) (by assumption) ?_
  refine wpAnyH_take (i := 10) (v := .int .i64 0) rfl (by kernel_rfl) (by kernel_rfl) (by kernel_rfl) (fun _ _ _ h => h) (yif rfl fun w' hw' => by kernel_rfl) (by assumption) ?_
  have A5 := A4.setRow_other (k := w.heap.size + 1) (by omega) (rd (itL p b cs (fun _ => o) (fun _ => m) n) p b l)
  have Y5 := Y4.setRow (rd (itL p b cs (fun _ => o) (fun _ => m) n) p b l)
  have B5 := Lib.hid (bset B4.out (g := w.heap.size + 1) (by omega) (rd (itL p b cs (fun _ => o) (fun _ => m) n) p b l))
  refine wpAnyH_all (rs := [11]) (by kernel_rfl) (by simp) fun i hi => ?_
  obtain rfl := one_of hi
  refine op_skip rfl rfl (store_fresh (ty := 28) (d := 8) (s := 29) rfl 19 SZ (rd_size (zeros_len 16) _ _ _) (by kernel_rfl) (fl_one _) _ w4 (w.heap.size + 1) (by kernel_rfl) (by kernel_rfl) Y4) ⟨A5, ?_⟩
  refine wpAnyH_take (i := 12) (v := .float .f32 (itS p b cs (fun _ => o) (fun _ => m) 0 n)) rfl (by kernel_rfl) (by kernel_rfl) (by kernel_rfl) (fun _ _ _ h => h) (yif rfl fun w' hw' => by kernel_rfl) (by assumption) ?_
  refine wpAnyH_take (i := 13) (v := .float .f32 (itS p b cs (fun _ => o) (fun _ => m) 16 n)) rfl (by kernel_rfl) (by kernel_rfl) (by kernel_rfl) (fun _ _ _ h => h) (yif rfl fun w' hw' => by kernel_rfl) (by assumption) ?_
  refine wpAnyH_take (i := 14) (v := .int .i64 0) rfl (by kernel_rfl) (by kernel_rfl) (by kernel_rfl) (fun _ _ _ h => h) (yif rfl fun w' hw' => by kernel_rfl) (by assumption) ?_
  refine wpAnyH_done (by kernel_rfl) ?_ _
  clear A4 A5 Y4 B4
  generalize w4.setRow (w.heap.size + 1) (rd (itL p b cs (fun _ => o) (fun _ => m) n) p b l) = w5 at Y5 B5 ⊢
  generalize hA : Act.put _ _ _ = A
  have HA := Lib.hid hA
  clear hA
  go_wp2
  have hA := HA.out
  subst hA
  exact bodyPost_ret (v := .tuple #[.agg (rd (itL p b cs (fun _ => o) (fun _ => m) n) p b l), .float .f32 (itS p b cs (fun _ => o) (fun _ => m) 0 n), .float .f32 (itS p b cs (fun _ => o) (fun _ => m) 16 n), .int .i64 0]) (results_at3 (p := 8) (ty := 28) rfl _ _ _ (rd (itL p b cs (fun _ => o) (fun _ => m) n) p b l) _ _ _ _ (by kernel_rfl) (by kernel_rfl) (by kernel_rfl) (by kernel_rfl) Y5 _ Try.underlying28 rfl 19 (SZ) (by kernel_rfl)) (by kernel_rfl) ⟨rfl, B5.out⟩

end Go.Proofs.Ytpcobfcnpeoihaa

/-
  CONTRACTS: StepRoads, at all arguments.
-/
namespace Go.Proofs.Ytpcobfcnpeoihaa
open Go Go.RowKit
set_option maxRecDepth 100000

def vStepRoads (cs : List Nat) (p b l o m : Nat) (n : Int) : List Nat × Nat × Nat × Nat × Nat × Nat × Int :=
  if stepsC (okB cs p b l) o m n = 0 then (itL p b cs (fun _ => o) (fun _ => m) n.toNat, p, b, l, itS p b cs (fun _ => o) (fun _ => m) 0 n.toNat, itS p b cs (fun _ => o) (fun _ => m) 16 n.toNat, 0) else (zeros 16, 0, 0, 0, 0, 0, stepsC (okB cs p b l) o m n)
theorem stepsC_zeroR {ok : Bool} {o m : Nat} {n : Int} (h : stepsC ok o m n = 0) : givenC ok o m = 0 ∧ 0 ≤ n ∧ n ≤ 400 := by
  unfold stepsC at h
  by_cases g : givenC ok o m = 0
  · rw [if_pos g] at h
    by_cases c : 0 ≤ n ∧ n ≤ 400
    · exact ⟨g, c⟩
    · rw [if_neg c] at h; cases h
  · rw [if_neg g] at h; exact absurd h g
theorem vStepRoads_good {cs : List Nat} (hl : cs.length = 16) (p b l o m : Nat) (n : Int) : goodL (vStepRoads cs p b l o m n).1 (vStepRoads cs p b l o m n).2.1 (vStepRoads cs p b l o m n).2.2.1 (vStepRoads cs p b l o m n).2.2.2.1 ∧ ((vStepRoads cs p b l o m n).2.2.2.2.1 < 4294967296 ∧ nanB (vStepRoads cs p b l o m n).2.2.2.2.1 = false) ∧ ((vStepRoads cs p b l o m n).2.2.2.2.2.1 < 4294967296 ∧ nanB (vStepRoads cs p b l o m n).2.2.2.2.2.1 = false) := by
  unfold vStepRoads
  by_cases h : stepsC (okB cs p b l) o m n = 0
  · rw [if_pos h]
    obtain ⟨hg, -⟩ := stepsC_zeroR h
    have hok := (given_zero hg).1
    have ok := OkR.of hl hok
    obtain ⟨g1, g2, g3, g4, g5⟩ := okB_good hl hok
    have ok2 := itL_ok ok (fun _ => o) (fun _ => m) n.toNat
    exact ⟨⟨ok2.len, fun y hy => nan_le (ok2.cars y hy) (by omega), g3, g4, g5⟩, nan_le (itS_facts ok (fun _ => o) (fun _ => m) 0 n.toNat) (by omega), nan_le (itS_facts ok (fun _ => o) (fun _ => m) 16 n.toNat) (by omega)⟩
  · rw [if_neg h]
    exact ⟨zero_good, ⟨show 0 < 4294967296 by decide, show nanB 0 = false by decide⟩, ⟨show 0 < 4294967296 by decide, show nanB 0 = false by decide⟩⟩

theorem StepRoads_any (cs : List Nat) (p b l : Nat) (hl : cs.length = 16) (hc : ∀ x ∈ cs, x < 4294967296) (hp : p < 4294967296) (hb : b < 4294967296) (hla : l < 4294967296) (o : Nat) (ho : o < 4294967296) (m : Nat) (hm : m < 4294967296) (n : Int) (w : World) :
    Calls Try.prog 8 #[.agg (rd cs p b l), .float .f32 o, .float .f32 m, .int .i64 n] w fun e w' => e = .returned (.tuple #[.agg (rd (vStepRoads cs p b l o m n).1 (vStepRoads cs p b l o m n).2.1 (vStepRoads cs p b l o m n).2.2.1 (vStepRoads cs p b l o m n).2.2.2.1), .float .f32 (vStepRoads cs p b l o m n).2.2.2.2.1, .float .f32 (vStepRoads cs p b l o m n).2.2.2.2.2.1, .int .i64 (vStepRoads cs p b l o m n).2.2.2.2.2.2]) ∧ Below w.heap.size w w' := by
  by_cases h : stepsC (okB cs p b l) o m n = 0
  · have e : (vStepRoads cs p b l o m n) = (itL p b cs (fun _ => o) (fun _ => m) n.toNat, p, b, l, itS p b cs (fun _ => o) (fun _ => m) 0 n.toNat, itS p b cs (fun _ => o) (fun _ => m) 16 n.toNat, 0) := by unfold vStepRoads; rw [if_pos h]
    rw [e]
    obtain ⟨hg, h0, h4⟩ := stepsC_zeroR h
    obtain ⟨k, rfl⟩ := Int.eq_ofNat_of_zero_le h0
    rw [Int.toNat_natCast]
    exact StepRoads_yes cs p b l hl hc hp hb hla o m ho hm k (by omega) hg w
  · have e : (vStepRoads cs p b l o m n) = (zeros 16, 0, 0, 0, 0, 0, stepsC (okB cs p b l) o m n) := by unfold vStepRoads; rw [if_neg h]
    rw [e]
    exact StepRoads_no cs p b l hl hc hp hb hla o m ho hm n h w

end Go.Proofs.Ytpcobfcnpeoihaa
