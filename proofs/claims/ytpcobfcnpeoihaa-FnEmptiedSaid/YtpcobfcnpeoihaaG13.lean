/-
  SEVERAL TEXTS IN ONE.
-/
import Derived.Test.YtpcobfcnpeoihaaStep
import Derived.Test.YtpcobfcnpeoihaaFluxesS
import Derived.Test.YtpcobfcnpeoihaaG11

/-
  CONTRACTS: a step, the model's.
-/
namespace Go.Proofs.Ytpcobfcnpeoihaa
open Go Go.RowKit
set_option maxRecDepth 100000

theorem l02Step_any (g gf : Nat) (cs fs : List Nat) (p b l : Nat) (hl : cs.length = 16) (hf : fs.length = 17) (hc : ∀ x ∈ cs, x ≤ 1065353216) (hfb : ∀ x ∈ fs, x ≤ 1065353216) (w : World) (Tr Tf : TypeId) (Ar : At w g (rd cs p b l) Tr) (Af : At w gf (fl fs) Tf) :
    Calls Try.prog 27 #[.pointer (some ⟨g, 0, none⟩), .pointer (some ⟨gf, 0, none⟩)] w fun e w' => e = .returned (.agg (rd (stepL cs (intoL fs) (outL fs)) p b l)) ∧ Below w.heap.size w w' := by
  have hg := Ar.lt
  have hgf := Af.lt
  have A0 := ((Ar.alloc (.cells (rd (zeros 16) 0 0 0) 28)).alloc (.cells (rd (zeros 16) 0 0 0) 28)).setRow_other (k := w.heap.size + 1) (by omega) (rd cs p b l)
  have F0 := ((Af.alloc (.cells (rd (zeros 16) 0 0 0) 28)).alloc (.cells (rd (zeros 16) 0 0 0) 28)).setRow_other (k := w.heap.size + 1) (by omega) (rd cs p b l)
  have R0 := ((At.new w (rd (zeros 16) 0 0 0) 28).alloc (.cells (rd (zeros 16) 0 0 0) 28)).setRow_other (k := w.heap.size + 1) (by omega) (rd cs p b l)
  have M0 := (At.last1 w (.cells (rd (zeros 16) 0 0 0) 28) (rd (zeros 16) 0 0 0) 28)
  have M1 := M0.setRow (rd cs p b l)
  have A00 := (Ar.alloc (.cells (rd (zeros 16) 0 0 0) 28))
  have B0 := Lib.hid (bset (bnew (b0 w (.cells (rd (zeros 16) 0 0 0) 28)) (.cells (rd (zeros 16) 0 0 0) 28)) (g := w.heap.size + 1) (by omega) (rd cs p b l))
  have HB := Lib.hid (And.intro hc hfb)
  clear hc hfb
  go_enter Try.func27, Try.ntmps27
  go_wp2_with (first | ((with_reducible refine is_load 28 _ rfl ?_); refine wpList_load_at rfl 28 _ rfl _ rfl (rd cs p b l) _ (by assumption) 19 (rd_size hl p b l) _ Try.underlying28 rfl (by kernel_rfl) ?_) | ((with_reducible refine is_store 28 (.tmp 5) (.tmp 9) rfl ?_); refine wpList_store_at rfl 28 (.tmp 5) (.tmp 9) rfl _ rfl (rd cs p b l) rfl (rd (zeros 16) 0 0 0) _ (by assumption) 19 (rd_size hl p b l) (rd_size (zeros_len 16) _ _ _) (by kernel_rfl) (fl_one _) ?_))
  clear M0 A00 Ar Af
  have BB0 := B0
  go_loopw [6] (fun i wr => ∃ k : Nat, k ≤ 16 ∧ i = .int .i64 k ∧ At wr g (rd cs p b l) Tr ∧ At wr gf (fl fs) Tf ∧ At wr w.heap.size (rd (zeros 16) 0 0 0) 28 ∧ At wr (w.heap.size + 1) (rd (mixTo (stepL cs (intoL fs) (outL fs)) cs k) p b l) 28 ∧ Hid (Below w.heap.size w wr)) (fun i _ => 16 - (intOf i).toNat)
  case atStart => exact ⟨0, by omega, rfl, A0, F0, R0, by rw [mixTo_zero]; exact M1, BB0⟩
  case round =>
    obtain ⟨k, hk, rfl, A4, F4, R4, M4, B4⟩ := hrel
    clear A0 F0 R0 M1 B0 BB0
    have hL := mixTo_len (stepL_len cs (intoL fs) (outL fs)) hl hk
    by_cases hlt : k < 16
    · have sf := step_facts (nth_le HB.out.1 k) (Nat.le_trans (nth_le HB.out.2 k) (by omega)) (nth_le HB.out.2 (k + 1))
      have f1 : ∀ t w, (binOp .add t (.float .f32 (nth cs k)) (.float .f32 (nth fs k))).run Try.prog w = .ok (.float .f32 (addB (nth cs k) (nth fs k))) w := fun t w => run_float_arith w .add t .f32 _ _ _ sf.1
      have f2 : ∀ t w, (binOp .sub t (.float .f32 (addB (nth cs k) (nth fs k))) (.float .f32 (nth fs (k + 1)))).run Try.prog w = .ok (.float .f32 (difB (addB (nth cs k) (nth fs k)) (nth fs (k + 1)))) w := fun t w => run_float_arith w .sub t .f32 _ _ _ sf.2.1
      have SG := Lib.hid sf.2.2
      clear sf
      have s2 : IntKind.i64.wrap ((k : Int) + 1) = (k : Int) + 1 := IntWalk.i64_in _ (by omega)
      have d1 := rd_cell hl p b l hlt
      have d2 := fl_get (xs := fs) (k := k) (by omega)
      have d3 := fl_get (xs := fs) (k := k + 1) (by omega)
      have hki : (k : Int) < 16 := by omega
      have hC := Cb.const wr
      go_wp2
      refine wp_region_cb_tail 23 (by kernel_rfl) (by kernel_rfl) ?_
      simp only [List.take, List.drop]
      repeat (first
        | go_big_quiet_skip
        | (go_big_quiet_want; first
          | (refine q_cell 24 _ rfl _ Try.underlying24 _ rfl A4 _ (by assumption) ?_; go_simp; go_big_quiet_on)
          | (refine q_cell 24 _ rfl _ Try.underlying24 _ rfl F4 _ (by assumption) ?_; go_simp; go_big_quiet_on)
          | (go_big_quiet_op; go_big_quiet_on)
          | (go_big_quiet_op; apply Exists.intro; refine ⟨fun w' hw' => ?_, ?_⟩; (go_at_call 54; exact (l02Held_b (difB (addB (nth cs k) (nth fs k)) (nth fs (k + 1))) SG.out _).mono fun _ _ h => ⟨h.1, hw'.step h.2⟩); go_big_quiet_on)))
      refine wpQuiet_nil ?_
      intro w9 hw9
      have A5 := A4.step hw9
      have F5 := F4.step hw9
      have R5 := R4.step hw9
      have M5 := M4.step hw9
      have B5 := Lib.hid (bthen B4.out hw9)
      clear A4 F4 R4 M4 B4 hw9 hC d1 d2 d3 f1 f2
      have G := run_store_one (P := Try.prog) w9 (w.heap.size + 1) k 28 (rd (mixTo (stepL cs (intoL fs) (outL fs)) cs k) p b l) (.float .f32 (stepC cs (intoL fs) (outL fs) k)) M5 (by rw [rd_size hL]; omega) rfl
      rw [rd_put hL p b l hlt, ← stepL_nth cs (intoL fs) (outL fs) hlt, mixTo_set (stepL_len cs (intoL fs) (outL fs)) hl hlt, stepL_nth cs (intoL fs) (outL fs) hlt, stepC, intoL_nth fs hlt, outL_nth fs hlt] at G
      have M6 := M5.setRow (rd (mixTo (stepL cs (intoL fs) (outL fs)) cs (k + 1)) p b l)
      have A6 := A5.setRow_other (k := w.heap.size + 1) (by omega) (rd (mixTo (stepL cs (intoL fs) (outL fs)) cs (k + 1)) p b l)
      have F6 := F5.setRow_other (k := w.heap.size + 1) (by omega) (rd (mixTo (stepL cs (intoL fs) (outL fs)) cs (k + 1)) p b l)
      have R6 := R5.setRow_other (k := w.heap.size + 1) (by omega) (rd (mixTo (stepL cs (intoL fs) (outL fs)) cs (k + 1)) p b l)
      have B6 := Lib.hid (bset B5.out (g := w.heap.size + 1) (by omega) (rd (mixTo (stepL cs (intoL fs) (outL fs)) cs (k + 1)) p b l))
      clear M5 A5 F5 R5 B5 hL
      go_wp2
      exact ⟨⟨k + 1, by omega, by go_num, A6, F6, R6, M6, B6⟩, by simp [intOf]; omega⟩
    · obtain rfl : k = 16 := by omega
      rw [mixTo_all (stepL_len cs (intoL fs) (outL fs)) hl] at M4
      have SZ : (rd (stepL cs (intoL fs) (outL fs)) p b l).size = 19 := rd_size (stepL_len cs (intoL fs) (outL fs)) p b l
      have R9 := R4.setRow (rd (stepL cs (intoL fs) (outL fs)) p b l)
      have B9 := Lib.hid (bset B4.out (g := w.heap.size) (Nat.le_refl _) (rd (stepL cs (intoL fs) (outL fs)) p b l))
      clear A4 F4
      go_wp2_with (first | ((with_reducible refine is_load 28 _ rfl ?_); refine wpList_load_at rfl 28 _ rfl _ rfl (rd (stepL cs (intoL fs) (outL fs)) p b l) _ (by assumption) 19 (SZ) _ Try.underlying28 rfl (by kernel_rfl) ?_) | ((with_reducible refine is_store 28 (.tmp 4) (.tmp 37) rfl ?_); refine wpList_store_at rfl 28 (.tmp 4) (.tmp 37) rfl _ rfl (rd (stepL cs (intoL fs) (outL fs)) p b l) rfl (rd (zeros 16) 0 0 0) _ (by assumption) 19 (SZ) (rd_size (zeros_len 16) _ _ _) (by kernel_rfl) (fl_one _) ?_))
      exact bodyPost_ret (v := .agg (rd (stepL cs (intoL fs) (outL fs)) p b l)) (results_at (p := 4) (ty := 28) rfl _ _ _ (rd (stepL cs (intoL fs) (outL fs)) p b l) _ rfl R9 _ Try.underlying28 rfl 19 SZ (by kernel_rfl)) rfl ⟨rfl, B9.out⟩
end Go.Proofs.Ytpcobfcnpeoihaa

/-
  SEVERAL STEPS: the shares behind n of them, and the sums of what has flowed in and out: of numbers, no Go text. What is offered and the room may be other at each step.
-/
namespace Go.Proofs.Ytpcobfcnpeoihaa
open Go Go.RowKit

/-- the flows of the step from these shares -/
def nextL (p b : Nat) (cs : List Nat) (o m : Nat) : List Nat := stepL cs (intoL (fluxL p b cs o m)) (outL (fluxL p b cs o m))
theorem nextL_len (p b : Nat) (cs : List Nat) (o m : Nat) : (nextL p b cs o m).length = 16 := stepL_len _ _ _
theorem nextL_ok {cs : List Nat} {p b l : Nat} (ok : OkR cs p b l) (o m : Nat) : OkR (nextL p b cs o m) p b l :=
  ⟨nextL_len _ _ _ _ _, stepL_le _ _ _, ok.pace, ok.back, ok.lanes⟩
/-- the shares behind k steps -/
def itL (p b : Nat) (cs : List Nat) (oo mm : Nat → Nat) : Nat → List Nat
  | 0 => cs
  | k + 1 => nextL p b (itL p b cs oo mm k) (oo k) (mm k)
theorem itL_succ (p b : Nat) (cs : List Nat) (oo mm : Nat → Nat) (k : Nat) : itL p b cs oo mm (k + 1) = nextL p b (itL p b cs oo mm k) (oo k) (mm k) := rfl
theorem itL_ok {cs : List Nat} {p b l : Nat} (ok : OkR cs p b l) (oo mm : Nat → Nat) : ∀ k, OkR (itL p b cs oo mm k) p b l
  | 0 => ok
  | k + 1 => nextL_ok (itL_ok ok oo mm k) _ _
/-- the flows of step k + 1 -/
def itF (p b : Nat) (cs : List Nat) (oo mm : Nat → Nat) (k : Nat) : List Nat := fluxL p b (itL p b cs oo mm k) (oo k) (mm k)
theorem itF_len (p b : Nat) (cs : List Nat) (oo mm : Nat → Nat) (k : Nat) : (itF p b cs oo mm k).length = 17 := fluxL_len _ _ _ _ _
theorem itF_le {cs : List Nat} {p b l : Nat} (ok : OkR cs p b l) (oo mm : Nat → Nat) (k : Nat) : ∀ x ∈ itF p b cs oo mm k, x ≤ 1065353216 := fluxL_le (itL_ok ok oo mm k) _ _
theorem itL_next (p b : Nat) (cs : List Nat) (oo mm : Nat → Nat) (k : Nat) : itL p b cs oo mm (k + 1) = stepL (itL p b cs oo mm k) (intoL (itF p b cs oo mm k)) (outL (itF p b cs oo mm k)) := rfl
/-- what has flowed through border i in k steps -/
def itS (p b : Nat) (cs : List Nat) (oo mm : Nat → Nat) (i : Nat) : Nat → Nat
  | 0 => 0
  | k + 1 => addB (itS p b cs oo mm i k) (nth (itF p b cs oo mm k) i)
theorem itS_succ (p b : Nat) (cs : List Nat) (oo mm : Nat → Nat) (i k : Nat) : itS p b cs oo mm i (k + 1) = addB (itS p b cs oo mm i k) (nth (itF p b cs oo mm k) i) := rfl
theorem itS_facts {cs : List Nat} {p b l : Nat} (ok : OkR cs p b l) (oo mm : Nat → Nat) (i : Nat) : ∀ k, itS p b cs oo mm i k ≤ 2139095040
  | 0 => by unfold itS; omega
  | k + 1 => by rw [itS_succ]; exact (add_any (itS_facts ok oo mm i k) (Nat.le_trans (nth_le (itF_le ok oo mm k) i) (by omega))).2
theorem itS_add {cs : List Nat} {p b l : Nat} (ok : OkR cs p b l) (oo mm : Nat → Nat) (i k : Nat) : floatBits .add .f32 (itS p b cs oo mm i k) (nth (itF p b cs oo mm k) i) = some (itS p b cs oo mm i (k + 1)) :=
  (add_any (itS_facts ok oo mm i k) (Nat.le_trans (nth_le (itF_le ok oo mm k) i) (by omega))).1

/-- the code of several steps -/
def stepsC (ok : Bool) (o m : Nat) (n : Int) : Int := if givenC ok o m = 0 then (if 0 ≤ n ∧ n ≤ 400 then 0 else 2) else givenC ok o m
end Go.Proofs.Ytpcobfcnpeoihaa

/-
  CONTRACTS: CarsOn.
-/
namespace Go.Proofs.Ytpcobfcnpeoihaa
open Go Go.RowKit

/-- the sum of the first shares, from the first one on -/
def sumW (cs : List Nat) : Nat → Nat
  | 0 => 0
  | 1 => nth cs 0
  | k + 2 => addB (sumW cs (k + 1)) (nth cs (k + 1))
theorem sumW_one (cs : List Nat) : sumW cs 1 = nth cs 0 := rfl
theorem sumW_succ (cs : List Nat) {k : Nat} (h : 1 ≤ k) : sumW cs (k + 1) = addB (sumW cs k) (nth cs k) := by
  obtain ⟨j, rfl⟩ : ∃ j, k = j + 1 := ⟨k - 1, by omega⟩
  rfl
theorem sumW_le {cs : List Nat} {p b l : Nat} (ok : OkR cs p b l) : ∀ k, sumW cs k ≤ 2139095040
  | 0 => by unfold sumW; omega
  | 1 => by rw [sumW_one]; exact Nat.le_trans (ok.car 0) (by omega)
  | k + 2 => by rw [sumW_succ cs (by omega)]; exact (add_any (sumW_le ok (k + 1)) (Nat.le_trans (ok.car _) (by omega))).2
def carsW (cs : List Nat) (l : Nat) : Nat := mulB (sumW cs 16) l
theorem cars_facts {cs : List Nat} {p b l : Nat} (ok : OkR cs p b l) : floatBits .mul .f32 (sumW cs 16) l = some (carsW cs l) ∧ carsW cs l ≤ 2139095040 := by
  have h1 := sumW_le ok 16
  have h2 := ok.lanes
  exact mul_any h1 (by omega) (by omega)
theorem sum_step {P : Program} {cs : List Nat} {p b l k : Nat} (ok : OkR cs p b l) (h : 1 ≤ k) (t : TypeId) (w : World) : (binOp .add t (.float .f32 (sumW cs k)) (.float .f32 (nth cs k))).run P w = .ok (.float .f32 (sumW cs (k + 1))) w :=
  run_float_arith w .add t .f32 _ _ _ (by rw [sumW_succ cs h]; exact (add_any (sumW_le ok k) (Nat.le_trans (ok.car _) (by omega))).1)

theorem l01Sum_any (g : Nat) (cs : List Nat) (p b l : Nat) (ok : OkR cs p b l) (w : World) (hr : RoadAt w g cs p b l) :
    Calls Try.prog 25 #[.pointer (some ⟨g, 0, none⟩)] w fun e w' => e = .returned (.float .f32 (sumW cs 16)) ∧ w = w' := by
  have c0 := hr.car ok.len (k := 0) (by omega)
  go_enter Try.func25, Try.ntmps25
  go_wp2
  go_loop [4, 3] (fun i s => ∃ k : Nat, 1 ≤ k ∧ k ≤ 16 ∧ i = .int .i64 k ∧ s = .float .f32 (sumW cs k)) (fun i _ => 16 - (intOf i).toNat)
  case atStart => exact ⟨1, by omega, by omega, rfl, rfl⟩
  case round =>
    obtain ⟨k, hk1, hk, rfl, rfl⟩ := hrel
    clear c0
    by_cases hlt : k < 16
    · have hi := hr.car ok.len hlt
      have hs := sum_step (P := Try.prog) ok hk1
      go_wp2_with (simp only [hs])
      exact ⟨⟨k + 1, by omega, by omega, by go_num, rfl⟩, by simp [intOf]; omega⟩
    · obtain rfl : k = 16 := by omega
      go_wp2
      go_ret
      exact ⟨rfl, rfl⟩

def vCarsOn (cs : List Nat) (p b l : Nat) : Nat × Int := if okB cs p b l then (carsW cs l, 0) else (0, 1)
theorem vCarsOn_yes {cs : List Nat} {p b l : Nat} (h : okB cs p b l = true) : vCarsOn cs p b l = (carsW cs l, 0) := by unfold vCarsOn; rw [if_pos h]
theorem vCarsOn_no {cs : List Nat} {p b l : Nat} (h : okB cs p b l = false) : vCarsOn cs p b l = (0, 1) := by unfold vCarsOn; rw [h]; rfl

theorem l01Sum_b (g : Nat) (cs : List Nat) (p b l : Nat) (ok : OkR cs p b l) (w : World) (hr : RoadAt w g cs p b l) :
    Calls Try.prog 25 #[.pointer (some ⟨g, 0, none⟩)] w fun e w' => e = .returned (.float .f32 (sumW cs 16)) ∧ Below w.heap.size w w' :=
  (l01Sum_any g cs p b l ok w hr).mono fun _ _ h => ⟨h.1, by rw [← h.2]; exact Below.refl _ _⟩

theorem carsOn_any (cs : List Nat) (p b l : Nat) (ok : OkR cs p b l) (w : World) :
    Calls Try.prog 30 #[.agg (rd cs p b l)] w fun e w' => e = .returned (.float .f32 (carsW cs l)) ∧ Below w.heap.size w w' := by
  have A1 := At.new w (rd cs p b l) 28
  have hl := ok.len
  have c0 := A1.cell (rd_cell hl p b l (k := 0) (by omega))
  go_enter Try.func30, Try.ntmps30
  go_wp2
  go_loop [4, 3] (fun i s => ∃ k : Nat, 1 ≤ k ∧ k ≤ 16 ∧ i = .int .i64 k ∧ s = .float .f32 (sumW cs k)) (fun i _ => 16 - (intOf i).toNat)
  case atStart => exact ⟨1, by omega, by omega, rfl, rfl⟩
  case round =>
    obtain ⟨k, hk1, hk, rfl, rfl⟩ := hrel
    clear c0
    by_cases hlt : k < 16
    · have hi := A1.cell (rd_cell hl p b l hlt)
      have hs := sum_step (P := Try.prog) ok hk1
      go_wp2_with (simp only [hs])
      exact ⟨⟨k + 1, by omega, by omega, by go_num, rfl⟩, by simp [intOf]; omega⟩
    · obtain rfl : k = 16 := by omega
      have hi := A1.cell (rd_lanes hl p b l)
      have hs : ∀ t w, (binOp .mul t (.float .f32 (sumW cs 16)) (.float .f32 l)).run Try.prog w = .ok (.float .f32 (carsW cs l)) w := fun t w => run_float_arith w .mul t .f32 _ _ _ (cars_facts ok).1
      go_wp2_with (simp only [hs])
      go_ret
      exact ⟨rfl, b0 _ _⟩

theorem RoadAt.ofAt {W : World} {g : Nat} {cs : List Nat} {p b l : Nat} {T : TypeId} (h : At W g (rd cs p b l) T) : RoadAt W g cs p b l := ⟨T, _, h⟩

theorem CarsOn_any (cs : List Nat) (p b l : Nat) (hl : cs.length = 16) (hc : ∀ x ∈ cs, x < 4294967296) (hp : p < 4294967296) (hb : b < 4294967296) (hla : l < 4294967296) (w : World) :
    Calls Try.prog 9 #[.agg (rd cs p b l)] w fun e w' => e = .returned (.tuple #[.float .f32 (vCarsOn cs p b l).1, .int .i64 (vCarsOn cs p b l).2]) ∧ Below w.heap.size w w' := by
  have A0 := At.new w (rd cs p b l) 28
  cases h : okB cs p b l
  · rw [vCarsOn_no h]
    go_enter Try.func9, Try.ntmps9
    go_wp2_with (((with_reducible refine is_load 28 _ rfl ?_); refine wpList_load_at rfl 28 _ rfl _ rfl (rd cs p b l) _ (by assumption) 19 (rd_size hl p b l) _ Try.underlying28 rfl (by kernel_rfl) ?_))
    refine (ValidRoad_any cs p b l hl hc hp hb hla _).mono ?_
    rintro e w1 ⟨rfl, hb1⟩
    go_wp2_with fail
    go_ret2
    exact ⟨rfl, bthen (b0 _ _) hb1⟩
  · rw [vCarsOn_yes h]
    have ok := OkR.of hl h
    go_enter Try.func9, Try.ntmps9
    go_wp2_with (((with_reducible refine is_load 28 _ rfl ?_); refine wpList_load_at rfl 28 _ rfl _ rfl (rd cs p b l) _ (by assumption) 19 (rd_size hl p b l) _ Try.underlying28 rfl (by kernel_rfl) ?_))
    refine (ValidRoad_any cs p b l hl hc hp hb hla _).mono ?_
    rintro e w1 ⟨rfl, hb1⟩
    have A1 := A0.step hb1
    have B1 := Lib.hid (bthen (b0 _ _) hb1)
    clear hb1
    go_wp2_with (((with_reducible refine is_load 28 _ rfl ?_); refine wpList_load_at rfl 28 _ rfl _ rfl (rd cs p b l) _ (by assumption) 19 (rd_size hl p b l) _ Try.underlying28 rfl (by kernel_rfl) ?_))
    refine (carsOn_any cs p b l ok _).mono ?_
    rintro e w2 ⟨rfl, hb2⟩
    go_wp2_with fail
    go_ret2
    exact ⟨rfl, bthen B1.out hb2⟩

theorem vCarsOn_good {cs : List Nat} (hl : cs.length = 16) (p b l : Nat) : (vCarsOn cs p b l).1 < 4294967296 ∧ nanB (vCarsOn cs p b l).1 = false := by
  cases h : okB cs p b l
  · rw [vCarsOn_no h]; exact ⟨by decide, by decide⟩
  · rw [vCarsOn_yes h]
    have h2 := (cars_facts (OkR.of hl h)).2
    generalize carsW cs l = x at h2 ⊢
    have h3 := nan_le h2 (Nat.le_refl _)
    exact h3
end Go.Proofs.Ytpcobfcnpeoihaa
