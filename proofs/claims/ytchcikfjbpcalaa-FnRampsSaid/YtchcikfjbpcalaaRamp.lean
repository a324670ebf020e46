/-
  CONTRACTS: RampStep, the program's.
-/
import Derived.Test.YtchcikfjbpcalaaRampChk
namespace Go.Proofs.Ytchcikfjbpcalaa
open Go Go.RowKit
set_option maxRecDepth 100000

def vRampStep (cs : List Nat) (p b l : Nat) (k : Int) (o m j : Nat) : List Nat × Nat × Nat × Nat × Nat × Nat × Nat × Int :=
  if rampC (okB cs p b l) k o m j = 0 then (stepL cs (rampIn p b cs o m j k.toNat) (outL (fluxL p b cs o m)), p, b, l, nth (fluxL p b cs o m) 0, nth (fluxL p b cs o m) 16, joinW p b cs o m j k.toNat, 0) else (zeros 16, 0, 0, 0, 0, 0, 0, rampC (okB cs p b l) k o m j)
theorem RampStep_yes (cs : List Nat) (p b l : Nat) (hl : cs.length = 16) (hc : ∀ x ∈ cs, x < 4294967296) (hp : p < 4294967296) (hb : b < 4294967296) (hla : l < 4294967296) (k : Nat) (hkN : k < 16) (o m j : Nat) (ho : o < 4294967296) (hm : m < 4294967296) (hj : j < 4294967296) (h : rampC (okB cs p b l) k o m j = 0) (w : World) :
    Calls Try.prog 8 #[.agg (rd cs p b l), .int .i64 k, .float .f32 o, .float .f32 m, .float .f32 j] w fun e w' => e = .returned (.tuple #[.agg (rd (stepL cs (rampIn p b cs o m j k) (outL (fluxL p b cs o m))) p b l), .float .f32 (nth (fluxL p b cs o m) 0), .float .f32 (nth (fluxL p b cs o m) 16), .float .f32 (joinW p b cs o m j k), .int .i64 0]) ∧ Below w.heap.size w w' := by
  have hmf : ∀ (fn : Fn) (first cap : Array Value) (w : World), (Instr.makeFunc fn first cap).run Try.prog w = .ok (.func fn first cap) w := fun _ _ _ _ => rfl
  have R0 : At ((((((w.alloc (.cells (rd cs p b l) 28)).alloc (.cells #[.int .i64 (k : Int)] 2)).alloc (.cells #[.float .f32 o] 24)).alloc (.cells #[.float .f32 m] 24)).alloc (.cells #[.float .f32 j] 24)).alloc (.cells (rd (zeros 16) 0 0 0) 28)) (w.heap.size) (rd cs p b l) 28 := by
    have h0 := At.new w (rd cs p b l) 28
    exact (((((h0.alloc _).alloc _).alloc _).alloc _).alloc _)
  have K0 : At ((((((w.alloc (.cells (rd cs p b l) 28)).alloc (.cells #[.int .i64 (k : Int)] 2)).alloc (.cells #[.float .f32 o] 24)).alloc (.cells #[.float .f32 m] 24)).alloc (.cells #[.float .f32 j] 24)).alloc (.cells (rd (zeros 16) 0 0 0) 28)) (w.heap.size + 1) (#[.int .i64 (k : Int)]) 2 := by
    have h0 := At.new (w.alloc (.cells (rd cs p b l) 28)) (#[.int .i64 (k : Int)]) 2
    rw [World.size_alloc] at h0
    exact ((((h0.alloc _).alloc _).alloc _).alloc _)
  have O0 : At ((((((w.alloc (.cells (rd cs p b l) 28)).alloc (.cells #[.int .i64 (k : Int)] 2)).alloc (.cells #[.float .f32 o] 24)).alloc (.cells #[.float .f32 m] 24)).alloc (.cells #[.float .f32 j] 24)).alloc (.cells (rd (zeros 16) 0 0 0) 28)) (w.heap.size + 1 + 1) (#[.float .f32 o]) 24 := by
    have h0 := At.new ((w.alloc (.cells (rd cs p b l) 28)).alloc (.cells #[.int .i64 (k : Int)] 2)) (#[.float .f32 o]) 24
    rw [World.size_alloc, World.size_alloc] at h0
    exact (((h0.alloc _).alloc _).alloc _)
  have M0 : At ((((((w.alloc (.cells (rd cs p b l) 28)).alloc (.cells #[.int .i64 (k : Int)] 2)).alloc (.cells #[.float .f32 o] 24)).alloc (.cells #[.float .f32 m] 24)).alloc (.cells #[.float .f32 j] 24)).alloc (.cells (rd (zeros 16) 0 0 0) 28)) (w.heap.size + 1 + 1 + 1) (#[.float .f32 m]) 24 := by
    have h0 := At.new (((w.alloc (.cells (rd cs p b l) 28)).alloc (.cells #[.int .i64 (k : Int)] 2)).alloc (.cells #[.float .f32 o] 24)) (#[.float .f32 m]) 24
    rw [World.size_alloc, World.size_alloc, World.size_alloc] at h0
    exact ((h0.alloc _).alloc _)
  have J0 : At ((((((w.alloc (.cells (rd cs p b l) 28)).alloc (.cells #[.int .i64 (k : Int)] 2)).alloc (.cells #[.float .f32 o] 24)).alloc (.cells #[.float .f32 m] 24)).alloc (.cells #[.float .f32 j] 24)).alloc (.cells (rd (zeros 16) 0 0 0) 28)) (w.heap.size + 1 + 1 + 1 + 1) (#[.float .f32 j]) 24 := by
    have h0 := At.new ((((w.alloc (.cells (rd cs p b l) 28)).alloc (.cells #[.int .i64 (k : Int)] 2)).alloc (.cells #[.float .f32 o] 24)).alloc (.cells #[.float .f32 m] 24)) (#[.float .f32 j]) 24
    rw [World.size_alloc, World.size_alloc, World.size_alloc, World.size_alloc] at h0
    exact (h0.alloc _)
  have Y0 : At ((((((w.alloc (.cells (rd cs p b l) 28)).alloc (.cells #[.int .i64 (k : Int)] 2)).alloc (.cells #[.float .f32 o] 24)).alloc (.cells #[.float .f32 m] 24)).alloc (.cells #[.float .f32 j] 24)).alloc (.cells (rd (zeros 16) 0 0 0) 28)) (w.heap.size + 1 + 1 + 1 + 1 + 1) (rd (zeros 16) 0 0 0) 28 := by
    have h0 := At.new (((((w.alloc (.cells (rd cs p b l) 28)).alloc (.cells #[.int .i64 (k : Int)] 2)).alloc (.cells #[.float .f32 o] 24)).alloc (.cells #[.float .f32 m] 24)).alloc (.cells #[.float .f32 j] 24)) (rd (zeros 16) 0 0 0) 28
    rw [World.size_alloc, World.size_alloc, World.size_alloc, World.size_alloc, World.size_alloc] at h0
    exact h0
  have B0 := Lib.hid (bnew (bnew (bnew (bnew (bnew (b0 w (.cells (rd cs p b l) 28)) (.cells #[.int .i64 (k : Int)] 2)) (.cells #[.float .f32 o] 24)) (.cells #[.float .f32 m] 24)) (.cells #[.float .f32 j] 24)) (.cells (rd (zeros 16) 0 0 0) 28))
  have KR := refusalOf_any 20 _ _ _ (fun _ => by kernel_rfl) fun w1 h1 => rampChk_any _ _ _ _ _ cs p b l hl hc hp hb hla (k : Int) (by omega) o m j ho hm hj w1 (R0.step h1) (K0.step h1) (O0.step h1) (M0.step h1) (J0.step h1)
  obtain ⟨hok, -, ho2, hm2, hj2⟩ := rampC_zero h
  rw [h] at KR
  have ok := OkR.of hl hok
  have rf := ramp_facts ok o m hj2 hkN
  obtain ⟨fs, hfs⟩ : ∃ fs, fs = fluxL p b cs o m := ⟨_, rfl⟩
  obtain ⟨is, his⟩ : ∃ is, is = intoL fs := ⟨_, rfl⟩
  obtain ⟨jw, hjw⟩ : ∃ jw, jw = joinW p b cs o m j k := ⟨_, rfl⟩
  obtain ⟨ri, hri⟩ : ∃ ri, ri = rampIn p b cs o m j k := ⟨_, rfl⟩
  have hfl : fs.length = 17 := by rw [hfs]; exact fluxL_len _ _ _ _ _
  have hil : is.length = 16 := by rw [his]; exact intoL_len hfl
  have hril : ri.length = 16 := by rw [hri]; exact rampIn_len _ _ _ _ _ _ _
  have hri2 : ri = is.set k (addB (nth is k) jw) := by rw [hri, his, hfs, hjw]; rfl
  rw [← hfs] at rf
  rw [← his, ← hjw, ← hri] at rf
  rw [← hfs, ← hjw, ← hri]
  have FZ : (fl fs).size = 17 := by rw [fl_size, hfl]
  have IZ : (fl is).size = 16 := by rw [fl_size, hil]
  have di := fl_get (xs := is) (k := k) (by omega)
  obtain ⟨dw, hdw⟩ : ∃ dw, dw = difB (takesW p b (nth cs k)) (nth fs k) := ⟨_, rfl⟩
  rw [← hdw] at rf
  have eis : nth is k = nth fs k := by rw [his]; exact intoL_nth fs hkN
  have f1 : ∀ t w, (binOp .sub t (.float .f32 (takesW p b (nth cs k))) (.float .f32 (nth is k))).run Try.prog w = .ok (.float .f32 dw) w := fun t w => by rw [eis]; exact run_float_arith w .sub t .f32 _ _ _ rf.1
  have m1 : ∀ ts t w, (Builtin.min_ ts t #[.float .f32 j, .float .f32 dw]).run Try.prog w = .ok (.float .f32 (minS j dw)) w := fun ts t w => run_minS w ts t hj2 rf.2.1
  have m2 : ∀ ts t w, (Builtin.max_ ts t #[.float .f32 (minS j dw), .float .f32 0]).run Try.prog w = .ok (.float .f32 jw) w := fun ts t w => by rw [← rf.2.2.1]; exact run_max0 w ts t (minS_sgn hj2 rf.2.1)
  have f3 : ∀ t w, (binOp .add t (.float .f32 (nth is k)) (.float .f32 jw)).run Try.prog w = .ok (.float .f32 (addB (nth is k) jw)) w := fun t w => run_float_arith w .add t .f32 _ _ _ rf.2.2.2.2.1
  have KO := outOfCells_any fs hfl
  have KF := flowed_any cs ri (outL fs) p b l hl hril (outL_len hfl) ok.cars rf.2.2.2.2.2.2 (by rw [hfs]; exact outL_le ok o m)
  have HF := Lib.hid (And.intro hfs (And.intro his (And.intro hri2 (And.intro hril (And.intro hfl hdw)))))
  have e0 := fl_get (xs := fs) (k := 0) (by omega)
  have e16 := fl_get (xs := fs) (k := 16) (by omega)
  have hki : (k : Int) < 16 := by omega
  clear hfs his hjw hri hri2 hdw rf hril eis hil
  go_enter Try.func8, Try.ntmps8
  go_wp2_with fail
  refine KR.mono ?_
  rintro e' w1 ⟨rfl, hb1⟩
  have R1 := R0.step hb1
  have K1 := K0.step hb1
  have O1 := O0.step hb1
  have M1 := M0.step hb1
  have J1 := J0.step hb1
  have Y1 := Y0.step hb1
  have B1 := Lib.hid (bthen B0.out hb1)
  clear R0 K0 O0 M0 J0 Y0 B0 hb1
  have co := O1.cell (k := 0) (v := .float .f32 o) rfl
  have cm := M1.cell (k := 0) (v := .float .f32 m) rfl
  go_wp2_with (((with_reducible refine is_load 28 _ rfl ?_); refine wpList_load_at rfl 28 _ rfl _ rfl (rd cs p b l) _ (by assumption) 19 (rd_size hl p b l) _ Try.underlying28 rfl (by kernel_rfl) ?_))
  refine (fluxesOf_any cs p b l ok o m ho2 hm2 _).mono ?_
  rw [← HF.out.1]
  rintro e' w2 ⟨rfl, hb2⟩
  clear co cm
  have R2 := R1.step hb2
  have K2 := K1.step hb2
  have O2 := O1.step hb2
  have M2 := M1.step hb2
  have J2 := J1.step hb2
  have Y2 := Y1.step hb2
  have B2 := Lib.hid (bthen B1.out hb2)
  clear R1 K1 O1 M1 J1 Y1 B1 hb2
  have NY : w.heap.size + 1 + 1 + 1 + 1 + 1 < w2.heap.size := Y2.lt
  have HB2 := B2.out.size
  have F0 := At.new w2 (fl (zeros 17)) 38
  have F3 := F0.setRow (fl fs)
  have R3 := (R2.alloc (.cells (fl (zeros 17)) 38)).setRow_other (k := w2.heap.size) (Nat.ne_of_lt R2.lt) (fl fs)
  have K3 := (K2.alloc (.cells (fl (zeros 17)) 38)).setRow_other (k := w2.heap.size) (Nat.ne_of_lt K2.lt) (fl fs)
  have O3 := (O2.alloc (.cells (fl (zeros 17)) 38)).setRow_other (k := w2.heap.size) (Nat.ne_of_lt O2.lt) (fl fs)
  have M3 := (M2.alloc (.cells (fl (zeros 17)) 38)).setRow_other (k := w2.heap.size) (Nat.ne_of_lt M2.lt) (fl fs)
  have J3 := (J2.alloc (.cells (fl (zeros 17)) 38)).setRow_other (k := w2.heap.size) (Nat.ne_of_lt J2.lt) (fl fs)
  have Y3 := (Y2.alloc (.cells (fl (zeros 17)) 38)).setRow_other (k := w2.heap.size) (Nat.ne_of_lt Y2.lt) (fl fs)
  have B3 := Lib.hid (bset (bnew B2.out (.cells (fl (zeros 17)) 38)) (g := w2.heap.size) B2.out.size (fl fs))
  go_wp2_with (first | ((with_reducible refine is_store 38 (.tmp 16) (.tmp 28) rfl ?_); refine wpList_store_at rfl 38 (.tmp 16) (.tmp 28) rfl _ rfl (fl fs) rfl (fl (zeros 17)) _ (by assumption) 17 (FZ) (by rw [fl_size, zeros_len]) (by kernel_rfl) (fl_one _) ?_) | ((with_reducible refine is_load 38 _ rfl ?_); refine wpList_load_at rfl 38 _ rfl _ rfl (fl fs) _ (by assumption) 17 (FZ) _ Try.underlying38 rfl (by kernel_rfl) ?_))
  clear F0 R2 K2 O2 M2 J2 Y2 B2
  refine (intoCells_any fs hfl _).mono ?_
  rw [← HF.out.2.1]
  rintro e' w3 ⟨rfl, hb3⟩
  have R4 := R3.step hb3
  have K4 := K3.step hb3
  have O4 := O3.step hb3
  have M4 := M3.step hb3
  have J4 := J3.step hb3
  have Y4 := Y3.step hb3
  have F4 := F3.step hb3
  have B4 := Lib.hid (bthen B3.out hb3)
  clear R3 K3 O3 M3 J3 Y3 F3 B3 hb3
  have I0 := At.new w3 (fl (zeros 16)) 26
  have I5 := I0.setRow (fl is)
  have R5 := (R4.alloc (.cells (fl (zeros 16)) 26)).setRow_other (k := w3.heap.size) (Nat.ne_of_lt R4.lt) (fl is)
  have K5 := (K4.alloc (.cells (fl (zeros 16)) 26)).setRow_other (k := w3.heap.size) (Nat.ne_of_lt K4.lt) (fl is)
  have O5 := (O4.alloc (.cells (fl (zeros 16)) 26)).setRow_other (k := w3.heap.size) (Nat.ne_of_lt O4.lt) (fl is)
  have M5 := (M4.alloc (.cells (fl (zeros 16)) 26)).setRow_other (k := w3.heap.size) (Nat.ne_of_lt M4.lt) (fl is)
  have J5 := (J4.alloc (.cells (fl (zeros 16)) 26)).setRow_other (k := w3.heap.size) (Nat.ne_of_lt J4.lt) (fl is)
  have Y5 := (Y4.alloc (.cells (fl (zeros 16)) 26)).setRow_other (k := w3.heap.size) (Nat.ne_of_lt Y4.lt) (fl is)
  have F5 := (F4.alloc (.cells (fl (zeros 16)) 26)).setRow_other (k := w3.heap.size) (Nat.ne_of_lt F4.lt) (fl is)
  have B5 := Lib.hid (bset (bnew B4.out (.cells (fl (zeros 16)) 26)) (g := w3.heap.size) B4.out.size (fl is))
  have NF : w2.heap.size < w3.heap.size := F4.lt
  have HB := Lib.hid B4.out.size
  go_wp2_with (((with_reducible refine is_store 26 (.tmp 17) (.tmp 30) rfl ?_); refine wpList_store_at rfl 26 (.tmp 17) (.tmp 30) rfl _ rfl (fl is) rfl (fl (zeros 16)) _ (by assumption) 16 (IZ) (by rw [fl_size, zeros_len]) (by kernel_rfl) (fl_one _) ?_))
  clear I0 R4 K4 O4 M4 J4 Y4 F4 B4
  rw [show (fl (zeros 16) : Array Value) = #[.float .f32 0, .float .f32 0, .float .f32 0, .float .f32 0, .float .f32 0, .float .f32 0, .float .f32 0, .float .f32 0, .float .f32 0, .float .f32 0, .float .f32 0, .float .f32 0, .float .f32 0, .float .f32 0, .float .f32 0, .float .f32 0] from rfl] at I5 R5 K5 O5 M5 J5 Y5 F5 B5
  generalize hw4 : (w3.alloc (.cells #[.float .f32 0, .float .f32 0, .float .f32 0, .float .f32 0, .float .f32 0, .float .f32 0, .float .f32 0, .float .f32 0, .float .f32 0, .float .f32 0, .float .f32 0, .float .f32 0, .float .f32 0, .float .f32 0, .float .f32 0, .float .f32 0] 26)).setRow w3.heap.size (fl is) = w4 at I5 R5 K5 O5 M5 J5 Y5 F5 B5 ⊢
  clear hw4
  simp only [Act.put]
  have hC := Cb.const w4
  have KT := takesAt_any k hkN cs p b l ok
  refine wp_region_cb (by kernel_rfl) (by kernel_rfl) ?_
  repeat (first
    | go_big_quiet_skip
    | (go_big_quiet_want; first
      | (refine q_cell 24 _ rfl _ Try.underlying24 _ rfl J5 _ rfl ?_; go_simp; go_big_quiet_on)
      | (refine q_cell 24 _ rfl _ Try.underlying24 _ rfl I5 _ (by assumption) ?_; go_simp; go_big_quiet_on)
      | (refine q_int 2 _ rfl _ Try.underlying2 _ rfl K5 _ rfl ?_; go_simp; go_big_quiet_on)
      | (refine q_row 28 _ rfl rfl R5 19 (rd_size hl p b l) _ Try.underlying28 rfl (by kernel_rfl) ?_; go_simp; go_big_quiet_on)
      | (go_big_quiet_op; go_big_quiet_on)
      | (go_big_quiet_op; apply Exists.intro; refine ⟨fun w' hw' => ?_, ?_⟩; (go_at_call 27; exact (KT _).mono fun _ _ h => ⟨h.1, hw'.step h.2⟩); go_big_quiet_on)))
  refine wpQuiet_nil ?_
  intro w5 hw5
  clear hC KT
  have R6 := R5.step hw5
  have K6 := K5.step hw5
  have O6 := O5.step hw5
  have M6 := M5.step hw5
  have J6 := J5.step hw5
  have Y6 := Y5.step hw5
  have F6 := F5.step hw5
  have I6 := I5.step hw5
  have B6 := Lib.hid (bthen B5.out hw5)
  clear R5 K5 O5 M5 J5 Y5 F5 I5 B5 hw5
  have ck := K6.cell (k := 0) (v := .int .i64 (k : Int)) rfl
  have ci := I6.cell di
  have G := run_store_one (P := Try.prog) w5 w3.heap.size k 26 (fl is) (.float .f32 (addB (nth is k) jw)) I6 (by rw [IZ]; exact hkN) rfl
  rw [fl_set, ← HF.out.2.2.1] at G
  have I7 := I6.setRow (fl ri)
  have R7 := R6.setRow_other (k := w3.heap.size) (by omega) (fl ri)
  have K7 := K6.setRow_other (k := w3.heap.size) (by omega) (fl ri)
  have O7 := O6.setRow_other (k := w3.heap.size) (by omega) (fl ri)
  have M7 := M6.setRow_other (k := w3.heap.size) (by omega) (fl ri)
  have J7 := J6.setRow_other (k := w3.heap.size) (by omega) (fl ri)
  have Y7 := Y6.setRow_other (k := w3.heap.size) (by omega) (fl ri)
  have F7 := F6.setRow_other (k := w3.heap.size) (by omega) (fl ri)
  have B7 := Lib.hid (bset B6.out (g := w3.heap.size) HB.out (fl ri))
  go_wp2
  generalize hw8 : w5.setRow w3.heap.size (fl ri) = w8 at I7 R7 K7 O7 M7 J7 Y7 F7 B7 ⊢
  clear hw8 G ck ci I6 R6 K6 O6 M6 J6 Y6 F6 B6
  have SZ : (rd (stepL cs ri (outL fs)) p b l).size = 19 := rd_size (stepL_len _ _ _) p b l
  have IZ2 : (fl ri).size = 16 := by rw [fl_size, HF.out.2.2.2.1]
  have HY8 := Y7.lt
  refine wp_region_late (n := 13) (ist := 10) (d := 10) (s := 51) (T := 28) (gR := w.heap.size + 1 + 1 + 1 + 1 + 1) (OV := rd (zeros 16) 0 0 0) (RV := rd (stepL cs ri (outL fs)) p b l) (by kernel_rfl) (by kernel_rfl) (by kernel_rfl) ⟨rfl, rfl, by decide, by kernel_rfl, by kernel_rfl, by kernel_rfl, by kernel_rfl⟩ rfl Y7 (fun ev w' h1 h2 h3 => store_fresh rfl 19 SZ (rd_size (zeros_len 16) _ _ _) (by kernel_rfl) (fl_one _) ev w' _ h1 h2 h3) ?_
  intro C hC0
  have R9 : ∀ w', C w' → At w' w.heap.size (rd cs p b l) 28 := fun w' h => (hC0.sub w' h).at R7 (by omega)
  have F9 : ∀ w', C w' → At w' w2.heap.size (fl fs) 38 := fun w' h => (hC0.sub w' h).at F7 (by omega)
  have I9 : ∀ w', C w' → At w' w3.heap.size (fl ri) 26 := fun w' h => (hC0.sub w' h).at I7 (by omega)
  have hC := hC0.const
  simp (config := { decide := true }) only [cutOut, nop, List.mapIdx_cons, List.mapIdx_nil, if_true, if_false, List.take, List.drop]
  repeat (first
    | go_big_quiet_skip
    | (go_big_quiet_want; first
      | (refine q_cellC 24 _ rfl _ Try.underlying24 _ rfl F9 _ (by assumption) ?_; go_simp; go_big_quiet_on)
      | (refine q_rowC 28 _ rfl rfl R9 19 (rd_size hl p b l) _ Try.underlying28 rfl (by kernel_rfl) ?_; go_simp; go_big_quiet_on)
      | (refine q_rowC 38 _ rfl rfl F9 17 FZ _ Try.underlying38 rfl (by kernel_rfl) ?_; go_simp; go_big_quiet_on)
      | (refine q_rowC 26 _ rfl rfl I9 16 IZ2 _ Try.underlying26 rfl (by kernel_rfl) ?_; go_simp; go_big_quiet_on)
      | (go_big_quiet_op; go_big_quiet_on)
      | (go_big_quiet_op; apply Exists.intro; refine ⟨fun w' hw' => ?_, ?_⟩; (go_at_call 29; exact (KO _).mono fun _ _ h => ⟨h.1, hC0.step _ _ hw' h.2⟩); go_big_quiet_on)
      | (go_big_quiet_op; apply Exists.intro; refine ⟨fun w' hw' => ?_, ?_⟩; (go_at_call 28; exact (KF _).mono fun _ _ h => ⟨h.1, hC0.step _ _ hw' h.2⟩); go_big_quiet_on)))
  refine wpQuiet_nil ?_
  refine ⟨rfl, fun w9 hw9 hA9 => ?_⟩
  have BB := Lib.hid (B7.out.trans (hw9.below (by omega) HY8))
  clear hC R9 F9 I9 hC0 hw9 I7 R7 K7 O7 M7 J7 Y7 F7 B7
  go_wp2
  exact bodyPost_ret (v := .tuple #[.agg (rd (stepL cs ri (outL fs)) p b l), .float .f32 (nth fs 0), .float .f32 (nth fs 16), .float .f32 jw, .int .i64 0]) (results_at4 (p := 10) (ty := 28) rfl _ _ _ (rd (stepL cs ri (outL fs)) p b l) _ _ _ _ _ rfl rfl rfl rfl rfl hA9 _ Try.underlying28 rfl 19 SZ (by kernel_rfl)) rfl ⟨rfl, BB.out⟩

theorem RampStep_no (cs : List Nat) (p b l : Nat) (hl : cs.length = 16) (hc : ∀ x ∈ cs, x < 4294967296) (hp : p < 4294967296) (hb : b < 4294967296) (hla : l < 4294967296) (k : Int) (hk : -9223372036854775808 ≤ k ∧ k ≤ 9223372036854775807) (o m j : Nat) (ho : o < 4294967296) (hm : m < 4294967296) (hj : j < 4294967296) (h : rampC (okB cs p b l) k o m j ≠ 0) (w : World) :
    Calls Try.prog 8 #[.agg (rd cs p b l), .int .i64 k, .float .f32 o, .float .f32 m, .float .f32 j] w fun e w' => e = .returned (.tuple #[.agg (rd (zeros 16) 0 0 0), .float .f32 0, .float .f32 0, .float .f32 0, .int .i64 (rampC (okB cs p b l) k o m j)]) ∧ Below w.heap.size w w' := by
  have hmf : ∀ (fn : Fn) (first cap : Array Value) (w : World), (Instr.makeFunc fn first cap).run Try.prog w = .ok (.func fn first cap) w := fun _ _ _ _ => rfl
  have R0 : At ((((((w.alloc (.cells (rd cs p b l) 28)).alloc (.cells #[.int .i64 k] 2)).alloc (.cells #[.float .f32 o] 24)).alloc (.cells #[.float .f32 m] 24)).alloc (.cells #[.float .f32 j] 24)).alloc (.cells (rd (zeros 16) 0 0 0) 28)) (w.heap.size) (rd cs p b l) 28 := by
    have h0 := At.new w (rd cs p b l) 28
    exact (((((h0.alloc _).alloc _).alloc _).alloc _).alloc _)
  have K0 : At ((((((w.alloc (.cells (rd cs p b l) 28)).alloc (.cells #[.int .i64 k] 2)).alloc (.cells #[.float .f32 o] 24)).alloc (.cells #[.float .f32 m] 24)).alloc (.cells #[.float .f32 j] 24)).alloc (.cells (rd (zeros 16) 0 0 0) 28)) (w.heap.size + 1) (#[.int .i64 k]) 2 := by
    have h0 := At.new (w.alloc (.cells (rd cs p b l) 28)) (#[.int .i64 k]) 2
    rw [World.size_alloc] at h0
    exact ((((h0.alloc _).alloc _).alloc _).alloc _)
  have O0 : At ((((((w.alloc (.cells (rd cs p b l) 28)).alloc (.cells #[.int .i64 k] 2)).alloc (.cells #[.float .f32 o] 24)).alloc (.cells #[.float .f32 m] 24)).alloc (.cells #[.float .f32 j] 24)).alloc (.cells (rd (zeros 16) 0 0 0) 28)) (w.heap.size + 1 + 1) (#[.float .f32 o]) 24 := by
    have h0 := At.new ((w.alloc (.cells (rd cs p b l) 28)).alloc (.cells #[.int .i64 k] 2)) (#[.float .f32 o]) 24
    rw [World.size_alloc, World.size_alloc] at h0
    exact (((h0.alloc _).alloc _).alloc _)
  have M0 : At ((((((w.alloc (.cells (rd cs p b l) 28)).alloc (.cells #[.int .i64 k] 2)).alloc (.cells #[.float .f32 o] 24)).alloc (.cells #[.float .f32 m] 24)).alloc (.cells #[.float .f32 j] 24)).alloc (.cells (rd (zeros 16) 0 0 0) 28)) (w.heap.size + 1 + 1 + 1) (#[.float .f32 m]) 24 := by
    have h0 := At.new (((w.alloc (.cells (rd cs p b l) 28)).alloc (.cells #[.int .i64 k] 2)).alloc (.cells #[.float .f32 o] 24)) (#[.float .f32 m]) 24
    rw [World.size_alloc, World.size_alloc, World.size_alloc] at h0
    exact ((h0.alloc _).alloc _)
  have J0 : At ((((((w.alloc (.cells (rd cs p b l) 28)).alloc (.cells #[.int .i64 k] 2)).alloc (.cells #[.float .f32 o] 24)).alloc (.cells #[.float .f32 m] 24)).alloc (.cells #[.float .f32 j] 24)).alloc (.cells (rd (zeros 16) 0 0 0) 28)) (w.heap.size + 1 + 1 + 1 + 1) (#[.float .f32 j]) 24 := by
    have h0 := At.new ((((w.alloc (.cells (rd cs p b l) 28)).alloc (.cells #[.int .i64 k] 2)).alloc (.cells #[.float .f32 o] 24)).alloc (.cells #[.float .f32 m] 24)) (#[.float .f32 j]) 24
    rw [World.size_alloc, World.size_alloc, World.size_alloc, World.size_alloc] at h0
    exact (h0.alloc _)
  have Y0 : At ((((((w.alloc (.cells (rd cs p b l) 28)).alloc (.cells #[.int .i64 k] 2)).alloc (.cells #[.float .f32 o] 24)).alloc (.cells #[.float .f32 m] 24)).alloc (.cells #[.float .f32 j] 24)).alloc (.cells (rd (zeros 16) 0 0 0) 28)) (w.heap.size + 1 + 1 + 1 + 1 + 1) (rd (zeros 16) 0 0 0) 28 := by
    have h0 := At.new (((((w.alloc (.cells (rd cs p b l) 28)).alloc (.cells #[.int .i64 k] 2)).alloc (.cells #[.float .f32 o] 24)).alloc (.cells #[.float .f32 m] 24)).alloc (.cells #[.float .f32 j] 24)) (rd (zeros 16) 0 0 0) 28
    rw [World.size_alloc, World.size_alloc, World.size_alloc, World.size_alloc, World.size_alloc] at h0
    exact h0
  have B0 := Lib.hid (bnew (bnew (bnew (bnew (bnew (b0 w (.cells (rd cs p b l) 28)) (.cells #[.int .i64 k] 2)) (.cells #[.float .f32 o] 24)) (.cells #[.float .f32 m] 24)) (.cells #[.float .f32 j] 24)) (.cells (rd (zeros 16) 0 0 0) 28))
  have KR := refusalOf_any 20 _ _ _ (fun _ => by kernel_rfl) fun w1 h1 => rampChk_any _ _ _ _ _ cs p b l hl hc hp hb hla k hk o m j ho hm hj w1 (R0.step h1) (K0.step h1) (O0.step h1) (M0.step h1) (J0.step h1)
  generalize rampC (okB cs p b l) k o m j = c at KR h ⊢
  clear hk
  go_enter Try.func8, Try.ntmps8
  go_wp2_with fail
  refine KR.mono ?_
  rintro e' w1 ⟨rfl, hb1⟩
  have Y1 := Y0.step hb1
  have B1 := Lib.hid (bthen B0.out hb1)
  clear KR R0 K0 O0 M0 J0 Y0 B0 hb1
  have Y9 := Y1.setRow (rd (zeros 16) 0 0 0)
  have B9 := Lib.hid (bset B1.out (g := w.heap.size + 1 + 1 + 1 + 1 + 1) (by omega) (rd (zeros 16) 0 0 0))
  go_wp2_with (((with_reducible refine is_store 28 (.tmp 10) (.tmp 23) rfl ?_); refine wpList_store_at rfl 28 (.tmp 10) (.tmp 23) rfl _ rfl (rd (zeros 16) 0 0 0) rfl (rd (zeros 16) 0 0 0) _ (by assumption) 19 (rd_size (zeros_len 16) _ _ _) (rd_size (zeros_len 16) _ _ _) (by kernel_rfl) (fl_one _) ?_))
  exact bodyPost_ret (v := .tuple #[.agg (rd (zeros 16) 0 0 0), .float .f32 0, .float .f32 0, .float .f32 0, .int .i64 c]) (results_at4 (p := 10) (ty := 28) rfl _ _ _ (rd (zeros 16) 0 0 0) _ _ _ _ _ rfl rfl rfl rfl rfl Y9 _ Try.underlying28 rfl 19 (rd_size (zeros_len 16) _ _ _) (by kernel_rfl)) rfl ⟨rfl, B9.out⟩
end Go.Proofs.Ytchcikfjbpcalaa
