/-
  CONTRACTS: RampStep, the model's.
-/
import Derived.Test.YtchcikfjbpcalaaRampChk
import Derived.Test.YtchcikfjbpcalaaG7
import Derived.Test.YtchcikfjbpcalaaFluxesOf
namespace Go.Proofs.Ytchcikfjbpcalaa
open Go Go.RowKit
set_option maxRecDepth 100000

theorem l01Cell_b (k : Int) (w : World) : Calls Try.prog 31 #[.int .i64 k] w (Rd (.bool (decide (0 ≤ k ∧ k < 16))) w) := by
  have h := l00In_any k 0 15 w
  rw [show decide (0 ≤ k ∧ k ≤ 15) = decide (0 ≤ k ∧ k < 16) from by by_cases c : 0 ≤ k ∧ k < 16 <;> simp [c] <;> omega] at h
  generalize decide (0 ≤ k ∧ k < 16) = d at h ⊢
  go_enter Try.func31, Try.ntmps31
  go_wp2_with fail
  refine h.mono ?_
  rintro e w1 ⟨rfl, n1, rfl⟩
  go_wp2_with fail
  go_ret
  exact Rd.mkN
theorem l01Takes_b (g k : Nat) (hk : k < 16) (cs : List Nat) (p b l : Nat) (ok : OkR cs p b l) (w : World) (hr : RoadAt w g cs p b l) :
    Calls Try.prog 35 #[.pointer (some ⟨g, 0, none⟩), .int .i64 k] w fun e w' => e = .returned (.float .f32 (takesW p b (nth cs k))) ∧ Below w.heap.size w w' :=
  (l01Takes_any g k hk cs p b l ok w hr).mono fun _ _ h => ⟨h.1, by obtain ⟨n, rfl⟩ := h.2; exact Below.drewN0 _ _⟩
theorem l01LessS_b (j d : Nat) (hj : j < 2139095040) (hd : Fin d) (w : World) :
    Calls Try.prog 34 #[.float .f32 j, .float .f32 d] w fun e w' => e = .returned (.float .f32 (minS j d)) ∧ Below w.heap.size w w' := by
  rcases hd with h | ⟨r, rfl, h1, h2⟩
  · rw [show minS j d = min j d from if_neg (by omega)]
    exact l01Less_b j d (by omega) (by omega) w
  · rw [show minS j (2147483648 + r) = 2147483648 + r from if_pos (by omega)]
    have ho := order_neg (Nat.le_of_lt h2) h1 (Nat.le_of_lt hj)
    have hlt : (FloatKind.f32.format.order (2147483648 + r) j == some .lt) = true := by rw [ho]; rfl
    generalize 2147483648 + r = x at hlt
    clear ho
    go_enter Try.func34, Try.ntmps34
    go_wp2
    go_ret
    exact ⟨rfl, Below.refl _ _⟩
theorem rampIn_at (p b : Nat) (cs : List Nat) (o m j : Nat) {k : Nat} (hk : k < 16) : nth (rampIn p b cs o m j k) k = addB (nth (fluxL p b cs o m) k) (joinW p b cs o m j k) := by
  have hl := intoL_len (fluxL_len p b cs o m)
  unfold rampIn
  rw [← intoL_nth (fluxL p b cs o m) hk]
  show (((intoL (fluxL p b cs o m)).set k _)[k]?).getD 0 = _
  rw [List.getElem?_set, if_pos rfl, if_pos (by omega), Option.getD_some]
theorem rampIn_other (p b : Nat) (cs : List Nat) (o m j : Nat) {k i : Nat} (hi : i < 16) (hne : i ≠ k) : nth (rampIn p b cs o m j k) i = nth (fluxL p b cs o m) i := by
  rw [← intoL_nth (fluxL p b cs o m) hi]
  unfold rampIn
  show (((intoL (fluxL p b cs o m)).set k _)[i]?).getD 0 = ((intoL (fluxL p b cs o m))[i]?).getD 0
  rw [List.getElem?_set, if_neg (by omega)]

theorem sRampStep_no (cs : List Nat) (p b l : Nat) (hl : cs.length = 16) (hc : ∀ x ∈ cs, x < 4294967296) (hp : p < 4294967296) (hb : b < 4294967296) (hla : l < 4294967296) (k : Int) (_hk : -9223372036854775808 ≤ k ∧ k ≤ 9223372036854775807) (o m j : Nat) (ho : o < 4294967296) (hm : m < 4294967296) (hj : j < 4294967296) (h : rampC (okB cs p b l) k o m j ≠ 0) (w : World) :
    Calls Try.prog 9 #[.agg (rd cs p b l), .int .i64 k, .float .f32 o, .float .f32 m, .float .f32 j] w fun e w' => e = .returned (.tuple #[.agg (rd (zeros 16) 0 0 0), .float .f32 0, .float .f32 0, .float .f32 0, .int .i64 (rampC (okB cs p b l) k o m j)]) ∧ Below w.heap.size w w' := by
  have R0 : At ((w.alloc (.cells (rd cs p b l) 28)).alloc (.cells (rd (zeros 16) 0 0 0) 28)) w.heap.size (rd cs p b l) 28 := (At.new w _ _).alloc _
  have Y0 : At ((w.alloc (.cells (rd cs p b l) 28)).alloc (.cells (rd (zeros 16) 0 0 0) 28)) (w.heap.size + 1) (rd (zeros 16) 0 0 0) 28 := At.last1 w _ _ _
  have B0 := Lib.hid (bnew (b0 w (.cells (rd cs p b l) 28)) (.cells (rd (zeros 16) 0 0 0) 28))
  have KG := l02Given_any _ cs p b l hl hc hp hb hla o m ho hm _ ⟨_, _, R0⟩
  clear _hk
  by_cases g : givenC (okB cs p b l) o m = 0
  · rw [g] at KG
    have gz := given_zero g
    have KC0 : ∀ w, _ := fun w => l01Cell_b k w
    by_cases c : 0 ≤ k ∧ k < 16
    · cases c2 : amtB j
      · have e : rampC (okB cs p b l) k o m j = 2 := by unfold rampC amtC; rw [gz.1, if_pos rfl, if_pos c]; simp [c2]
        rw [e]
        simp only [decide_eq_true c] at KC0
        clear h e c g gz
        go_enter Try.func9, Try.ntmps9
        go_wp2_with fail
        refine KG.mono ?_
        rintro e' w1 ⟨rfl, n1, rfl⟩
        have Y1 := Y0.drewN n1
        have B1 := Lib.hid (bdrew B0.out n1)
        clear KG R0
        go_wp2_with fail
        refine (KC0 _).mono ?_
        rintro e' w2 ⟨rfl, n2, rfl⟩
        have Y2 := Y0.drewN (n1 + n2)
        have B2 := Lib.hid (bdrew B0.out (n1 + n2))
        clear KC0 Y1 B1
        have KJ := l01Amount_any j hj (((w.alloc (.cells (rd cs p b l) 28)).alloc (.cells (rd (zeros 16) 0 0 0) 28)).drewN (n1 + n2))
        rw [c2] at KJ
        go_wp2_with fail
        refine KJ.mono ?_
        rintro e' w3 ⟨rfl, n3, rfl⟩
        have Y3 := Y0.drewN (n1 + n2 + n3)
        have B3 := Lib.hid (bdrew B0.out (n1 + n2 + n3))
        clear KJ Y2 B2
        have Y9 := Y3.setRow (rd (zeros 16) 0 0 0)
        have B9 := Lib.hid (bset B3.out (g := w.heap.size + 1) (by omega) (rd (zeros 16) 0 0 0))
        go_wp2_with (((with_reducible refine is_store 28 (.tmp 10) (.tmp 39) rfl ?_); refine wpList_store_at rfl 28 (.tmp 10) (.tmp 39) rfl _ rfl (rd (zeros 16) 0 0 0) rfl (rd (zeros 16) 0 0 0) _ (by assumption) 19 (rd_size (zeros_len 16) _ _ _) (rd_size (zeros_len 16) _ _ _) (by kernel_rfl) (fl_one _) ?_))
        exact bodyPost_ret (v := .tuple #[.agg (rd (zeros 16) 0 0 0), .float .f32 0, .float .f32 0, .float .f32 0, .int .i64 2]) (results_at4 (p := 10) (ty := 28) rfl _ _ _ (rd (zeros 16) 0 0 0) _ _ _ _ _ rfl rfl rfl rfl rfl Y9 _ Try.underlying28 rfl 19 (rd_size (zeros_len 16) _ _ _) (by kernel_rfl)) rfl ⟨rfl, B9.out⟩
      · exfalso
        refine h ?_
        unfold rampC amtC amtB
        rw [gz.1, if_pos rfl, if_pos c]
        unfold amtB at c2
        simp [gz.2.1, gz.2.2]
        simpa using c2
    · have e : rampC (okB cs p b l) k o m j = 2 := by unfold rampC; rw [gz.1, if_pos rfl, if_neg c]
      rw [e]
      simp only [decide_eq_false c] at KC0
      clear h e c g gz
      go_enter Try.func9, Try.ntmps9
      go_wp2_with fail
      refine KG.mono ?_
      rintro e' w1 ⟨rfl, n1, rfl⟩
      have Y1 := Y0.drewN n1
      have B1 := Lib.hid (bdrew B0.out n1)
      clear KG R0
      go_wp2_with fail
      refine (KC0 _).mono ?_
      rintro e' w2 ⟨rfl, n2, rfl⟩
      have Y2 := Y0.drewN (n1 + n2)
      have B2 := Lib.hid (bdrew B0.out (n1 + n2))
      clear KC0 Y1 B1
      have Y9 := Y2.setRow (rd (zeros 16) 0 0 0)
      have B9 := Lib.hid (bset B2.out (g := w.heap.size + 1) (by omega) (rd (zeros 16) 0 0 0))
      go_wp2_with (((with_reducible refine is_store 28 (.tmp 10) (.tmp 39) rfl ?_); refine wpList_store_at rfl 28 (.tmp 10) (.tmp 39) rfl _ rfl (rd (zeros 16) 0 0 0) rfl (rd (zeros 16) 0 0 0) _ (by assumption) 19 (rd_size (zeros_len 16) _ _ _) (rd_size (zeros_len 16) _ _ _) (by kernel_rfl) (fl_one _) ?_))
      exact bodyPost_ret (v := .tuple #[.agg (rd (zeros 16) 0 0 0), .float .f32 0, .float .f32 0, .float .f32 0, .int .i64 2]) (results_at4 (p := 10) (ty := 28) rfl _ _ _ (rd (zeros 16) 0 0 0) _ _ _ _ _ rfl rfl rfl rfl rfl Y9 _ Try.underlying28 rfl 19 (rd_size (zeros_len 16) _ _ _) (by kernel_rfl)) rfl ⟨rfl, B9.out⟩
  · have e : rampC (okB cs p b l) k o m j = givenC (okB cs p b l) o m := by
      revert g
      unfold rampC givenC amtC
      cases okB cs p b l
      · intro _; rfl
      · intro g
        cases c1 : amtB o <;> cases c2 : amtB m <;> simp [c1, c2] at g ⊢
    rw [e]
    clear h e
    generalize givenC (okB cs p b l) o m = c at KG g ⊢
    have gne : (c == 0) = false := by simp [g]
    go_enter Try.func9, Try.ntmps9
    go_wp2_with fail
    refine KG.mono ?_
    rintro e' w1 ⟨rfl, n1, rfl⟩
    have Y1 := Y0.drewN n1
    have B1 := Lib.hid (bdrew B0.out n1)
    clear KG R0
    have Y9 := Y1.setRow (rd (zeros 16) 0 0 0)
    have B9 := Lib.hid (bset B1.out (g := w.heap.size + 1) (by omega) (rd (zeros 16) 0 0 0))
    go_wp2_with (((with_reducible refine is_store 28 (.tmp 10) (.tmp 39) rfl ?_); refine wpList_store_at rfl 28 (.tmp 10) (.tmp 39) rfl _ rfl (rd (zeros 16) 0 0 0) rfl (rd (zeros 16) 0 0 0) _ (by assumption) 19 (rd_size (zeros_len 16) _ _ _) (rd_size (zeros_len 16) _ _ _) (by kernel_rfl) (fl_one _) ?_))
    exact bodyPost_ret (v := .tuple #[.agg (rd (zeros 16) 0 0 0), .float .f32 0, .float .f32 0, .float .f32 0, .int .i64 c]) (results_at4 (p := 10) (ty := 28) rfl _ _ _ (rd (zeros 16) 0 0 0) _ _ _ _ _ rfl rfl rfl rfl rfl Y9 _ Try.underlying28 rfl 19 (rd_size (zeros_len 16) _ _ _) (by kernel_rfl)) rfl ⟨rfl, B9.out⟩

set_option maxHeartbeats 400000 in
theorem sRampStep_yes (cs : List Nat) (p b l : Nat) (hl : cs.length = 16) (hc : ∀ x ∈ cs, x < 4294967296) (hp : p < 4294967296) (hb : b < 4294967296) (hla : l < 4294967296) (k : Nat) (hkN : k < 16) (o m j : Nat) (ho : o < 4294967296) (hm : m < 4294967296) (hj : j < 4294967296) (h : rampC (okB cs p b l) k o m j = 0) (w : World) :
    Calls Try.prog 9 #[.agg (rd cs p b l), .int .i64 k, .float .f32 o, .float .f32 m, .float .f32 j] w fun e w' => e = .returned (.tuple #[.agg (rd (stepL cs (rampIn p b cs o m j k) (outL (fluxL p b cs o m))) p b l), .float .f32 (nth (fluxL p b cs o m) 0), .float .f32 (nth (fluxL p b cs o m) 16), .float .f32 (joinW p b cs o m j k), .int .i64 0]) ∧ Below w.heap.size w w' := by
  have R0 : At ((w.alloc (.cells (rd cs p b l) 28)).alloc (.cells (rd (zeros 16) 0 0 0) 28)) w.heap.size (rd cs p b l) 28 := (At.new w _ _).alloc _
  have Y0 : At ((w.alloc (.cells (rd cs p b l) 28)).alloc (.cells (rd (zeros 16) 0 0 0) 28)) (w.heap.size + 1) (rd (zeros 16) 0 0 0) 28 := At.last1 w _ _ _
  have B0 := Lib.hid (bnew (b0 w (.cells (rd cs p b l) 28)) (.cells (rd (zeros 16) 0 0 0) 28))
  have KG := l02Given_any _ cs p b l hl hc hp hb hla o m ho hm _ ⟨_, _, R0⟩
  obtain ⟨hok, -, ho2, hm2, hj2⟩ := rampC_zero h
  have c2 : amtB j = true := by unfold amtB; exact decide_eq_true hj2
  rw [show givenC (okB cs p b l) o m = 0 from by unfold givenC amtB; rw [hok, decide_eq_true ho2, decide_eq_true hm2]; rfl] at KG
  have KC : ∀ w, _ := fun w => l01Cell_b (k : Int) w
  simp only [decide_eq_true (show 0 ≤ (k : Int) ∧ (k : Int) < 16 by omega)] at KC
  have ok := OkR.of hl hok
  have rf := ramp_facts ok o m hj2 hkN
  obtain ⟨fs, hfs⟩ : ∃ fs, fs = fluxL p b cs o m := ⟨_, rfl⟩
  obtain ⟨jw, hjw⟩ : ∃ jw, jw = joinW p b cs o m j k := ⟨_, rfl⟩
  obtain ⟨ri, hri⟩ : ∃ ri, ri = rampIn p b cs o m j k := ⟨_, rfl⟩
  have hfl : fs.length = 17 := by rw [hfs]; exact fluxL_len _ _ _ _ _
  have hril : ri.length = 16 := by rw [hri]; exact rampIn_len _ _ _ _ _ _ _
  have hri2 : nth ri k = addB (nth fs k) jw := by rw [hri, hfs, hjw]; exact rampIn_at p b cs o m j hkN
  have hri3 : ∀ i, i < 16 → i ≠ k → nth ri i = nth fs i := fun i hi hne => by rw [hri, hfs]; exact rampIn_other p b cs o m j hi hne
  have hfb : ∀ x ∈ fs, x ≤ 1065353216 := by rw [hfs]; exact fluxL_le ok o m
  rw [intoL_nth _ hkN, ← hfs, ← hjw, ← hri] at rf
  rw [← hfs, ← hjw, ← hri]
  have FZ : (fl fs).size = 17 := by rw [fl_size, hfl]
  obtain ⟨dw, hdw⟩ : ∃ dw, dw = difB (takesW p b (nth cs k)) (nth fs k) := ⟨_, rfl⟩
  rw [← hdw] at rf
  have f1 : ∀ t w, (binOp .sub t (.float .f32 (takesW p b (nth cs k))) (.float .f32 (nth fs k))).run Try.prog w = .ok (.float .f32 dw) w := fun t w => run_float_arith w .sub t .f32 _ _ _ rf.1
  have F3 : Hid (∀ t w, (binOp .add t (.float .f32 (nth fs k)) (.float .f32 jw)).run Try.prog w = .ok (.float .f32 (nth ri k)) w) := Lib.hid fun t w => by rw [hri2]; exact run_float_arith w .add t .f32 _ _ _ rf.2.2.2.2.1
  have SGm := minS_sgn hj2 rf.2.1
  have lt0 := SGm.lt0
  have ejw : jw = posB (minS j dw) := rf.2.2.1.symm
  have KL := l01LessS_b j dw hj2 rf.2.1
  have HF := Lib.hid (And.intro hfs (And.intro hjw (And.intro hri (And.intro hril (And.intro rf.2.2.2.2.2.2 (And.intro hfb (And.intro hri3 (And.intro hfl hdw))))))))
  have dk := fl_get (xs := fs) (k := k) (by omega)
  have hki0 : (k : Int) < 17 := by omega
  clear hfs hjw hri hri2 hri3 hdw rf hril hfb SGm
  by_cases cn : 2147483648 ≤ minS j dw
  · rw [decide_eq_true cn] at lt0
    have j0 : jw = 0 := by rw [ejw]; unfold posB; rw [if_pos cn]
    clear ejw cn
    subst j0
    go_enter Try.func9, Try.ntmps9
    go_wp2_with fail
    refine KG.mono ?_
    rintro e' w1 ⟨rfl, n1, rfl⟩
    have R1 := R0.drewN n1
    have Y1 := Y0.drewN n1
    have B1 := Lib.hid (bdrew B0.out n1)
    clear KG
    go_wp2_with fail
    refine (KC _).mono ?_
    rintro e' w2 ⟨rfl, n2, rfl⟩
    clear KC R1 Y1 B1
    have KJ := l01Amount_any j hj (((w.alloc (.cells (rd cs p b l) 28)).alloc (.cells (rd (zeros 16) 0 0 0) 28)).drewN (n1 + n2))
    rw [c2] at KJ
    go_wp2_with fail
    refine KJ.mono ?_
    rintro e' w3 ⟨rfl, n3, rfl⟩
    have R3 := R0.drewN (n1 + n2 + n3)
    have Y3 := Y0.drewN (n1 + n2 + n3)
    have B3 := Lib.hid (bdrew B0.out (n1 + n2 + n3))
    clear KJ R0 Y0 B0
    go_wp2_with fail
    refine (l02Flows_any _ cs p b l ok o m ho2 hm2 _ _ R3).mono ?_
    rw [← HF.out.1]
    rintro e' w4 ⟨rfl, hb4⟩
    have R9 := R3.step hb4
    have Y9 := Y3.step hb4
    have B9 := Lib.hid (bthen B3.out hb4)
    clear R3 Y3 B3 hb4
    obtain ⟨g1, hg1⟩ : ∃ g1, g1 = w4.heap.size := ⟨_, rfl⟩
    have gs1 := R9.lt
    have gs2 := Y9.lt
    have gs3 := B9.out.size
    have F0 := At.new w4 (fl (zeros 17)) 38
    have F4 := F0.setRow (fl fs)
    have R4 := (R9.alloc (.cells (fl (zeros 17)) 38)).setRow_other (k := w4.heap.size) (Nat.ne_of_lt R9.lt) (fl fs)
    have Y4 := (Y9.alloc (.cells (fl (zeros 17)) 38)).setRow_other (k := w4.heap.size) (Nat.ne_of_lt Y9.lt) (fl fs)
    have B4 := Lib.hid (bset (bnew B9.out (.cells (fl (zeros 17)) 38)) (g := w4.heap.size) B9.out.size (fl fs))
    go_wp2_with (((with_reducible refine is_store 38 (.tmp 16) (.tmp 43) rfl ?_); refine wpList_store_at rfl 38 (.tmp 16) (.tmp 43) rfl _ rfl (fl fs) rfl (fl (zeros 17)) _ (by assumption) 17 (FZ) (by rw [fl_size, zeros_len]) (by kernel_rfl) (fl_one _) ?_); refine Hid.out ?_)
    refine Lib.hid ?_
    clear F0 R9 Y9 B9
    rw [show (fl (zeros 17) : Array Value) = #[.float .f32 0, .float .f32 0, .float .f32 0, .float .f32 0, .float .f32 0, .float .f32 0, .float .f32 0, .float .f32 0, .float .f32 0, .float .f32 0, .float .f32 0, .float .f32 0, .float .f32 0, .float .f32 0, .float .f32 0, .float .f32 0, .float .f32 0] from rfl] at F4 R4 Y4 B4
    generalize hw5 : (w4.alloc (.cells #[.float .f32 0, .float .f32 0, .float .f32 0, .float .f32 0, .float .f32 0, .float .f32 0, .float .f32 0, .float .f32 0, .float .f32 0, .float .f32 0, .float .f32 0, .float .f32 0, .float .f32 0, .float .f32 0, .float .f32 0, .float .f32 0, .float .f32 0] 38)).setRow w4.heap.size (fl fs) = w6 at F4 R4 Y4 B4 ⊢
    clear hw5
    simp only [← hg1] at F4 gs1 gs2 gs3 ⊢
    have HG1 := Lib.hid hg1
    clear hg1
    have c0 := F4.cell (fl_get (xs := fs) (k := 0) (by omega))
    try simp only [Act.put]
    go_wp2
    clear c0
    have hC := Cb.const w6
    refine wp_region_cb (by kernel_rfl) (by kernel_rfl) ?_
    repeat (first
      | go_big_quiet_skip
      | (go_big_quiet_want; first
        | (refine q_cell 24 _ rfl _ Try.underlying24 _ rfl F4 _ (by assumption) ?_; go_simp; go_big_quiet_on)
        | (go_big_quiet_op; go_big_quiet_on)
        | (go_big_quiet_op; apply Exists.intro; refine ⟨fun w' hw' => ?_, ?_⟩; (go_at_call 35; exact (l01Takes_b _ k hkN cs p b l ok _ ⟨_, _, R4.step hw'⟩).mono fun _ _ h => ⟨h.1, hw'.step h.2⟩); go_big_quiet_on)
        | (go_big_quiet_op; apply Exists.intro; refine ⟨fun w' hw' => ?_, ?_⟩; (go_at_call 34; exact (KL _).mono fun _ _ h => ⟨h.1, hw'.step h.2⟩); go_big_quiet_on)))
    refine wpQuiet_nil ?_
    intro w5 hw5
    have R5 := R4.step hw5
    have F5 := F4.step hw5
    have Y5 := Y4.step hw5
    have B5 := Lib.hid (bthen B4.out hw5)
    clear hC hw5 R4 F4 Y4 B4 f1
    obtain ⟨g2, hg2⟩ : ∃ g2, g2 = w5.heap.size := ⟨_, rfl⟩
    have hs5 := R5.lt
    have hs6 := F5.lt
    have hs7 := Y5.lt
    have hs8 := B5.out.size
    have M0 := At.new w5 (rd (zeros 16) 0 0 0) 28
    have M6 := M0.setRow (rd cs p b l)
    have R6 := (R5.alloc (.cells (rd (zeros 16) 0 0 0) 28)).setRow_other (k := w5.heap.size) (Nat.ne_of_lt R5.lt) (rd cs p b l)
    have F6 := (F5.alloc (.cells (rd (zeros 16) 0 0 0) 28)).setRow_other (k := w5.heap.size) (Nat.ne_of_lt F5.lt) (rd cs p b l)
    have Y6 := (Y5.alloc (.cells (rd (zeros 16) 0 0 0) 28)).setRow_other (k := w5.heap.size) (Nat.ne_of_lt Y5.lt) (rd cs p b l)
    have B6 := Lib.hid (bset (bnew B5.out (.cells (rd (zeros 16) 0 0 0) 28)) (g := w5.heap.size) B5.out.size (rd cs p b l))
    go_wp2_with (first | ((with_reducible refine is_load 28 _ rfl ?_); refine wpList_load_at rfl 28 _ rfl _ rfl (rd cs p b l) _ (by assumption) 19 (rd_size hl p b l) _ Try.underlying28 rfl (by kernel_rfl) ?_) | ((with_reducible refine is_store 28 (.tmp 19) (.tmp 56) rfl ?_); refine wpList_store_at rfl 28 (.tmp 19) (.tmp 56) rfl _ rfl (rd cs p b l) rfl (rd (zeros 16) 0 0 0) _ (by assumption) 19 (rd_size hl p b l) (rd_size (zeros_len 16) _ _ _) (by kernel_rfl) (fl_one _) ?_))
    clear M0 R5 F5 Y5 B5 lt0
    simp only [← hg2] at M6 R6 F6 Y6 B6 hs5 hs6 hs7 hs8 ⊢
    have HG2 := Lib.hid hg2
    clear hg2
    have BB6 := B6
    go_loopw [20] (fun i wr => ∃ i' : Nat, i' ≤ 16 ∧ i = .int .i64 i' ∧ At wr w.heap.size (rd cs p b l) 28 ∧ At wr g1 (fl fs) 38 ∧ At wr (w.heap.size + 1) (rd (zeros 16) 0 0 0) 28 ∧ At wr g2 (rd (mixTo (stepL cs ri (outL fs)) cs i') p b l) 28 ∧ Hid (Below w.heap.size w wr)) (fun i _ => 16 - (intOf i).toNat)
    case atStart => exact ⟨0, by omega, rfl, R6, F6, Y6, by rw [mixTo_zero]; exact M6, BB6⟩
    case round =>
      obtain ⟨i, hi, rfl, R4, F4, Y4, M4, B4⟩ := hrel
      clear R6 F6 Y6 M6 B6 BB6
      have hL := mixTo_len (stepL_len cs ri (outL fs)) hl hi
      by_cases hlt : i < 16
      · by_cases ceq : i = k
        · have d2 : (fl fs)[i]? = some (.float .f32 (nth fs i)) := fl_get (by omega)
          have hd2 := F4.cell d2
          have sf := step_facts (nth_le ok.cars i) (nth_le HF.out.2.2.2.2.1 i) (Nat.le_trans (nth_le HF.out.2.2.2.2.2.1 (i + 1)) (Nat.le_refl _))
          have f4 : ∀ t w, (binOp .add t (.float .f32 (nth cs i)) (.float .f32 (nth ri i))).run Try.prog w = .ok (.float .f32 (addB (nth cs i) (nth ri i))) w := fun t w => run_float_arith w .add t .f32 _ _ _ sf.1
          have f5 : ∀ t w, (binOp .sub t (.float .f32 (addB (nth cs i) (nth ri i))) (.float .f32 (nth fs (i + 1)))).run Try.prog w = .ok (.float .f32 (difB (addB (nth cs i) (nth ri i)) (nth fs (i + 1)))) w := fun t w => run_float_arith w .sub t .f32 _ _ _ sf.2.1
          have SG := Lib.hid sf.2.2
          clear sf
          have s2 : IntKind.i64.wrap ((i : Int) + 1) = (i : Int) + 1 := IntWalk.i64_in _ (by omega)
          have dr := rd_cell hl p b l hlt
          have d3 := fl_get (xs := fs) (k := i + 1) (by omega)
          have hki : (i : Int) < 16 := by omega
          have hie : ((i : Int) == (k : Int)) = true := by simp [ceq]
          have f3 : ∀ t w, (binOp .add t (.float .f32 (nth fs i)) (.float .f32 0)).run Try.prog w = .ok (.float .f32 (nth ri i)) w := fun t w => by rw [ceq]; exact F3.out t w
          have CEQ := Lib.hid ceq
          clear ceq d2
          have hC := Cb.const wr
          have R8 := R4
          have F8 := F4
          go_wp2
          refine wp_region_cb_tail 15 (by kernel_rfl) (by kernel_rfl) ?_
          simp only [List.take, List.drop]
          repeat (first
            | go_big_quiet_skip
            | (go_big_quiet_want; first
              | (refine q_cell 24 _ rfl _ Try.underlying24 _ rfl R8 _ (by assumption) ?_; go_simp; go_big_quiet_on)
              | (refine q_cell 24 _ rfl _ Try.underlying24 _ rfl F8 _ (by assumption) ?_; go_simp; go_big_quiet_on)
              | (go_big_quiet_op; go_big_quiet_on)
              | (go_big_quiet_op; apply Exists.intro; refine ⟨fun w' hw' => ?_, ?_⟩; (go_at_call 36; exact (l02Held_b (difB (addB (nth cs i) (nth ri i)) (nth fs (i + 1))) SG.out _).mono fun _ _ h => ⟨h.1, hw'.step h.2⟩); go_big_quiet_on)))
          refine wpQuiet_nil ?_
          intro w9 hw9
          have R5 := R4.step hw9
          have F5 := F4.step hw9
          have Y5 := Y4.step hw9
          have M5 := M4.step hw9
          have B5 := Lib.hid (bthen B4.out hw9)
          clear R4 F4 Y4 M4 B4 hw9 hC dr d3 f4 f5 R8 F8 hd2
          have G := run_store_one (P := Try.prog) w9 g2 i 28 (rd (mixTo (stepL cs ri (outL fs)) cs i) p b l) (.float .f32 (stepC cs ri (outL fs) i)) M5 (by rw [rd_size hL]; omega) rfl
          rw [rd_put hL p b l hlt, ← stepL_nth cs ri (outL fs) hlt, mixTo_set (stepL_len cs ri (outL fs)) hl hlt, stepL_nth cs ri (outL fs) hlt, stepC, outL_nth fs hlt] at G
          have M6 := M5.setRow (rd (mixTo (stepL cs ri (outL fs)) cs (i + 1)) p b l)
          have R6 := R5.setRow_other (k := g2) (by omega) (rd (mixTo (stepL cs ri (outL fs)) cs (i + 1)) p b l)
          have F6 := F5.setRow_other (k := g2) (by omega) (rd (mixTo (stepL cs ri (outL fs)) cs (i + 1)) p b l)
          have Y6 := Y5.setRow_other (k := g2) (by omega) (rd (mixTo (stepL cs ri (outL fs)) cs (i + 1)) p b l)
          have B6 := Lib.hid (bset B5.out (g := g2) (by omega) (rd (mixTo (stepL cs ri (outL fs)) cs (i + 1)) p b l))
          clear M5 R5 F5 Y5 B5 hL
          go_wp2
          exact ⟨⟨i + 1, by omega, by go_num, R6, F6, Y6, M6, B6⟩, by simp [intOf]; omega⟩
        · have d2 : (fl fs)[i]? = some (.float .f32 (nth ri i)) := by rw [HF.out.2.2.2.2.2.2.1 i hlt (by omega)]; exact fl_get (by omega)
          have hd2 := F4.cell d2
          have sf := step_facts (nth_le ok.cars i) (nth_le HF.out.2.2.2.2.1 i) (Nat.le_trans (nth_le HF.out.2.2.2.2.2.1 (i + 1)) (Nat.le_refl _))
          have f4 : ∀ t w, (binOp .add t (.float .f32 (nth cs i)) (.float .f32 (nth ri i))).run Try.prog w = .ok (.float .f32 (addB (nth cs i) (nth ri i))) w := fun t w => run_float_arith w .add t .f32 _ _ _ sf.1
          have f5 : ∀ t w, (binOp .sub t (.float .f32 (addB (nth cs i) (nth ri i))) (.float .f32 (nth fs (i + 1)))).run Try.prog w = .ok (.float .f32 (difB (addB (nth cs i) (nth ri i)) (nth fs (i + 1)))) w := fun t w => run_float_arith w .sub t .f32 _ _ _ sf.2.1
          have SG := Lib.hid sf.2.2
          clear sf
          have s2 : IntKind.i64.wrap ((i : Int) + 1) = (i : Int) + 1 := IntWalk.i64_in _ (by omega)
          have dr := rd_cell hl p b l hlt
          have d3 := fl_get (xs := fs) (k := i + 1) (by omega)
          have hki : (i : Int) < 16 := by omega
          have hie : ((i : Int) == (k : Int)) = false := by simp; omega
          have CEQ := Lib.hid ceq
          clear ceq d2
          have hC := Cb.const wr
          have R8 := R4
          have F8 := F4
          go_wp2
          refine wp_region_cb_tail 15 (by kernel_rfl) (by kernel_rfl) ?_
          simp only [List.take, List.drop]
          repeat (first
            | go_big_quiet_skip
            | (go_big_quiet_want; first
              | (refine q_cell 24 _ rfl _ Try.underlying24 _ rfl R8 _ (by assumption) ?_; go_simp; go_big_quiet_on)
              | (refine q_cell 24 _ rfl _ Try.underlying24 _ rfl F8 _ (by assumption) ?_; go_simp; go_big_quiet_on)
              | (go_big_quiet_op; go_big_quiet_on)
              | (go_big_quiet_op; apply Exists.intro; refine ⟨fun w' hw' => ?_, ?_⟩; (go_at_call 36; exact (l02Held_b (difB (addB (nth cs i) (nth ri i)) (nth fs (i + 1))) SG.out _).mono fun _ _ h => ⟨h.1, hw'.step h.2⟩); go_big_quiet_on)))
          refine wpQuiet_nil ?_
          intro w9 hw9
          have R5 := R4.step hw9
          have F5 := F4.step hw9
          have Y5 := Y4.step hw9
          have M5 := M4.step hw9
          have B5 := Lib.hid (bthen B4.out hw9)
          clear R4 F4 Y4 M4 B4 hw9 hC dr d3 f4 f5 R8 F8 hd2
          have G := run_store_one (P := Try.prog) w9 g2 i 28 (rd (mixTo (stepL cs ri (outL fs)) cs i) p b l) (.float .f32 (stepC cs ri (outL fs) i)) M5 (by rw [rd_size hL]; omega) rfl
          rw [rd_put hL p b l hlt, ← stepL_nth cs ri (outL fs) hlt, mixTo_set (stepL_len cs ri (outL fs)) hl hlt, stepL_nth cs ri (outL fs) hlt, stepC, outL_nth fs hlt] at G
          have M6 := M5.setRow (rd (mixTo (stepL cs ri (outL fs)) cs (i + 1)) p b l)
          have R6 := R5.setRow_other (k := g2) (by omega) (rd (mixTo (stepL cs ri (outL fs)) cs (i + 1)) p b l)
          have F6 := F5.setRow_other (k := g2) (by omega) (rd (mixTo (stepL cs ri (outL fs)) cs (i + 1)) p b l)
          have Y6 := Y5.setRow_other (k := g2) (by omega) (rd (mixTo (stepL cs ri (outL fs)) cs (i + 1)) p b l)
          have B6 := Lib.hid (bset B5.out (g := g2) (by omega) (rd (mixTo (stepL cs ri (outL fs)) cs (i + 1)) p b l))
          clear M5 R5 F5 Y5 B5 hL
          go_wp2
          exact ⟨⟨i + 1, by omega, by go_num, R6, F6, Y6, M6, B6⟩, by simp [intOf]; omega⟩
      · obtain rfl : i = 16 := by omega
        rw [mixTo_all (stepL_len cs ri (outL fs)) hl] at M4
        have SZ : (rd (stepL cs ri (outL fs)) p b l).size = 19 := rd_size (stepL_len cs ri (outL fs)) p b l
        have HY8 := Y4.lt
        have e16 := fl_get (xs := fs) (k := 16) (by omega)
        clear R4
        go_wp2
        refine wp_region_late (n := 8) (ist := 5) (d := 10) (s := 85) (T := 28) (gR := w.heap.size + 1) (OV := rd (zeros 16) 0 0 0) (RV := rd (stepL cs ri (outL fs)) p b l) (by kernel_rfl) (by kernel_rfl) (by kernel_rfl) ⟨rfl, rfl, by decide, by kernel_rfl, by kernel_rfl, by kernel_rfl, by kernel_rfl⟩ rfl Y4 (fun ev w' h1 h2 h3 => store_fresh rfl 19 SZ (rd_size (zeros_len 16) _ _ _) (by kernel_rfl) (fl_one _) ev w' _ h1 h2 h3) ?_
        intro C hC0
        have M9 : ∀ w', C w' → At w' g2 (rd (stepL cs ri (outL fs)) p b l) 28 := fun w' h => (hC0.sub w' h).at M4 (by omega)
        have F9 : ∀ w', C w' → At w' g1 (fl fs) 38 := fun w' h => (hC0.sub w' h).at F4 (by omega)
        have hC := hC0.const
        simp (config := { decide := true }) only [cutOut, nop, List.mapIdx_cons, List.mapIdx_nil, if_true, if_false, List.take, List.drop]
        repeat (first
          | go_big_quiet_skip
          | (go_big_quiet_want; first
            | (refine q_cellC 24 _ rfl _ Try.underlying24 _ rfl F9 _ (by assumption) ?_; go_simp; go_big_quiet_on)
            | (refine q_rowC 28 _ rfl rfl M9 19 SZ _ Try.underlying28 rfl (by kernel_rfl) ?_; go_simp; go_big_quiet_on)
            | (go_big_quiet_op; go_big_quiet_on)))
        refine wpQuiet_nil ?_
        refine ⟨rfl, fun w9 hw9 hA9 => ?_⟩
        have BB := Lib.hid (B4.out.trans (hw9.below (by omega) HY8))
        clear hC M9 F9 hC0 hw9 F4 Y4 M4 B4
        go_wp2
        exact bodyPost_ret (v := .tuple #[.agg (rd (stepL cs ri (outL fs)) p b l), .float .f32 (nth fs 0), .float .f32 (nth fs 16), .float .f32 0, .int .i64 0]) (results_at4 (p := 10) (ty := 28) rfl _ _ _ (rd (stepL cs ri (outL fs)) p b l) _ _ _ _ _ rfl rfl rfl rfl rfl hA9 _ Try.underlying28 rfl 19 SZ (by kernel_rfl)) rfl ⟨rfl, BB.out⟩
  · rw [decide_eq_false cn] at lt0
    have j0 : minS j dw = jw := by rw [ejw]; unfold posB; rw [if_neg cn]
    clear ejw cn
    rw [j0] at lt0 KL
    clear j0
    go_enter Try.func9, Try.ntmps9
    go_wp2_with fail
    refine KG.mono ?_
    rintro e' w1 ⟨rfl, n1, rfl⟩
    have R1 := R0.drewN n1
    have Y1 := Y0.drewN n1
    have B1 := Lib.hid (bdrew B0.out n1)
    clear KG
    go_wp2_with fail
    refine (KC _).mono ?_
    rintro e' w2 ⟨rfl, n2, rfl⟩
    clear KC R1 Y1 B1
    have KJ := l01Amount_any j hj (((w.alloc (.cells (rd cs p b l) 28)).alloc (.cells (rd (zeros 16) 0 0 0) 28)).drewN (n1 + n2))
    rw [c2] at KJ
    go_wp2_with fail
    refine KJ.mono ?_
    rintro e' w3 ⟨rfl, n3, rfl⟩
    have R3 := R0.drewN (n1 + n2 + n3)
    have Y3 := Y0.drewN (n1 + n2 + n3)
    have B3 := Lib.hid (bdrew B0.out (n1 + n2 + n3))
    clear KJ R0 Y0 B0
    go_wp2_with fail
    refine (l02Flows_any _ cs p b l ok o m ho2 hm2 _ _ R3).mono ?_
    rw [← HF.out.1]
    rintro e' w4 ⟨rfl, hb4⟩
    have R9 := R3.step hb4
    have Y9 := Y3.step hb4
    have B9 := Lib.hid (bthen B3.out hb4)
    clear R3 Y3 B3 hb4
    obtain ⟨g1, hg1⟩ : ∃ g1, g1 = w4.heap.size := ⟨_, rfl⟩
    have gs1 := R9.lt
    have gs2 := Y9.lt
    have gs3 := B9.out.size
    have F0 := At.new w4 (fl (zeros 17)) 38
    have F4 := F0.setRow (fl fs)
    have R4 := (R9.alloc (.cells (fl (zeros 17)) 38)).setRow_other (k := w4.heap.size) (Nat.ne_of_lt R9.lt) (fl fs)
    have Y4 := (Y9.alloc (.cells (fl (zeros 17)) 38)).setRow_other (k := w4.heap.size) (Nat.ne_of_lt Y9.lt) (fl fs)
    have B4 := Lib.hid (bset (bnew B9.out (.cells (fl (zeros 17)) 38)) (g := w4.heap.size) B9.out.size (fl fs))
    go_wp2_with (((with_reducible refine is_store 38 (.tmp 16) (.tmp 43) rfl ?_); refine wpList_store_at rfl 38 (.tmp 16) (.tmp 43) rfl _ rfl (fl fs) rfl (fl (zeros 17)) _ (by assumption) 17 (FZ) (by rw [fl_size, zeros_len]) (by kernel_rfl) (fl_one _) ?_); refine Hid.out ?_)
    refine Lib.hid ?_
    clear F0 R9 Y9 B9
    rw [show (fl (zeros 17) : Array Value) = #[.float .f32 0, .float .f32 0, .float .f32 0, .float .f32 0, .float .f32 0, .float .f32 0, .float .f32 0, .float .f32 0, .float .f32 0, .float .f32 0, .float .f32 0, .float .f32 0, .float .f32 0, .float .f32 0, .float .f32 0, .float .f32 0, .float .f32 0] from rfl] at F4 R4 Y4 B4
    generalize hw5 : (w4.alloc (.cells #[.float .f32 0, .float .f32 0, .float .f32 0, .float .f32 0, .float .f32 0, .float .f32 0, .float .f32 0, .float .f32 0, .float .f32 0, .float .f32 0, .float .f32 0, .float .f32 0, .float .f32 0, .float .f32 0, .float .f32 0, .float .f32 0, .float .f32 0] 38)).setRow w4.heap.size (fl fs) = w6 at F4 R4 Y4 B4 ⊢
    clear hw5
    simp only [← hg1] at F4 gs1 gs2 gs3 ⊢
    have HG1 := Lib.hid hg1
    clear hg1
    have c0 := F4.cell (fl_get (xs := fs) (k := 0) (by omega))
    try simp only [Act.put]
    go_wp2
    clear c0
    have hC := Cb.const w6
    refine wp_region_cb (by kernel_rfl) (by kernel_rfl) ?_
    repeat (first
      | go_big_quiet_skip
      | (go_big_quiet_want; first
        | (refine q_cell 24 _ rfl _ Try.underlying24 _ rfl F4 _ (by assumption) ?_; go_simp; go_big_quiet_on)
        | (go_big_quiet_op; go_big_quiet_on)
        | (go_big_quiet_op; apply Exists.intro; refine ⟨fun w' hw' => ?_, ?_⟩; (go_at_call 35; exact (l01Takes_b _ k hkN cs p b l ok _ ⟨_, _, R4.step hw'⟩).mono fun _ _ h => ⟨h.1, hw'.step h.2⟩); go_big_quiet_on)
        | (go_big_quiet_op; apply Exists.intro; refine ⟨fun w' hw' => ?_, ?_⟩; (go_at_call 34; exact (KL _).mono fun _ _ h => ⟨h.1, hw'.step h.2⟩); go_big_quiet_on)))
    refine wpQuiet_nil ?_
    intro w5 hw5
    have R5 := R4.step hw5
    have F5 := F4.step hw5
    have Y5 := Y4.step hw5
    have B5 := Lib.hid (bthen B4.out hw5)
    clear hC hw5 R4 F4 Y4 B4 f1
    obtain ⟨g2, hg2⟩ : ∃ g2, g2 = w5.heap.size := ⟨_, rfl⟩
    have hs5 := R5.lt
    have hs6 := F5.lt
    have hs7 := Y5.lt
    have hs8 := B5.out.size
    have M0 := At.new w5 (rd (zeros 16) 0 0 0) 28
    have M6 := M0.setRow (rd cs p b l)
    have R6 := (R5.alloc (.cells (rd (zeros 16) 0 0 0) 28)).setRow_other (k := w5.heap.size) (Nat.ne_of_lt R5.lt) (rd cs p b l)
    have F6 := (F5.alloc (.cells (rd (zeros 16) 0 0 0) 28)).setRow_other (k := w5.heap.size) (Nat.ne_of_lt F5.lt) (rd cs p b l)
    have Y6 := (Y5.alloc (.cells (rd (zeros 16) 0 0 0) 28)).setRow_other (k := w5.heap.size) (Nat.ne_of_lt Y5.lt) (rd cs p b l)
    have B6 := Lib.hid (bset (bnew B5.out (.cells (rd (zeros 16) 0 0 0) 28)) (g := w5.heap.size) B5.out.size (rd cs p b l))
    go_wp2_with (first | ((with_reducible refine is_load 28 _ rfl ?_); refine wpList_load_at rfl 28 _ rfl _ rfl (rd cs p b l) _ (by assumption) 19 (rd_size hl p b l) _ Try.underlying28 rfl (by kernel_rfl) ?_) | ((with_reducible refine is_store 28 (.tmp 19) (.tmp 56) rfl ?_); refine wpList_store_at rfl 28 (.tmp 19) (.tmp 56) rfl _ rfl (rd cs p b l) rfl (rd (zeros 16) 0 0 0) _ (by assumption) 19 (rd_size hl p b l) (rd_size (zeros_len 16) _ _ _) (by kernel_rfl) (fl_one _) ?_))
    clear M0 R5 F5 Y5 B5 lt0
    simp only [← hg2] at M6 R6 F6 Y6 B6 hs5 hs6 hs7 hs8 ⊢
    have HG2 := Lib.hid hg2
    clear hg2
    have BB6 := B6
    go_loopw [20] (fun i wr => ∃ i' : Nat, i' ≤ 16 ∧ i = .int .i64 i' ∧ At wr w.heap.size (rd cs p b l) 28 ∧ At wr g1 (fl fs) 38 ∧ At wr (w.heap.size + 1) (rd (zeros 16) 0 0 0) 28 ∧ At wr g2 (rd (mixTo (stepL cs ri (outL fs)) cs i') p b l) 28 ∧ Hid (Below w.heap.size w wr)) (fun i _ => 16 - (intOf i).toNat)
    case atStart => exact ⟨0, by omega, rfl, R6, F6, Y6, by rw [mixTo_zero]; exact M6, BB6⟩
    case round =>
      obtain ⟨i, hi, rfl, R4, F4, Y4, M4, B4⟩ := hrel
      clear R6 F6 Y6 M6 B6 BB6
      have hL := mixTo_len (stepL_len cs ri (outL fs)) hl hi
      by_cases hlt : i < 16
      · by_cases ceq : i = k
        · have d2 : (fl fs)[i]? = some (.float .f32 (nth fs i)) := fl_get (by omega)
          have hd2 := F4.cell d2
          have sf := step_facts (nth_le ok.cars i) (nth_le HF.out.2.2.2.2.1 i) (Nat.le_trans (nth_le HF.out.2.2.2.2.2.1 (i + 1)) (Nat.le_refl _))
          have f4 : ∀ t w, (binOp .add t (.float .f32 (nth cs i)) (.float .f32 (nth ri i))).run Try.prog w = .ok (.float .f32 (addB (nth cs i) (nth ri i))) w := fun t w => run_float_arith w .add t .f32 _ _ _ sf.1
          have f5 : ∀ t w, (binOp .sub t (.float .f32 (addB (nth cs i) (nth ri i))) (.float .f32 (nth fs (i + 1)))).run Try.prog w = .ok (.float .f32 (difB (addB (nth cs i) (nth ri i)) (nth fs (i + 1)))) w := fun t w => run_float_arith w .sub t .f32 _ _ _ sf.2.1
          have SG := Lib.hid sf.2.2
          clear sf
          have s2 : IntKind.i64.wrap ((i : Int) + 1) = (i : Int) + 1 := IntWalk.i64_in _ (by omega)
          have dr := rd_cell hl p b l hlt
          have d3 := fl_get (xs := fs) (k := i + 1) (by omega)
          have hki : (i : Int) < 16 := by omega
          have hie : ((i : Int) == (k : Int)) = true := by simp [ceq]
          have f3 : ∀ t w, (binOp .add t (.float .f32 (nth fs i)) (.float .f32 jw)).run Try.prog w = .ok (.float .f32 (nth ri i)) w := fun t w => by rw [ceq]; exact F3.out t w
          have CEQ := Lib.hid ceq
          clear ceq d2
          have hC := Cb.const wr
          have R8 := R4
          have F8 := F4
          go_wp2
          refine wp_region_cb_tail 15 (by kernel_rfl) (by kernel_rfl) ?_
          simp only [List.take, List.drop]
          repeat (first
            | go_big_quiet_skip
            | (go_big_quiet_want; first
              | (refine q_cell 24 _ rfl _ Try.underlying24 _ rfl R8 _ (by assumption) ?_; go_simp; go_big_quiet_on)
              | (refine q_cell 24 _ rfl _ Try.underlying24 _ rfl F8 _ (by assumption) ?_; go_simp; go_big_quiet_on)
              | (go_big_quiet_op; go_big_quiet_on)
              | (go_big_quiet_op; apply Exists.intro; refine ⟨fun w' hw' => ?_, ?_⟩; (go_at_call 36; exact (l02Held_b (difB (addB (nth cs i) (nth ri i)) (nth fs (i + 1))) SG.out _).mono fun _ _ h => ⟨h.1, hw'.step h.2⟩); go_big_quiet_on)))
          refine wpQuiet_nil ?_
          intro w9 hw9
          have R5 := R4.step hw9
          have F5 := F4.step hw9
          have Y5 := Y4.step hw9
          have M5 := M4.step hw9
          have B5 := Lib.hid (bthen B4.out hw9)
          clear R4 F4 Y4 M4 B4 hw9 hC dr d3 f4 f5 R8 F8 hd2
          have G := run_store_one (P := Try.prog) w9 g2 i 28 (rd (mixTo (stepL cs ri (outL fs)) cs i) p b l) (.float .f32 (stepC cs ri (outL fs) i)) M5 (by rw [rd_size hL]; omega) rfl
          rw [rd_put hL p b l hlt, ← stepL_nth cs ri (outL fs) hlt, mixTo_set (stepL_len cs ri (outL fs)) hl hlt, stepL_nth cs ri (outL fs) hlt, stepC, outL_nth fs hlt] at G
          have M6 := M5.setRow (rd (mixTo (stepL cs ri (outL fs)) cs (i + 1)) p b l)
          have R6 := R5.setRow_other (k := g2) (by omega) (rd (mixTo (stepL cs ri (outL fs)) cs (i + 1)) p b l)
          have F6 := F5.setRow_other (k := g2) (by omega) (rd (mixTo (stepL cs ri (outL fs)) cs (i + 1)) p b l)
          have Y6 := Y5.setRow_other (k := g2) (by omega) (rd (mixTo (stepL cs ri (outL fs)) cs (i + 1)) p b l)
          have B6 := Lib.hid (bset B5.out (g := g2) (by omega) (rd (mixTo (stepL cs ri (outL fs)) cs (i + 1)) p b l))
          clear M5 R5 F5 Y5 B5 hL
          go_wp2
          exact ⟨⟨i + 1, by omega, by go_num, R6, F6, Y6, M6, B6⟩, by simp [intOf]; omega⟩
        · have d2 : (fl fs)[i]? = some (.float .f32 (nth ri i)) := by rw [HF.out.2.2.2.2.2.2.1 i hlt (by omega)]; exact fl_get (by omega)
          have hd2 := F4.cell d2
          have sf := step_facts (nth_le ok.cars i) (nth_le HF.out.2.2.2.2.1 i) (Nat.le_trans (nth_le HF.out.2.2.2.2.2.1 (i + 1)) (Nat.le_refl _))
          have f4 : ∀ t w, (binOp .add t (.float .f32 (nth cs i)) (.float .f32 (nth ri i))).run Try.prog w = .ok (.float .f32 (addB (nth cs i) (nth ri i))) w := fun t w => run_float_arith w .add t .f32 _ _ _ sf.1
          have f5 : ∀ t w, (binOp .sub t (.float .f32 (addB (nth cs i) (nth ri i))) (.float .f32 (nth fs (i + 1)))).run Try.prog w = .ok (.float .f32 (difB (addB (nth cs i) (nth ri i)) (nth fs (i + 1)))) w := fun t w => run_float_arith w .sub t .f32 _ _ _ sf.2.1
          have SG := Lib.hid sf.2.2
          clear sf
          have s2 : IntKind.i64.wrap ((i : Int) + 1) = (i : Int) + 1 := IntWalk.i64_in _ (by omega)
          have dr := rd_cell hl p b l hlt
          have d3 := fl_get (xs := fs) (k := i + 1) (by omega)
          have hki : (i : Int) < 16 := by omega
          have hie : ((i : Int) == (k : Int)) = false := by simp; omega
          have CEQ := Lib.hid ceq
          clear ceq d2
          have hC := Cb.const wr
          have R8 := R4
          have F8 := F4
          go_wp2
          refine wp_region_cb_tail 15 (by kernel_rfl) (by kernel_rfl) ?_
          simp only [List.take, List.drop]
          repeat (first
            | go_big_quiet_skip
            | (go_big_quiet_want; first
              | (refine q_cell 24 _ rfl _ Try.underlying24 _ rfl R8 _ (by assumption) ?_; go_simp; go_big_quiet_on)
              | (refine q_cell 24 _ rfl _ Try.underlying24 _ rfl F8 _ (by assumption) ?_; go_simp; go_big_quiet_on)
              | (go_big_quiet_op; go_big_quiet_on)
              | (go_big_quiet_op; apply Exists.intro; refine ⟨fun w' hw' => ?_, ?_⟩; (go_at_call 36; exact (l02Held_b (difB (addB (nth cs i) (nth ri i)) (nth fs (i + 1))) SG.out _).mono fun _ _ h => ⟨h.1, hw'.step h.2⟩); go_big_quiet_on)))
          refine wpQuiet_nil ?_
          intro w9 hw9
          have R5 := R4.step hw9
          have F5 := F4.step hw9
          have Y5 := Y4.step hw9
          have M5 := M4.step hw9
          have B5 := Lib.hid (bthen B4.out hw9)
          clear R4 F4 Y4 M4 B4 hw9 hC dr d3 f4 f5 R8 F8 hd2
          have G := run_store_one (P := Try.prog) w9 g2 i 28 (rd (mixTo (stepL cs ri (outL fs)) cs i) p b l) (.float .f32 (stepC cs ri (outL fs) i)) M5 (by rw [rd_size hL]; omega) rfl
          rw [rd_put hL p b l hlt, ← stepL_nth cs ri (outL fs) hlt, mixTo_set (stepL_len cs ri (outL fs)) hl hlt, stepL_nth cs ri (outL fs) hlt, stepC, outL_nth fs hlt] at G
          have M6 := M5.setRow (rd (mixTo (stepL cs ri (outL fs)) cs (i + 1)) p b l)
          have R6 := R5.setRow_other (k := g2) (by omega) (rd (mixTo (stepL cs ri (outL fs)) cs (i + 1)) p b l)
          have F6 := F5.setRow_other (k := g2) (by omega) (rd (mixTo (stepL cs ri (outL fs)) cs (i + 1)) p b l)
          have Y6 := Y5.setRow_other (k := g2) (by omega) (rd (mixTo (stepL cs ri (outL fs)) cs (i + 1)) p b l)
          have B6 := Lib.hid (bset B5.out (g := g2) (by omega) (rd (mixTo (stepL cs ri (outL fs)) cs (i + 1)) p b l))
          clear M5 R5 F5 Y5 B5 hL
          go_wp2
          exact ⟨⟨i + 1, by omega, by go_num, R6, F6, Y6, M6, B6⟩, by simp [intOf]; omega⟩
      · obtain rfl : i = 16 := by omega
        rw [mixTo_all (stepL_len cs ri (outL fs)) hl] at M4
        have SZ : (rd (stepL cs ri (outL fs)) p b l).size = 19 := rd_size (stepL_len cs ri (outL fs)) p b l
        have HY8 := Y4.lt
        have e16 := fl_get (xs := fs) (k := 16) (by omega)
        clear R4
        go_wp2
        refine wp_region_late (n := 8) (ist := 5) (d := 10) (s := 85) (T := 28) (gR := w.heap.size + 1) (OV := rd (zeros 16) 0 0 0) (RV := rd (stepL cs ri (outL fs)) p b l) (by kernel_rfl) (by kernel_rfl) (by kernel_rfl) ⟨rfl, rfl, by decide, by kernel_rfl, by kernel_rfl, by kernel_rfl, by kernel_rfl⟩ rfl Y4 (fun ev w' h1 h2 h3 => store_fresh rfl 19 SZ (rd_size (zeros_len 16) _ _ _) (by kernel_rfl) (fl_one _) ev w' _ h1 h2 h3) ?_
        intro C hC0
        have M9 : ∀ w', C w' → At w' g2 (rd (stepL cs ri (outL fs)) p b l) 28 := fun w' h => (hC0.sub w' h).at M4 (by omega)
        have F9 : ∀ w', C w' → At w' g1 (fl fs) 38 := fun w' h => (hC0.sub w' h).at F4 (by omega)
        have hC := hC0.const
        simp (config := { decide := true }) only [cutOut, nop, List.mapIdx_cons, List.mapIdx_nil, if_true, if_false, List.take, List.drop]
        repeat (first
          | go_big_quiet_skip
          | (go_big_quiet_want; first
            | (refine q_cellC 24 _ rfl _ Try.underlying24 _ rfl F9 _ (by assumption) ?_; go_simp; go_big_quiet_on)
            | (refine q_rowC 28 _ rfl rfl M9 19 SZ _ Try.underlying28 rfl (by kernel_rfl) ?_; go_simp; go_big_quiet_on)
            | (go_big_quiet_op; go_big_quiet_on)))
        refine wpQuiet_nil ?_
        refine ⟨rfl, fun w9 hw9 hA9 => ?_⟩
        have BB := Lib.hid (B4.out.trans (hw9.below (by omega) HY8))
        clear hC M9 F9 hC0 hw9 F4 Y4 M4 B4
        go_wp2
        exact bodyPost_ret (v := .tuple #[.agg (rd (stepL cs ri (outL fs)) p b l), .float .f32 (nth fs 0), .float .f32 (nth fs 16), .float .f32 jw, .int .i64 0]) (results_at4 (p := 10) (ty := 28) rfl _ _ _ (rd (stepL cs ri (outL fs)) p b l) _ _ _ _ _ rfl rfl rfl rfl rfl hA9 _ Try.underlying28 rfl 19 SZ (by kernel_rfl)) rfl ⟨rfl, BB.out⟩

end Go.Proofs.Ytchcikfjbpcalaa
