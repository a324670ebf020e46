/-
  CONTRACTS: SmoothRoad.
-/
import Derived.Test.YtchcikfjbpcalaaG5
import Derived.Test.YtchcikfjbpcalaaG3
import Derived.Test.YtchcikfjbpcalaaG1
import Derived.Test.YtchcikfjbpcalaaG6
import Derived.Deep.LoopGhost
import Derived.IntWalk
namespace Go.Proofs.Ytchcikfjbpcalaa
open Go Go.RowKit
set_option maxRecDepth 100000

/-- a smoother share: of the cell behind cell j -/
def smoothC (cs : List Nat) (j : Nat) : Nat := addB (addB (mulB 1048576000 (nth cs j)) (mulB 1056964608 (nth cs (j + 1)))) (mulB 1048576000 (nth cs (j + 1 + 1)))

def smoothL (cs : List Nat) : List Nat := rowOf 16 fun k => if k = 0 then nth cs 0 else if k = 15 then nth cs 15 else smoothC cs (k - 1)

theorem smoothL_len (cs : List Nat) : (smoothL cs).length = 16 := rowOf_len _ _

theorem smoothL_mid (cs : List Nat) {j : Nat} (h : j + 1 < 15) : nth (smoothL cs) (j + 1) = smoothC cs j := by
  unfold smoothL
  rw [rowOf_nth 16 _ (by omega), if_neg (by omega), if_neg (by omega), Nat.add_sub_cancel]

theorem mixTo_one {cs : List Nat} (hl : cs.length = 16) : mixTo (smoothL cs) cs (0 + 1) = cs := by
  rw [mixTo_skip (smoothL_len cs) hl (by omega) (by unfold smoothL; rw [rowOf_nth 16 _ (by omega), if_pos rfl]), mixTo_zero]

theorem mixTo_15 {cs : List Nat} (hl : cs.length = 16) : mixTo (smoothL cs) cs 15 = smoothL cs := by
  rw [← mixTo_skip (smoothL_len cs) hl (by omega) (by unfold smoothL; rw [rowOf_nth 16 _ (by omega), if_neg (by omega), if_pos rfl]), mixTo_all (smoothL_len cs) hl]

theorem smooth_facts {cs : List Nat} {p b l : Nat} (ok : OkR cs p b l) (j : Nat) :
    floatBits .add .f32 (mulB 1048576000 (nth cs j)) (mulB 1056964608 (nth cs (j + 1))) = some (addB (mulB 1048576000 (nth cs j)) (mulB 1056964608 (nth cs (j + 1)))) ∧
    floatBits .add .f32 (addB (mulB 1048576000 (nth cs j)) (mulB 1056964608 (nth cs (j + 1)))) (mulB 1048576000 (nth cs (j + 1 + 1))) = some (smoothC cs j) ∧ smoothC cs j ≤ 2139095040 := by
  have h1 := (mul_one_le (x := 1048576000) (by omega) (ok.car j)).2
  have h2 := (mul_one_le (x := 1056964608) (by omega) (ok.car (j + 1))).2
  have h3 := (mul_one_le (x := 1048576000) (by omega) (ok.car (j + 1 + 1))).2
  have a1 := add_any (Nat.le_trans h1 (by omega)) (Nat.le_trans h2 (by omega))
  have a2 := add_any a1.2 (Nat.le_trans h3 (by omega))
  exact ⟨a1.1, a2.1, a2.2⟩

theorem SmoothRoad_no (cs : List Nat) (p b l : Nat) (hl : cs.length = 16) (hc : ∀ x ∈ cs, x < 4294967296) (hp : p < 4294967296) (hb : b < 4294967296) (hla : l < 4294967296) (h : okB cs p b l = false) (w : World) :
    Calls Try.prog 14 #[.agg (rd cs p b l)] w fun e w' => e = .returned (.tuple #[.agg (rd (zeros 16) 0 0 0), .int .i64 1]) ∧ Below w.heap.size w w' := by
  have A0 : At ((w.alloc (.cells (rd cs p b l) 28)).alloc (.cells (rd (zeros 16) 0 0 0) 28)) w.heap.size (rd cs p b l) 28 := (At.new w _ _).alloc _
  have R0 : At ((w.alloc (.cells (rd cs p b l) 28)).alloc (.cells (rd (zeros 16) 0 0 0) 28)) (w.heap.size + 1) (rd (zeros 16) 0 0 0) 28 := At.last1 w _ _ _
  have B0 := Lib.hid (bnew (b0 w (.cells (rd cs p b l) 28)) (.cells (rd (zeros 16) 0 0 0) 28))
  go_enter Try.func14, Try.ntmps14
  go_wp2_with (((with_reducible refine is_load 28 _ rfl ?_); refine wpList_load_at rfl 28 _ rfl _ rfl (rd cs p b l) _ (by assumption) 19 (rd_size hl p b l) _ Try.underlying28 rfl (by kernel_rfl) ?_))
  refine (ValidRoad_any cs p b l hl hc hp hb hla _).mono ?_
  rintro e w1 ⟨rfl, hb1⟩
  have A1 := A0.step hb1
  have R1 := R0.step hb1
  have B1 := Lib.hid (bthen B0.out hb1)
  clear A0 R0 B0 hb1
  have R9 := R1.setRow (rd (zeros 16) 0 0 0)
  have B9 := Lib.hid (bset B1.out (g := w.heap.size + 1) (by omega) (rd (zeros 16) 0 0 0))
  go_wp2_with (((with_reducible refine is_store 28 (.tmp 2) (.tmp 9) rfl ?_); refine wpList_store_at rfl 28 (.tmp 2) (.tmp 9) rfl _ rfl (rd (zeros 16) 0 0 0) rfl (rd (zeros 16) 0 0 0) _ (by assumption) 19 (rd_size (zeros_len 16) _ _ _) (rd_size (zeros_len 16) _ _ _) (by kernel_rfl) (fl_one _) ?_))
  exact bodyPost_ret (v := .tuple #[.agg (rd (zeros 16) 0 0 0), .int .i64 1]) (results_at_tmp (p := 2) (ty := 28) rfl _ _ _ (rd (zeros 16) 0 0 0) _ (.int .i64 1) rfl rfl R9 _ Try.underlying28 rfl 19 (rd_size (zeros_len 16) _ _ _) (by kernel_rfl)) rfl ⟨rfl, B9.out⟩

theorem SmoothRoad_yes (cs : List Nat) (p b l : Nat) (hl : cs.length = 16) (hc : ∀ x ∈ cs, x < 4294967296) (hp : p < 4294967296) (hb : b < 4294967296) (hla : l < 4294967296) (h : okB cs p b l = true) (w : World) :
    Calls Try.prog 14 #[.agg (rd cs p b l)] w fun e w' => e = .returned (.tuple #[.agg (rd (smoothL cs) p b l), .int .i64 0]) ∧ Below w.heap.size w w' := by
  have A0 : At ((w.alloc (.cells (rd cs p b l) 28)).alloc (.cells (rd (zeros 16) 0 0 0) 28)) w.heap.size (rd cs p b l) 28 := (At.new w _ _).alloc _
  have R0 : At ((w.alloc (.cells (rd cs p b l) 28)).alloc (.cells (rd (zeros 16) 0 0 0) 28)) (w.heap.size + 1) (rd (zeros 16) 0 0 0) 28 := At.last1 w _ _ _
  have B0 := Lib.hid (bnew (b0 w (.cells (rd cs p b l) 28)) (.cells (rd (zeros 16) 0 0 0) 28))
  go_enter Try.func14, Try.ntmps14
  go_wp2_with (((with_reducible refine is_load 28 _ rfl ?_); refine wpList_load_at rfl 28 _ rfl _ rfl (rd cs p b l) _ (by assumption) 19 (rd_size hl p b l) _ Try.underlying28 rfl (by kernel_rfl) ?_))
  refine (ValidRoad_any cs p b l hl hc hp hb hla _).mono ?_
  rintro e w1 ⟨rfl, hb1⟩
  have A1 := A0.step hb1
  have R1 := R0.step hb1
  have B1 := Lib.hid (bthen B0.out hb1)
  clear A0 R0 B0 hb1
  have ok := OkR.of hl h
  have O1 := At.new w1 (fl (zeros 16)) 26
  have O2 := O1.setRow (fl cs)
  have A2 := (A1.alloc (.cells (fl (zeros 16)) 26)).setRow_other (k := w1.heap.size) (Nat.ne_of_lt A1.lt) (fl cs)
  have R2 := (R1.alloc (.cells (fl (zeros 16)) 26)).setRow_other (k := w1.heap.size) (Nat.ne_of_lt R1.lt) (fl cs)
  have B2 := Lib.hid (bset (bnew B1.out (.cells (fl (zeros 16)) 26)) (g := w1.heap.size) B1.out.size (fl cs))
  have hne : w.heap.size < w1.heap.size := A1.lt
  have hne2 : w.heap.size + 1 < w1.heap.size := R1.lt
  go_wp2_with (first | ((with_reducible refine is_load 26 _ rfl ?_); refine wpList_load_part rfl 26 _ rfl _ 0 rfl (rd cs p b l) _ (by assumption) 16 (by rw [rd_size hl]; omega) _ Try.underlying26 rfl (by kernel_rfl) (fl cs) (rd_cars hl p b l) ?_) | ((with_reducible refine is_store 26 (.tmp 4) (.tmp 11) rfl ?_); refine wpList_store_at rfl 26 (.tmp 4) (.tmp 11) rfl _ rfl (fl cs) rfl (fl (zeros 16)) _ (by assumption) 16 (by rw [fl_size, hl]) (by rw [fl_size, zeros_len]) (by kernel_rfl) (fl_one _) ?_))
  clear A1 R1 B1 O1
  have BB2 := B2
  go_wp2
  go_loopw [5] (fun i wr => ∃ j : Nat, j ≤ 14 ∧ i = .int .i64 ((j : Int) + 1) ∧ At wr w.heap.size (rd (mixTo (smoothL cs) cs (j + 1)) p b l) 28 ∧ At wr (w.heap.size + 1) (rd (zeros 16) 0 0 0) 28 ∧ At wr w1.heap.size (fl cs) 26 ∧ Hid (Below w.heap.size w wr)) (fun i _ => 16 - (intOf i).toNat)
  case atStart => exact ⟨0, by omega, rfl, (by rw [mixTo_one hl]; exact A2), R2, O2, BB2⟩
  case round =>
    obtain ⟨j, hj, rfl, M4, R4, O4, B4⟩ := hrel
    clear A2 R2 B2 BB2 O2
    have hL := mixTo_len (smoothL_len cs) hl (k := j + 1) (by omega)
    by_cases hlt : j < 14
    · have s1 : IntKind.i64.wrap (j : Int) = (j : Int) := IntWalk.i64_in _ (by omega)
      have s2 : IntKind.i64.wrap ((j : Int) + 1 + 1) = (j : Int) + 1 + 1 := IntWalk.i64_in _ (by omega)
      have d0 : (fl cs)[j]? = some (.float .f32 (nth cs j)) := fl_get (by omega)
      have d1 : (fl cs)[j + 1]? = some (.float .f32 (nth cs (j + 1))) := fl_get (by omega)
      have d2 : (fl cs)[j + 1 + 1]? = some (.float .f32 (nth cs (j + 1 + 1))) := fl_get (by omega)
      have f1 : ∀ t w, (binOp .quo t (.float .f32 (nth cs j)) (.float .f32 1082130432)).run Try.prog w = .ok (.float .f32 (mulB 1048576000 (nth cs j))) w := fun t w => run_float_arith w .quo t .f32 _ _ _ (quarter (Nat.lt_of_le_of_lt (ok.car _) (by omega)))
      have f2 : ∀ t w, (binOp .quo t (.float .f32 (nth cs (j + 1))) (.float .f32 1073741824)).run Try.prog w = .ok (.float .f32 (mulB 1056964608 (nth cs (j + 1)))) w := fun t w => run_float_arith w .quo t .f32 _ _ _ (half (Nat.lt_of_le_of_lt (ok.car _) (by omega)))
      have f3 : ∀ t w, (binOp .quo t (.float .f32 (nth cs (j + 1 + 1))) (.float .f32 1082130432)).run Try.prog w = .ok (.float .f32 (mulB 1048576000 (nth cs (j + 1 + 1)))) w := fun t w => run_float_arith w .quo t .f32 _ _ _ (quarter (Nat.lt_of_le_of_lt (ok.car _) (by omega)))
      have f4 : ∀ t w, (binOp .add t (.float .f32 (mulB 1048576000 (nth cs j))) (.float .f32 (mulB 1056964608 (nth cs (j + 1))))).run Try.prog w = .ok (.float .f32 (addB (mulB 1048576000 (nth cs j)) (mulB 1056964608 (nth cs (j + 1))))) w := fun t w => run_float_arith w .add t .f32 _ _ _ (smooth_facts ok j).1
      have f5 : ∀ t w, (binOp .add t (.float .f32 (addB (mulB 1048576000 (nth cs j)) (mulB 1056964608 (nth cs (j + 1))))) (.float .f32 (mulB 1048576000 (nth cs (j + 1 + 1))))).run Try.prog w = .ok (.float .f32 (smoothC cs j)) w := fun t w => run_float_arith w .add t .f32 _ _ _ (smooth_facts ok j).2.1
      have hC := Cb.const wr
      go_wp2
      refine wp_region_cb_tail 19 (by kernel_rfl) (by kernel_rfl) ?_
      simp only [List.take, List.drop]
      repeat (first
        | go_big_quiet_skip
        | (go_big_quiet_want; first
          | (refine q_cell 24 _ rfl _ Try.underlying24 _ rfl O4 _ (by assumption) ?_; go_simp; go_big_quiet_on)
          | (go_big_quiet_op; go_big_quiet_on)))
      refine wpQuiet_nil ?_
      intro w9 hw9
      have M5 := M4.step hw9
      have R5 := R4.step hw9
      have O5 := O4.step hw9
      have B5 := Lib.hid (bthen B4.out hw9)
      clear M4 O4 R4 B4 hw9 hC d0 d1 d2 f1 f2 f3 f4 f5
      have G := run_store_one (P := Try.prog) w9 w.heap.size (j + 1) 28 (rd (mixTo (smoothL cs) cs (j + 1)) p b l) (.float .f32 (smoothC cs j)) M5 (by rw [rd_size hL]; omega) rfl
      rw [rd_put hL p b l (by omega), ← smoothL_mid cs (by omega : j + 1 < 15), mixTo_set (smoothL_len cs) hl (by omega), smoothL_mid cs (by omega)] at G
      have M6 := M5.setRow (rd (mixTo (smoothL cs) cs (j + 1 + 1)) p b l)
      have O6 := O5.setRow_other (k := w.heap.size) (by omega) (rd (mixTo (smoothL cs) cs (j + 1 + 1)) p b l)
      have R6 := R5.setRow_other (k := w.heap.size) (by omega) (rd (mixTo (smoothL cs) cs (j + 1 + 1)) p b l)
      have B6 := Lib.hid (bset B5.out (g := w.heap.size) (by omega) (rd (mixTo (smoothL cs) cs (j + 1 + 1)) p b l))
      clear M5 O5 R5 B5 hL
      go_wp2
      exact ⟨⟨j + 1, by omega, by go_num, M6, R6, O6, B6⟩, by simp [intOf]; omega⟩
    · obtain rfl : j = 14 := by omega
      rw [show 14 + 1 = 15 from rfl, mixTo_15 hl] at M4
      have SZ : (rd (smoothL cs) p b l).size = 19 := rd_size (smoothL_len cs) p b l
      have R9 := R4.setRow (rd (smoothL cs) p b l)
      have B9 := Lib.hid (bset B4.out (g := w.heap.size + 1) (by omega) (rd (smoothL cs) p b l))
      go_wp2_with (first | ((with_reducible refine is_load 28 _ rfl ?_); refine wpList_load_at rfl 28 _ rfl _ rfl (rd (smoothL cs) p b l) _ (by assumption) 19 (SZ) _ Try.underlying28 rfl (by kernel_rfl) ?_) | ((with_reducible refine is_store 28 (.tmp 2) (.tmp 35) rfl ?_); refine wpList_store_at rfl 28 (.tmp 2) (.tmp 35) rfl _ rfl (rd (smoothL cs) p b l) rfl (rd (zeros 16) 0 0 0) _ (by assumption) 19 (SZ) (rd_size (zeros_len 16) _ _ _) (by kernel_rfl) (fl_one _) ?_))
      exact bodyPost_ret (v := .tuple #[.agg (rd (smoothL cs) p b l), .int .i64 0]) (results_at_tmp (p := 2) (ty := 28) rfl _ _ _ (rd (smoothL cs) p b l) _ (.int .i64 0) rfl rfl R9 _ Try.underlying28 rfl 19 (SZ) (by kernel_rfl)) rfl ⟨rfl, B9.out⟩

theorem sSmoothRoad_no (cs : List Nat) (p b l : Nat) (hl : cs.length = 16) (hc : ∀ x ∈ cs, x < 4294967296) (hp : p < 4294967296) (hb : b < 4294967296) (hla : l < 4294967296) (h : okB cs p b l = false) (w : World) :
    Calls Try.prog 15 #[.agg (rd cs p b l)] w fun e w' => e = .returned (.tuple #[.agg (rd (zeros 16) 0 0 0), .int .i64 1]) ∧ Below w.heap.size w w' := by
  have A0 : At ((w.alloc (.cells (rd cs p b l) 28)).alloc (.cells (rd (zeros 16) 0 0 0) 28)) w.heap.size (rd cs p b l) 28 := (At.new w _ _).alloc _
  have R0 : At ((w.alloc (.cells (rd cs p b l) 28)).alloc (.cells (rd (zeros 16) 0 0 0) 28)) (w.heap.size + 1) (rd (zeros 16) 0 0 0) 28 := At.last1 w _ _ _
  have B0 := Lib.hid (bnew (b0 w (.cells (rd cs p b l) 28)) (.cells (rd (zeros 16) 0 0 0) 28))
  go_enter Try.func15, Try.ntmps15
  go_wp2_with fail
  refine (l01Ok_any _ cs p b l hl hc hp hb hla _ ⟨_, _, A0⟩).mono ?_
  rintro e w1 ⟨rfl, n1, rfl⟩
  have A1 := A0.drewN n1
  have R1 := R0.drewN n1
  have B1 := Lib.hid (bdrew B0.out n1)
  generalize ((w.alloc (.cells (rd cs p b l) 28)).alloc (.cells (rd (zeros 16) 0 0 0) 28)).drewN n1 = w1 at A1 R1 B1 ⊢
  clear A0 R0 B0
  have R9 := R1.setRow (rd (zeros 16) 0 0 0)
  have B9 := Lib.hid (bset B1.out (g := w.heap.size + 1) (by omega) (rd (zeros 16) 0 0 0))
  go_wp2_with (((with_reducible refine is_store 28 (.tmp 2) (.tmp 8) rfl ?_); refine wpList_store_at rfl 28 (.tmp 2) (.tmp 8) rfl _ rfl (rd (zeros 16) 0 0 0) rfl (rd (zeros 16) 0 0 0) _ (by assumption) 19 (rd_size (zeros_len 16) _ _ _) (rd_size (zeros_len 16) _ _ _) (by kernel_rfl) (fl_one _) ?_))
  exact bodyPost_ret (v := .tuple #[.agg (rd (zeros 16) 0 0 0), .int .i64 1]) (results_at_tmp (p := 2) (ty := 28) rfl _ _ _ (rd (zeros 16) 0 0 0) _ (.int .i64 1) rfl rfl R9 _ Try.underlying28 rfl 19 (rd_size (zeros_len 16) _ _ _) (by kernel_rfl)) rfl ⟨rfl, B9.out⟩

theorem sSmoothRoad_yes (cs : List Nat) (p b l : Nat) (hl : cs.length = 16) (hc : ∀ x ∈ cs, x < 4294967296) (hp : p < 4294967296) (hb : b < 4294967296) (hla : l < 4294967296) (h : okB cs p b l = true) (w : World) :
    Calls Try.prog 15 #[.agg (rd cs p b l)] w fun e w' => e = .returned (.tuple #[.agg (rd (smoothL cs) p b l), .int .i64 0]) ∧ Below w.heap.size w w' := by
  have A0 : At ((w.alloc (.cells (rd cs p b l) 28)).alloc (.cells (rd (zeros 16) 0 0 0) 28)) w.heap.size (rd cs p b l) 28 := (At.new w _ _).alloc _
  have R0 : At ((w.alloc (.cells (rd cs p b l) 28)).alloc (.cells (rd (zeros 16) 0 0 0) 28)) (w.heap.size + 1) (rd (zeros 16) 0 0 0) 28 := At.last1 w _ _ _
  have B0 := Lib.hid (bnew (b0 w (.cells (rd cs p b l) 28)) (.cells (rd (zeros 16) 0 0 0) 28))
  go_enter Try.func15, Try.ntmps15
  go_wp2_with fail
  refine (l01Ok_any _ cs p b l hl hc hp hb hla _ ⟨_, _, A0⟩).mono ?_
  rintro e w1 ⟨rfl, n1, rfl⟩
  have A1 := A0.drewN n1
  have R1 := R0.drewN n1
  have B1 := Lib.hid (bdrew B0.out n1)
  generalize ((w.alloc (.cells (rd cs p b l) 28)).alloc (.cells (rd (zeros 16) 0 0 0) 28)).drewN n1 = w1 at A1 R1 B1 ⊢
  clear A0 R0 B0
  have ok := OkR.of hl h
  have O1 := At.new w1 (rd (zeros 16) 0 0 0) 28
  have O2 := O1.setRow (rd cs p b l)
  have A2 := (A1.alloc (.cells (rd (zeros 16) 0 0 0) 28)).setRow_other (k := w1.heap.size) (Nat.ne_of_lt A1.lt) (rd cs p b l)
  have R2 := (R1.alloc (.cells (rd (zeros 16) 0 0 0) 28)).setRow_other (k := w1.heap.size) (Nat.ne_of_lt R1.lt) (rd cs p b l)
  have B2 := Lib.hid (bset (bnew B1.out (.cells (rd (zeros 16) 0 0 0) 28)) (g := w1.heap.size) B1.out.size (rd cs p b l))
  have hne : w.heap.size < w1.heap.size := A1.lt
  have hne2 : w.heap.size + 1 < w1.heap.size := R1.lt
  go_wp2_with (first | ((with_reducible refine is_load 28 _ rfl ?_); refine wpList_load_at rfl 28 _ rfl _ rfl (rd cs p b l) _ (by assumption) 19 (rd_size hl p b l) _ Try.underlying28 rfl (by kernel_rfl) ?_) | ((with_reducible refine is_store 28 (.tmp 4) (.tmp 9) rfl ?_); refine wpList_store_at rfl 28 (.tmp 4) (.tmp 9) rfl _ rfl (rd cs p b l) rfl (rd (zeros 16) 0 0 0) _ (by assumption) 19 (rd_size hl p b l) (rd_size (zeros_len 16) _ _ _) (by kernel_rfl) (fl_one _) ?_))
  clear A1 R1 B1 O1
  have BB2 := B2
  go_wp2
  go_loopw [5] (fun i wr => ∃ j : Nat, j ≤ 14 ∧ i = .int .i64 ((j : Int) + 1) ∧ At wr w1.heap.size (rd (mixTo (smoothL cs) cs (j + 1)) p b l) 28 ∧ At wr (w.heap.size + 1) (rd (zeros 16) 0 0 0) 28 ∧ At wr w.heap.size (rd cs p b l) 28 ∧ Hid (Below w.heap.size w wr)) (fun i _ => 16 - (intOf i).toNat)
  case atStart => exact ⟨0, by omega, rfl, (by rw [mixTo_one hl]; exact O2), R2, A2, BB2⟩
  case round =>
    obtain ⟨j, hj, rfl, M4, R4, O4, B4⟩ := hrel
    clear A2 R2 B2 BB2 O2
    have hL := mixTo_len (smoothL_len cs) hl (k := j + 1) (by omega)
    by_cases hlt : j < 14
    · have s1 : IntKind.i64.wrap (j : Int) = (j : Int) := IntWalk.i64_in _ (by omega)
      have s2 : IntKind.i64.wrap ((j : Int) + 1 + 1) = (j : Int) + 1 + 1 := IntWalk.i64_in _ (by omega)
      have d0 : (rd cs p b l)[j]? = some (.float .f32 (nth cs j)) := rd_cell hl p b l (by omega)
      have d1 : (rd cs p b l)[j + 1]? = some (.float .f32 (nth cs (j + 1))) := rd_cell hl p b l (by omega)
      have d2 : (rd cs p b l)[j + 1 + 1]? = some (.float .f32 (nth cs (j + 1 + 1))) := rd_cell hl p b l (by omega)
      have f1 : ∀ t w, (binOp .mul t (.float .f32 1048576000) (.float .f32 (nth cs j))).run Try.prog w = .ok (.float .f32 (mulB 1048576000 (nth cs j))) w := fun t w => run_float_arith w .mul t .f32 _ _ _ (mul_one_le (by omega) (ok.car _)).1
      have f2 : ∀ t w, (binOp .mul t (.float .f32 1056964608) (.float .f32 (nth cs (j + 1)))).run Try.prog w = .ok (.float .f32 (mulB 1056964608 (nth cs (j + 1)))) w := fun t w => run_float_arith w .mul t .f32 _ _ _ (mul_one_le (by omega) (ok.car _)).1
      have f3 : ∀ t w, (binOp .mul t (.float .f32 1048576000) (.float .f32 (nth cs (j + 1 + 1)))).run Try.prog w = .ok (.float .f32 (mulB 1048576000 (nth cs (j + 1 + 1)))) w := fun t w => run_float_arith w .mul t .f32 _ _ _ (mul_one_le (by omega) (ok.car _)).1
      have f4 : ∀ t w, (binOp .add t (.float .f32 (mulB 1048576000 (nth cs j))) (.float .f32 (mulB 1056964608 (nth cs (j + 1))))).run Try.prog w = .ok (.float .f32 (addB (mulB 1048576000 (nth cs j)) (mulB 1056964608 (nth cs (j + 1))))) w := fun t w => run_float_arith w .add t .f32 _ _ _ (smooth_facts ok j).1
      have f5 : ∀ t w, (binOp .add t (.float .f32 (addB (mulB 1048576000 (nth cs j)) (mulB 1056964608 (nth cs (j + 1))))) (.float .f32 (mulB 1048576000 (nth cs (j + 1 + 1))))).run Try.prog w = .ok (.float .f32 (smoothC cs j)) w := fun t w => run_float_arith w .add t .f32 _ _ _ (smooth_facts ok j).2.1
      have hC := Cb.const wr
      go_wp2
      refine wp_region_cb_tail 22 (by kernel_rfl) (by kernel_rfl) ?_
      simp only [List.take, List.drop]
      repeat (first
        | go_big_quiet_skip
        | (go_big_quiet_want; first
          | (refine q_cell 24 _ rfl _ Try.underlying24 _ rfl O4 _ (by assumption) ?_; go_simp; go_big_quiet_on)
          | (go_big_quiet_op; go_big_quiet_on)))
      refine wpQuiet_nil ?_
      intro w9 hw9
      have M5 := M4.step hw9
      have R5 := R4.step hw9
      have O5 := O4.step hw9
      have B5 := Lib.hid (bthen B4.out hw9)
      clear M4 O4 R4 B4 hw9 hC d0 d1 d2 f1 f2 f3 f4 f5
      have G := run_store_one (P := Try.prog) w9 w1.heap.size (j + 1) 28 (rd (mixTo (smoothL cs) cs (j + 1)) p b l) (.float .f32 (smoothC cs j)) M5 (by rw [rd_size hL]; omega) rfl
      rw [rd_put hL p b l (by omega), ← smoothL_mid cs (by omega : j + 1 < 15), mixTo_set (smoothL_len cs) hl (by omega), smoothL_mid cs (by omega)] at G
      have M6 := M5.setRow (rd (mixTo (smoothL cs) cs (j + 1 + 1)) p b l)
      have O6 := O5.setRow_other (k := w1.heap.size) (by omega) (rd (mixTo (smoothL cs) cs (j + 1 + 1)) p b l)
      have R6 := R5.setRow_other (k := w1.heap.size) (by omega) (rd (mixTo (smoothL cs) cs (j + 1 + 1)) p b l)
      have B6 := Lib.hid (bset B5.out (g := w1.heap.size) (by omega) (rd (mixTo (smoothL cs) cs (j + 1 + 1)) p b l))
      clear M5 O5 R5 B5 hL
      go_wp2
      exact ⟨⟨j + 1, by omega, by go_num, M6, R6, O6, B6⟩, by simp [intOf]; omega⟩
    · obtain rfl : j = 14 := by omega
      rw [show 14 + 1 = 15 from rfl, mixTo_15 hl] at M4
      have SZ : (rd (smoothL cs) p b l).size = 19 := rd_size (smoothL_len cs) p b l
      have R9 := R4.setRow (rd (smoothL cs) p b l)
      have B9 := Lib.hid (bset B4.out (g := w.heap.size + 1) (by omega) (rd (smoothL cs) p b l))
      go_wp2_with (first | ((with_reducible refine is_load 28 _ rfl ?_); refine wpList_load_at rfl 28 _ rfl _ rfl (rd (smoothL cs) p b l) _ (by assumption) 19 (SZ) _ Try.underlying28 rfl (by kernel_rfl) ?_) | ((with_reducible refine is_store 28 (.tmp 2) (.tmp 37) rfl ?_); refine wpList_store_at rfl 28 (.tmp 2) (.tmp 37) rfl _ rfl (rd (smoothL cs) p b l) rfl (rd (zeros 16) 0 0 0) _ (by assumption) 19 (SZ) (rd_size (zeros_len 16) _ _ _) (by kernel_rfl) (fl_one _) ?_))
      exact bodyPost_ret (v := .tuple #[.agg (rd (smoothL cs) p b l), .int .i64 0]) (results_at_tmp (p := 2) (ty := 28) rfl _ _ _ (rd (smoothL cs) p b l) _ (.int .i64 0) rfl rfl R9 _ Try.underlying28 rfl 19 (SZ) (by kernel_rfl)) rfl ⟨rfl, B9.out⟩

def vSmoothRoad (cs : List Nat) (p b l : Nat) : List Nat × Nat × Nat × Nat × Int := if okB cs p b l then (smoothL cs, p, b, l, 0) else (zeros 16, 0, 0, 0, 1)

theorem vSmoothRoad_good {cs : List Nat} (hl : cs.length = 16) (p b l : Nat) : goodL (vSmoothRoad cs p b l).1 (vSmoothRoad cs p b l).2.1 (vSmoothRoad cs p b l).2.2.1 (vSmoothRoad cs p b l).2.2.2.1 := by
  unfold vSmoothRoad
  by_cases h : okB cs p b l = true
  · rw [if_pos h]
    have ok := OkR.of hl h
    obtain ⟨g1, g2, g3, g4, g5⟩ := okB_good hl h
    refine ⟨smoothL_len cs, fun y hy => ?_, g3, g4, g5⟩
    obtain ⟨k, -, rfl⟩ := rowOf_mem hy
    by_cases c0 : k = 0
    · rw [if_pos c0]; exact nan_le (ok.car 0) (by omega)
    · rw [if_neg c0]
      by_cases c1 : k = 15
      · rw [if_pos c1]; exact nan_le (ok.car 15) (by omega)
      · rw [if_neg c1]; exact nan_le (smooth_facts ok (k - 1)).2.2 (Nat.le_refl _)
  · rw [if_neg h]; exact zero_good

theorem SmoothRoad_any (cs : List Nat) (p b l : Nat) (hl : cs.length = 16) (hc : ∀ x ∈ cs, x < 4294967296) (hp : p < 4294967296) (hb : b < 4294967296) (hla : l < 4294967296) (w : World) :
    Calls Try.prog 14 #[.agg (rd cs p b l)] w fun e w' => e = .returned (.tuple #[.agg (rd (vSmoothRoad cs p b l).1 (vSmoothRoad cs p b l).2.1 (vSmoothRoad cs p b l).2.2.1 (vSmoothRoad cs p b l).2.2.2.1), .int .i64 (vSmoothRoad cs p b l).2.2.2.2]) ∧ Below w.heap.size w w' := by
  cases h : okB cs p b l
  · have e : (vSmoothRoad cs p b l) = (zeros 16, 0, 0, 0, 1) := by unfold vSmoothRoad; rw [h]; rfl
    rw [e]; exact SmoothRoad_no cs p b l hl hc hp hb hla h w
  · have e : (vSmoothRoad cs p b l) = (smoothL cs, p, b, l, 0) := by unfold vSmoothRoad; rw [h]; rfl
    rw [e]; exact SmoothRoad_yes cs p b l hl hc hp hb hla h w

theorem sSmoothRoad_any (cs : List Nat) (p b l : Nat) (hl : cs.length = 16) (hc : ∀ x ∈ cs, x < 4294967296) (hp : p < 4294967296) (hb : b < 4294967296) (hla : l < 4294967296) (w : World) :
    Calls Try.prog 15 #[.agg (rd cs p b l)] w fun e w' => e = .returned (.tuple #[.agg (rd (vSmoothRoad cs p b l).1 (vSmoothRoad cs p b l).2.1 (vSmoothRoad cs p b l).2.2.1 (vSmoothRoad cs p b l).2.2.2.1), .int .i64 (vSmoothRoad cs p b l).2.2.2.2]) ∧ Below w.heap.size w w' := by
  cases h : okB cs p b l
  · have e : (vSmoothRoad cs p b l) = (zeros 16, 0, 0, 0, 1) := by unfold vSmoothRoad; rw [h]; rfl
    rw [e]; exact sSmoothRoad_no cs p b l hl hc hp hb hla h w
  · have e : (vSmoothRoad cs p b l) = (smoothL cs, p, b, l, 0) := by unfold vSmoothRoad; rw [h]; rfl
    rw [e]; exact sSmoothRoad_yes cs p b l hl hc hp hb hla h w
end Go.Proofs.Ytchcikfjbpcalaa
