/-
  CONTRACTS: a step.
-/
import Derived.Test.YtiaflomabgnmaaaG11
import Derived.BigQuiet
import Derived.Test.YtiaflomabgnmaaaG7
namespace Go.Proofs.Ytiaflomabgnmaaa
open Go Go.RowKit
set_option maxRecDepth 100000

def intoL (xs : List Nat) : List Nat := (xs.take (0 + 16)).drop 0

def outL (xs : List Nat) : List Nat := (xs.take (1 + 16)).drop 1

theorem intoL_len {xs : List Nat} (h : xs.length = 17) : (intoL xs).length = 16 := by simp [intoL, h]

theorem outL_len {xs : List Nat} (h : xs.length = 17) : (outL xs).length = 16 := by simp [outL, h]

theorem intoL_nth (xs : List Nat) {k : Nat} (hk : k < 16) : nth (intoL xs) k = nth xs k := by
  show ((intoL xs)[k]?).getD 0 = (xs[k]?).getD 0
  unfold intoL
  rw [List.getElem?_drop, List.getElem?_take_of_lt (by omega), Nat.zero_add]

theorem outL_nth (xs : List Nat) {k : Nat} (hk : k < 16) : nth (outL xs) k = nth xs (k + 1) := by
  show ((outL xs)[k]?).getD 0 = (xs[k + 1]?).getD 0
  unfold outL
  rw [List.getElem?_drop, List.getElem?_take_of_lt (by omega), Nat.add_comm]

theorem intoCells_any (xs : List Nat) (hl : xs.length = 17) (w : World) :
    Calls Try.prog 50 #[.agg (fl xs)] w fun e w' => e = .returned (.agg (fl (intoL xs))) ∧ Below w.heap.size w w' := by
  have A0 : At ((w.alloc (.cells (fl xs) 65)).alloc (.cells (fl (zeros 16)) 26)) w.heap.size (fl xs) 65 := (At.new w _ _).alloc _
  have R0 : At ((w.alloc (.cells (fl xs) 65)).alloc (.cells (fl (zeros 16)) 26)) (w.heap.size + 1) (fl (zeros 16)) 26 := At.last1 w _ _ _
  have B0 := Lib.hid (bnew (b0 w (.cells (fl xs) 65)) (.cells (fl (zeros 16)) 26))
  have hlen := intoL_len hl
  have SZ : (fl (intoL xs)).size = 16 := by rw [fl_size, hlen]
  have R9 := R0.setRow (fl (intoL xs))
  have B9 := Lib.hid (bset B0.out (g := w.heap.size + 1) (by omega) (fl (intoL xs)))
  have HH := Lib.hid hl
  have HP : (fl xs).extract 0 (0 + 16) = fl (intoL xs) := fl_extract xs 0 (0 + 16)
  have HQ : 0 + 16 ≤ (fl xs).size := by rw [fl_size, hl]; omega
  have HPQ := Lib.hid (And.intro HP HQ)
  clear hl hlen HP HQ
  have hat : ∀ w', (Instr.arrayAt 26 (.slice (some ⟨w.heap.size, 0, none⟩) 16 17)).run Try.prog w' = .ok (.pointer (some ⟨w.heap.size, 0, none⟩)) w' := fun w' => by kernel_rfl
  go_enter Try.func50, Try.ntmps50
  go_wp2_with (first | ((with_reducible refine is_load 26 _ rfl ?_); refine wpList_load_part rfl 26 _ rfl _ 0 rfl (fl xs) _ (by assumption) 16 HPQ.out.2 _ Try.underlying26 rfl (by kernel_rfl) (fl (intoL xs)) HPQ.out.1 ?_) | ((with_reducible refine is_store 26 (.tmp 2) (.tmp 5) rfl ?_); refine wpList_store_at rfl 26 (.tmp 2) (.tmp 5) rfl _ rfl (fl (intoL xs)) rfl (fl (zeros 16)) _ (by assumption) 16 (SZ) (by rw [fl_size, zeros_len]) (by kernel_rfl) (fl_one _) ?_))
  exact bodyPost_ret (v := .agg (fl (intoL xs))) (results_at (p := 2) (ty := 26) rfl _ _ _ (fl (intoL xs)) _ rfl R9 _ Try.underlying26 rfl 16 SZ (by kernel_rfl)) rfl ⟨rfl, B9.out⟩

theorem outOfCells_any (xs : List Nat) (hl : xs.length = 17) (w : World) :
    Calls Try.prog 51 #[.agg (fl xs)] w fun e w' => e = .returned (.agg (fl (outL xs))) ∧ Below w.heap.size w w' := by
  have A0 : At ((w.alloc (.cells (fl xs) 65)).alloc (.cells (fl (zeros 16)) 26)) w.heap.size (fl xs) 65 := (At.new w _ _).alloc _
  have R0 : At ((w.alloc (.cells (fl xs) 65)).alloc (.cells (fl (zeros 16)) 26)) (w.heap.size + 1) (fl (zeros 16)) 26 := At.last1 w _ _ _
  have B0 := Lib.hid (bnew (b0 w (.cells (fl xs) 65)) (.cells (fl (zeros 16)) 26))
  have hlen := outL_len hl
  have SZ : (fl (outL xs)).size = 16 := by rw [fl_size, hlen]
  have R9 := R0.setRow (fl (outL xs))
  have B9 := Lib.hid (bset B0.out (g := w.heap.size + 1) (by omega) (fl (outL xs)))
  have HH := Lib.hid hl
  have HP : (fl xs).extract 1 (1 + 16) = fl (outL xs) := fl_extract xs 1 (1 + 16)
  have HQ : 1 + 16 ≤ (fl xs).size := by rw [fl_size, hl]; omega
  have HPQ := Lib.hid (And.intro HP HQ)
  clear hl hlen HP HQ
  have hat : ∀ w', (Instr.arrayAt 26 (.slice (some ⟨w.heap.size, 1, none⟩) 16 16)).run Try.prog w' = .ok (.pointer (some ⟨w.heap.size, 1, none⟩)) w' := fun w' => by kernel_rfl
  go_enter Try.func51, Try.ntmps51
  go_wp2_with (first | ((with_reducible refine is_load 26 _ rfl ?_); refine wpList_load_part rfl 26 _ rfl _ 1 rfl (fl xs) _ (by assumption) 16 HPQ.out.2 _ Try.underlying26 rfl (by kernel_rfl) (fl (outL xs)) HPQ.out.1 ?_) | ((with_reducible refine is_store 26 (.tmp 2) (.tmp 5) rfl ?_); refine wpList_store_at rfl 26 (.tmp 2) (.tmp 5) rfl _ rfl (fl (outL xs)) rfl (fl (zeros 16)) _ (by assumption) 16 (SZ) (by rw [fl_size, zeros_len]) (by kernel_rfl) (fl_one _) ?_))
  exact bodyPost_ret (v := .agg (fl (outL xs))) (results_at (p := 2) (ty := 26) rfl _ _ _ (fl (outL xs)) _ rfl R9 _ Try.underlying26 rfl 16 SZ (by kernel_rfl)) rfl ⟨rfl, B9.out⟩

/-- a share behind a step -/
def stepC (cs is os : List Nat) (k : Nat) : Nat := holdB (difB (addB (nth cs k) (nth is k)) (nth os k))

def stepL (cs is os : List Nat) : List Nat := rowOf 16 fun k => stepC cs is os k

theorem stepL_len (cs is os : List Nat) : (stepL cs is os).length = 16 := rowOf_len _ _

theorem stepL_nth (cs is os : List Nat) {k : Nat} (hk : k < 16) : nth (stepL cs is os) k = stepC cs is os k := rowOf_nth 16 (fun k => stepC cs is os k) hk

theorem stepL_le (cs is os : List Nat) : ∀ x ∈ stepL cs is os, x ≤ 1065353216 := by
  intro x hx
  obtain ⟨k, -, rfl⟩ := rowOf_mem hx
  exact holdB_le _

theorem step_facts {c i o : Nat} (hc : c ≤ 1065353216) (hi : i ≤ 1073741824) (ho : o ≤ 1065353216) :
    floatBits .add .f32 c i = some (addB c i) ∧ floatBits .sub .f32 (addB c i) o = some (difB (addB c i) o) ∧ Sgn (difB (addB c i) o) := by
  have h1 := (add_eq (show c < 2139095040 by omega) (show i < 2139095040 by omega)).1
  have h2 : addB c i ≤ 1082130432 := by
    refine add_le (by omega) (by omega) ?_
    have a1 := rv_le (p := 23) hc
    have a2 := rv_le (p := 23) hi
    have a3 : rv 23 1065353216 + rv 23 1073741824 ≤ rv 23 1082130432 := by decide
    omega
  exact ⟨h1, dif_eq (by omega) (by omega), dif_sgn (by omega) (by omega)⟩

theorem hold_b (g0 g1 : Nat) (v : Nat) (hv : Sgn v) (w : World) (A0 : At w g0 #[.float .f32 0] 24) (A1 : At w g1 #[.float .f32 1065353216] 24) :
    Calls Try.prog 36 #[.float .f32 v, .pointer (some ⟨g0, 0, none⟩), .pointer (some ⟨g1, 0, none⟩)] w fun e w' => e = .returned (.float .f32 (holdB v)) ∧ Below w.heap.size w w' :=
  (hold_any g0 g1 v hv w A0 A1).mono fun _ _ h => ⟨h.1, by rw [h.2]; exact Below.refl _ _⟩

theorem flowed_any (cs is os : List Nat) (p b l : Nat) (hl : cs.length = 16) (hi : is.length = 16) (ho : os.length = 16) (hc : ∀ x ∈ cs, x ≤ 1065353216) (hib : ∀ x ∈ is, x ≤ 1073741824) (hob : ∀ x ∈ os, x ≤ 1065353216) (w : World) :
    Calls Try.prog 49 #[.agg (rd cs p b l), .agg (fl is), .agg (fl os)] w fun e w' => e = .returned (.agg (rd (stepL cs is os) p b l)) ∧ Below w.heap.size w w' := by
  have A0 : At ((((w.alloc (.cells (rd cs p b l) 28)).alloc (.cells (fl is) 26)).alloc (.cells (fl os) 26)).alloc (.cells (rd (zeros 16) 0 0 0) 28)) w.heap.size (rd cs p b l) 28 := (((At.new w _ _).alloc _).alloc _).alloc _
  have I0 : At ((((w.alloc (.cells (rd cs p b l) 28)).alloc (.cells (fl is) 26)).alloc (.cells (fl os) 26)).alloc (.cells (rd (zeros 16) 0 0 0) 28)) (w.heap.size + 1) (fl is) 26 := ((At.last1 w _ _ _).alloc _).alloc _
  have O0 : At ((((w.alloc (.cells (rd cs p b l) 28)).alloc (.cells (fl is) 26)).alloc (.cells (fl os) 26)).alloc (.cells (rd (zeros 16) 0 0 0) 28)) (w.heap.size + 1 + 1) (fl os) 26 := (At.last2 w _ _ _ _).alloc _
  have R0 : At ((((w.alloc (.cells (rd cs p b l) 28)).alloc (.cells (fl is) 26)).alloc (.cells (fl os) 26)).alloc (.cells (rd (zeros 16) 0 0 0) 28)) (w.heap.size + 1 + 1 + 1) (rd (zeros 16) 0 0 0) 28 := by
    have := At.new (((w.alloc (.cells (rd cs p b l) 28)).alloc (.cells (fl is) 26)).alloc (.cells (fl os) 26)) (rd (zeros 16) 0 0 0) 28
    rwa [World.size_alloc, World.size_alloc, World.size_alloc] at this
  have B0 := Lib.hid (bnew (bnew (bnew (b0 w (.cells (rd cs p b l) 28)) (.cells (fl is) 26)) (.cells (fl os) 26)) (.cells (rd (zeros 16) 0 0 0) 28))
  have HB := Lib.hid (And.intro hc (And.intro hib hob))
  clear hc hib hob
  go_enter Try.func49, Try.ntmps49
  go_wp2_with fail
  obtain ⟨w0, hw0⟩ : ∃ w0, w0 = ((((w.alloc (.cells (rd cs p b l) 28)).alloc (.cells (fl is) 26)).alloc (.cells (fl os) 26)).alloc (.cells (rd (zeros 16) 0 0 0) 28)) := ⟨_, rfl⟩
  rw [← hw0] at A0 I0 O0 R0 B0
  have e0 := holdBetween_any w0
  rw [hw0] at e0
  refine e0.mono ?_
  rw [← hw0]
  clear e0 hw0
  rintro e w1 ⟨rfl, rfl⟩
  have hsz := A0.lt
  have hsz2 := R0.lt
  have A1 := A0.step (boundsW_below w0)
  have I1 := I0.step (boundsW_below w0)
  have O1 := O0.step (boundsW_below w0)
  have R1 := R0.step (boundsW_below w0)
  have X1 := boundsW_0 w0
  have Y1 := boundsW_1 w0
  have B1 := Lib.hid (bthen B0.out (boundsW_below w0))
  generalize boundsW w0 = w1 at A1 I1 O1 R1 X1 Y1 B1 ⊢
  clear A0 I0 O0 R0 B0
  go_wp2_with ((with_reducible refine is_load 26 _ rfl ?_); refine wpList_load_part rfl 26 _ rfl _ 0 rfl (rd cs p b l) _ (by assumption) 16 (by rw [rd_size hl]; omega) _ Try.underlying26 rfl (by kernel_rfl) (fl cs) (rd_cars hl p b l) ?_)
  have BB1 := B1
  go_loopw [13] (fun i wr => ∃ k : Nat, k ≤ 16 ∧ i = .int .i64 k ∧ At wr w.heap.size (rd (mixTo (stepL cs is os) cs k) p b l) 28 ∧ At wr (w.heap.size + 1) (fl is) 26 ∧ At wr (w.heap.size + 1 + 1) (fl os) 26 ∧ At wr (w.heap.size + 1 + 1 + 1) (rd (zeros 16) 0 0 0) 28 ∧ At wr w0.heap.size #[.float .f32 0] 24 ∧ At wr (w0.heap.size + 1) #[.float .f32 1065353216] 24 ∧ Hid (Below w.heap.size w wr)) (fun i _ => 16 - (intOf i).toNat)
  case atStart => exact ⟨0, by omega, rfl, by rw [mixTo_zero]; exact A1, I1, O1, R1, X1, Y1, BB1⟩
  case round =>
    obtain ⟨k, hk, rfl, A4, I4, O4, R4, X4, Y4, B4⟩ := hrel
    clear A1 I1 O1 R1 X1 Y1 B1 BB1
    have hL := mixTo_len (stepL_len cs is os) hl hk
    by_cases hlt : k < 16
    · have sf := step_facts (nth_le HB.out.1 k) (nth_le HB.out.2.1 k) (nth_le HB.out.2.2 k)
      have hidx : ∀ W : World, (Instr.index 26 (.agg (fl cs)) (.int .i64 (k : Int))).run Try.prog W = .ok (.float .f32 (nth cs k)) W := fun W => run_index_fl W 26 24 16 cs k Try.underlying26 Try.underlying24 (by kernel_rfl) hlt hl.symm
      have f1 : ∀ t w, (binOp .add t (.float .f32 (nth cs k)) (.float .f32 (nth is k))).run Try.prog w = .ok (.float .f32 (addB (nth cs k) (nth is k))) w := fun t w => run_float_arith w .add t .f32 _ _ _ sf.1
      have f2 : ∀ t w, (binOp .sub t (.float .f32 (addB (nth cs k) (nth is k))) (.float .f32 (nth os k))).run Try.prog w = .ok (.float .f32 (difB (addB (nth cs k) (nth is k)) (nth os k))) w := fun t w => run_float_arith w .sub t .f32 _ _ _ sf.2.1
      have SG := Lib.hid sf.2.2
      clear sf
      have di := fl_get (xs := is) (k := k) (by omega)
      have dq := fl_get (xs := os) (k := k) (by omega)
      have hC := Cb.const wr
      go_wp2
      refine wp_region_cb_tail 14 (by kernel_rfl) (by kernel_rfl) ?_
      simp only [List.take, List.drop]
      repeat (first
        | go_big_quiet_skip
        | (go_big_quiet_want; first
          | (refine q_cell 24 _ rfl _ Try.underlying24 _ rfl I4 _ (by assumption) ?_; go_simp; go_big_quiet_on)
          | (refine q_cell 24 _ rfl _ Try.underlying24 _ rfl O4 _ (by assumption) ?_; go_simp; go_big_quiet_on)
          | (go_big_quiet_op; go_big_quiet_on)
          | (go_big_quiet_op; apply Exists.intro; refine ⟨fun w' hw' => ?_, ?_⟩; (go_at_call 36; exact (hold_b _ _ (difB (addB (nth cs k) (nth is k)) (nth os k)) SG.out _ (X4.step hw') (Y4.step hw')).mono fun _ _ h => ⟨h.1, hw'.step h.2⟩); go_big_quiet_on)))
      refine wpQuiet_nil ?_
      intro w9 hw9
      have M5 := A4.step hw9
      have I5 := I4.step hw9
      have O5 := O4.step hw9
      have R5 := R4.step hw9
      have X5 := X4.step hw9
      have Y5 := Y4.step hw9
      have B5 := Lib.hid (bthen B4.out hw9)
      clear A4 I4 O4 R4 X4 Y4 B4 hw9 hC di dq f1 f2 hidx
      have G := run_store_one (P := Try.prog) w9 w.heap.size k 28 (rd (mixTo (stepL cs is os) cs k) p b l) (.float .f32 (stepC cs is os k)) M5 (by rw [rd_size hL]; omega) rfl
      rw [rd_put hL p b l hlt, ← stepL_nth cs is os hlt, mixTo_set (stepL_len cs is os) hl hlt, stepL_nth cs is os hlt, stepC] at G
      have M6 := M5.setRow (rd (mixTo (stepL cs is os) cs (k + 1)) p b l)
      have I6 := I5.setRow_other (k := w.heap.size) (by omega) (rd (mixTo (stepL cs is os) cs (k + 1)) p b l)
      have O6 := O5.setRow_other (k := w.heap.size) (by omega) (rd (mixTo (stepL cs is os) cs (k + 1)) p b l)
      have R6 := R5.setRow_other (k := w.heap.size) (by omega) (rd (mixTo (stepL cs is os) cs (k + 1)) p b l)
      have X6 := X5.setRow_other (k := w.heap.size) (by omega) (rd (mixTo (stepL cs is os) cs (k + 1)) p b l)
      have Y6 := Y5.setRow_other (k := w.heap.size) (by omega) (rd (mixTo (stepL cs is os) cs (k + 1)) p b l)
      have B6 := Lib.hid (bset B5.out (g := w.heap.size) (Nat.le_refl _) (rd (mixTo (stepL cs is os) cs (k + 1)) p b l))
      clear M5 I5 O5 R5 X5 Y5 B5 hL
      go_wp2
      exact ⟨⟨k + 1, by omega, by go_num, M6, I6, O6, R6, X6, Y6, B6⟩, by simp [intOf]; omega⟩
    · obtain rfl : k = 16 := by omega
      rw [mixTo_all (stepL_len cs is os) hl] at A4
      have SZ : (rd (stepL cs is os) p b l).size = 19 := rd_size (stepL_len cs is os) p b l
      have R9 := R4.setRow (rd (stepL cs is os) p b l)
      have B9 := Lib.hid (bset B4.out (g := w.heap.size + 1 + 1 + 1) (by omega) (rd (stepL cs is os) p b l))
      clear I4 O4 X4 Y4
      go_wp2_with (first | ((with_reducible refine is_load 28 _ rfl ?_); refine wpList_load_at rfl 28 _ rfl _ rfl (rd (stepL cs is os) p b l) _ (by assumption) 19 (SZ) _ Try.underlying28 rfl (by kernel_rfl) ?_) | ((with_reducible refine is_store 28 (.tmp 6) (.tmp 32) rfl ?_); refine wpList_store_at rfl 28 (.tmp 6) (.tmp 32) rfl _ rfl (rd (stepL cs is os) p b l) rfl (rd (zeros 16) 0 0 0) _ (by assumption) 19 (SZ) (rd_size (zeros_len 16) _ _ _) (by kernel_rfl) (fl_one _) ?_))
      exact bodyPost_ret (v := .agg (rd (stepL cs is os) p b l)) (results_at (p := 6) (ty := 28) rfl _ _ _ (rd (stepL cs is os) p b l) _ rfl R9 _ Try.underlying28 rfl 19 SZ (by kernel_rfl)) rfl ⟨rfl, B9.out⟩
end Go.Proofs.Ytiaflomabgnmaaa
