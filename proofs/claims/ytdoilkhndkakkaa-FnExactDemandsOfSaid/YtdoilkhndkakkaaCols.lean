/-
  CONTRACTS: sums of columns of amounts; finite numbers.
-/
import Derived.Test.YtdoilkhndkakkaaEven
import Derived.Test.YtdoilkhndkakkaaTail
namespace Go.Proofs.Ytdoilkhndkakkaa
open Go Go.RowKit
set_option maxRecDepth 100000

/-- the sum of the first m rows, in column c -/
def csum (fs : List Nat) (c : Nat) : Nat → Nat
  | 0 => 0
  | 1 => nth fs c
  | m + 2 => addB (csum fs c (m + 1)) (nth fs ((m + 1) * 4 + c))
def colT (fs : List Nat) : List Nat := rowOf 4 fun c => csum fs c 4
/-- m rows summed, and k numbers of one row more -/
def colP (fs : List Nat) (m k : Nat) : List Nat := rowOf 4 fun c => if c < k then csum fs c (m + 1) else csum fs c m
theorem colT_len (fs : List Nat) : (colT fs).length = 4 := rowOf_len _ _
theorem colP_len (fs : List Nat) (m k : Nat) : (colP fs m k).length = 4 := rowOf_len _ _
theorem colP_nth (fs : List Nat) {m k : Nat} (hk : k < 4) : nth (colP fs m k) k = csum fs k m := by
  have := rowOf_nth 4 (fun c => if c < k then csum fs c (m + 1) else csum fs c m) hk
  unfold colP; rw [this, if_neg (Nat.lt_irrefl _)]
theorem colP_set (fs : List Nat) {m k : Nat} (hk : k < 4) : (colP fs m k).set k (csum fs k (m + 1)) = colP fs m (k + 1) := by
  unfold colP
  refine rowOf_set hk (if_pos (by omega)) fun c hc hne => ?_
  by_cases h : c < k
  · rw [if_pos h, if_pos (by omega)]
  · rw [if_neg h, if_neg (by omega)]
theorem colP_next (fs : List Nat) (m : Nat) : colP fs m 4 = colP fs (m + 1) 0 := by
  unfold colP
  exact rowOf_congr fun c hc => by rw [if_pos hc, if_neg (by omega)]
theorem colP_all (fs : List Nat) : colP fs 4 0 = colT fs := by
  unfold colP colT
  exact rowOf_congr fun c hc => if_neg (by omega)
theorem colP_one {fs : List Nat} (hl : fs.length = 16) : colP fs 1 0 = row4 fs 0 := by
  apply List.ext_getElem
  · rw [colP_len, row4_len hl (by omega)]
  · intro c h1 h2
    rw [colP_len] at h1
    have e1 : nth (colP fs 1 0) c = nth fs c := by
      have := rowOf_nth 4 (fun c => if c < 0 then csum fs c (1 + 1) else csum fs c 1) h1
      unfold colP; rw [this, if_neg (by omega)]; rfl
    have e2 := row4_nth hl 0 h1
    rw [Nat.mul_zero, Nat.zero_add] at e2
    rw [← e2] at e1
    unfold nth at e1
    rwa [List.getD_eq_getElem?_getD, List.getD_eq_getElem?_getD, List.getElem?_eq_getElem (by rw [colP_len]; exact h1), List.getElem?_eq_getElem h2] at e1
theorem colT_nth (fs : List Nat) {k : Nat} (hk : k < 4) : nth (colT fs) k = csum fs k 4 := rowOf_nth 4 (fun c => csum fs c 4) hk
theorem csum_amt {fs : List Nat} (h : ∀ p, p < 16 → nth fs p ≤ 2139095040) {c : Nat} (hc : c < 4) : ∀ m, m ≤ 4 → csum fs c m ≤ 2139095040
  | 0, _ => by unfold csum; omega
  | 1, _ => h c (by omega)
  | m + 2, hm => (add_any (csum_amt h hc (m + 1) (by omega)) (h _ (by omega))).2
theorem csum_add {fs : List Nat} (h : ∀ p, p < 16 → nth fs p ≤ 2139095040) {c : Nat} (hc : c < 4) {m : Nat} (h0 : 0 < m) (hm : m < 4) : floatBits .add .f32 (csum fs c m) (nth fs (m * 4 + c)) = some (csum fs c (m + 1)) := by
  obtain ⟨n, rfl⟩ : ∃ n, m = n + 1 := ⟨m - 1, by omega⟩
  exact (add_any (csum_amt h hc (n + 1) (by omega)) (h _ (by omega))).1

/-- the first m of four numbers are finite -/
def finTo (xs : List Nat) (m : Nat) : Bool := (List.range m).all fun k => amtB (nth xs k)
theorem finTo_succ (xs : List Nat) (m : Nat) : finTo xs (m + 1) = (finTo xs m && amtB (nth xs m)) := by
  unfold finTo; rw [List.range_succ, List.all_append]; simp
theorem finTo_no {xs : List Nat} {m k : Nat} (hk : k < m) (h : amtB (nth xs k) = false) : finTo xs m = false := by
  rw [Bool.eq_false_iff]
  intro h2
  have := List.all_eq_true.1 h2 k (by simpa using hk)
  rw [h] at this; cases this
theorem order_above {r y : Nat} (hr : r < 2139095040) (h0 : 0 < r) (hy : y ≤ 2139095040) : FloatKind.f32.format.order y (2147483648 + r) = some .gt := by
  show S32.order y (2147483648 + r) = _
  by_cases cy : y = 2139095040
  · subst cy
    obtain ⟨m, i, h1, -, -⟩ := read_fin S32 true (r := r) (by rw [s_inf]; omega)
    rw [word_true, s_sw] at h1
    unfold Ieee.Format.order; rw [read_inf_pos, h1]; rfl
  · have := order_fin S32 false true (r := y) (q := r) (by rw [s_inf]; omega) (by rw [s_inf]; omega)
    rw [word_true, word_false, s_sw] at this
    rw [this]
    have hp := rv_pos (p := S32.fractionBits) h0
    rw [Int.compare_eq_gt.2]
    show -((rv S32.fractionBits r : Nat) : Int) < ((rv S32.fractionBits y : Nat) : Int)
    omega

theorem isFinite_amt (a : Nat) (ha : a ≤ 2139095040) (w : World) : Calls Try.prog 82 #[.float .f32 a] w (Rd (.bool (amtB a)) w) := by
  have h1 : (FloatKind.f32.format.order a 4286578687 == some .gt || FloatKind.f32.format.order a 4286578687 == some .eq) = true := by
    have := order_above (r := 2139095039) (y := a) (by omega) (by omega) ha
    rw [show (2147483648 + 2139095039 : Nat) = 4286578687 from rfl] at this
    rw [this]; rfl
  have h2 := le_amt (x := a) (y := 2139095039) ha (by omega)
  rw [show decide (a ≤ 2139095039) = amtB a from by unfold amtB; exact decide_eq_decide.2 (by omega)] at h2
  go_enter Try.func82, Try.ntmps82
  go_wp2
  go_ret
  exact Rd.mk0

theorem areFinite_amt (xs : List Nat) (hl : xs.length = 4) (hc : ∀ k, k < 4 → nth xs k ≤ 2139095040) (w : World) :
    Calls Try.prog 67 #[.agg (fl xs)] w fun e w' => e = .returned (.bool (finTo xs 4)) ∧ Below w.heap.size w w' := by
  have A0 := At.new w (fl xs) 29
  have B0 := Lib.hid (b0 w (.cells (fl xs) 29))
  have SZ : (fl xs).size = 4 := by rw [fl_size, hl]
  go_enter Try.func67, Try.ntmps67
  go_wp2_with (((with_reducible refine is_load 29 _ rfl ?_); refine wpList_load_at rfl 29 _ rfl _ rfl (fl xs) _ (by assumption) 4 (SZ) _ Try.underlying29 rfl (by kernel_rfl) ?_))
  go_loopw [6] (fun i' wr => ∃ k : Nat, k ≤ 4 ∧ i' = .int .i64 k ∧ Hid (finTo xs k = true) ∧ Hid (Below w.heap.size w wr)) (fun i' _ => 4 - (intOf i').toNat)
  case atStart => exact ⟨0, by omega, rfl, Lib.hid rfl, B0⟩
  case round =>
    clear A0 B0
    obtain ⟨k, hk, rfl, hall, B1⟩ := hrel
    by_cases hlt : k < 4
    · have hi : ∀ W, (Instr.index 29 (.agg (fl xs)) (.int .i64 k)).run Try.prog W = .ok (.float .f32 (nth xs k)) W := fun W =>
        run_index_fl W 29 22 4 xs k Try.underlying29 Try.underlying22 (by kernel_rfl) hlt hl.symm
      have hx := hc k hlt
      have s2 : IntKind.i64.wrap ((k : Int) + 1) = (k : Int) + 1 := IntWalk.i64_in _ (by omega)
      cases hs : amtB (nth xs k)
      · have hno := finTo_no (m := 4) hlt hs
        go_wp2_with (go_at_call 82; refine (isFinite_amt _ hx _).mono ?_; rw [hs]; rintro e w' ⟨rfl, n', rfl⟩)
        go_ret
        exact ⟨by rw [hno]; rfl, bdrew B1.out _⟩
      · go_wp2_with (go_at_call 82; refine (isFinite_amt _ hx _).mono ?_; rw [hs]; rintro e w' ⟨rfl, n', rfl⟩)
        exact ⟨⟨k + 1, by omega, by go_num, Lib.hid (by rw [finTo_succ, hall.out, hs]; rfl), Lib.hid (bdrew B1.out _)⟩, by simp [intOf]; omega⟩
    · obtain rfl : k = 4 := by omega
      go_wp2
      go_ret
      exact ⟨by rw [hall.out]; rfl, B1.out⟩

def vFour (xs : List Nat) : List Nat × Int := if finTo xs 4 = true then (xs, 0) else (zeros 4, 4)
theorem zlit4 : (#[.float .f32 0, .float .f32 0, .float .f32 0, .float .f32 0] : Array Value) = fl (zeros 4) := rfl
set_option maxHeartbeats 400000 in
theorem l03Four_amt (xs : List Nat) (hl : xs.length = 4) (hc : ∀ k, k < 4 → nth xs k ≤ 2139095040) (w : World) :
    Calls Try.prog 65 #[.agg (fl xs)] w fun e w' => e = .returned (.tuple #[.agg (fl (vFour xs).1), .int .i64 (vFour xs).2]) ∧ Below w.heap.size w w' := by
  have A0 : At ((w.alloc (.cells (fl xs) 29)).alloc (.cells (#[.float .f32 0, .float .f32 0, .float .f32 0, .float .f32 0]) 29)) w.heap.size (fl xs) 29 := (At.new w _ _).alloc _
  have R0 : At ((w.alloc (.cells (fl xs) 29)).alloc (.cells (#[.float .f32 0, .float .f32 0, .float .f32 0, .float .f32 0]) 29)) (w.heap.size + 1) (#[.float .f32 0, .float .f32 0, .float .f32 0, .float .f32 0]) 29 := At.last1 w _ _ _
  have B0 := Lib.hid (bnew (b0 w (.cells (fl xs) 29)) (.cells (#[.float .f32 0, .float .f32 0, .float .f32 0, .float .f32 0]) 29))
  have SZ : (fl xs).size = 4 := by rw [fl_size, hl]
  go_enter Try.func65, Try.ntmps65
  go_wp2
  go_loopw [4] (fun i' wr => ∃ k : Nat, k ≤ 4 ∧ i' = .int .i64 k ∧ Hid (finTo xs k = true) ∧ At wr w.heap.size (fl xs) 29 ∧ At wr (w.heap.size + 1) (#[.float .f32 0, .float .f32 0, .float .f32 0, .float .f32 0]) 29 ∧ Hid (Below w.heap.size w wr)) (fun i' _ => 4 - (intOf i').toNat)
  case atStart => exact ⟨0, by omega, rfl, Lib.hid rfl, A0, R0, B0⟩
  case round =>
    clear A0 R0 B0
    obtain ⟨k, hk, rfl, hall, A4, R4, B4⟩ := hrel
    by_cases hlt : k < 4
    · have hx := hc k hlt
      have s2 : IntKind.i64.wrap ((k : Int) + 1) = (k : Int) + 1 := IntWalk.i64_in _ (by omega)
      have hff : finB (nth xs k) = amtB (nth xs k) := by unfold finB amtB; exact decide_eq_decide.2 (by omega)
      go_wp2_with (((with_reducible refine is_load 22 _ rfl ?_); refine wpList_load_cell rfl 22 _ rfl _ _ rfl (fl xs) _ A4 _ Try.underlying22 rfl (.float .f32 (nth xs k)) (fl_get (by omega)) ?_))
      refine (l01Finite_any (nth xs k) (by omega) _).mono ?_
      rw [hff]
      rintro e w5 ⟨rfl, n5, rfl⟩
      have A5 := A4.drewN n5
      have R5 := R4.drewN n5
      have B5 := Lib.hid (bdrew B4.out n5)
      generalize hw5 : World.drewN _ _ = w5 at A5 R5 B5 ⊢
      clear A4 R4 B4 hw5
      cases hs : amtB (nth xs k)
      · have ev : vFour xs = (zeros 4, 4) := by unfold vFour; rw [finTo_no (m := 4) hlt hs]; rfl
        have EQ : Ending.returned (Value.tuple #[.agg (#[.float .f32 0, .float .f32 0, .float .f32 0, .float .f32 0]), .int .i64 4]) = .returned (.tuple #[.agg (fl (vFour xs).1), .int .i64 (vFour xs).2]) := by rw [ev]; rfl
        have R9 := R5.setRow (#[.float .f32 0, .float .f32 0, .float .f32 0, .float .f32 0])
        have B9 := Lib.hid (bset B5.out (g := w.heap.size + 1) (by omega) (#[.float .f32 0, .float .f32 0, .float .f32 0, .float .f32 0]))
        clear ev
        go_wp2_with (((with_reducible refine is_store 29 (.tmp 2) (.tmp 14) rfl ?_); refine wpList_store_at rfl 29 (.tmp 2) (.tmp 14) rfl _ rfl (#[.float .f32 0, .float .f32 0, .float .f32 0, .float .f32 0]) rfl (#[.float .f32 0, .float .f32 0, .float .f32 0, .float .f32 0]) _ R5 4 (rfl) (rfl) (by kernel_rfl) ((by rw [zlit4]; exact fl_one _)) ?_))
        exact bodyPost_ret (v := .tuple #[.agg (#[.float .f32 0, .float .f32 0, .float .f32 0, .float .f32 0]), .int .i64 4]) (results_at_tmp (p := 2) (ty := 29) rfl _ _ _ (#[.float .f32 0, .float .f32 0, .float .f32 0, .float .f32 0]) _ (.int .i64 4) rfl rfl R9 _ Try.underlying29 rfl 4 (rfl) (by kernel_rfl)) rfl ⟨EQ, B9.out⟩
      · go_wp2_with fail
        exact ⟨⟨k + 1, by omega, by go_num, Lib.hid (by rw [finTo_succ, hall.out, hs]; rfl), A5, R5, B5⟩, by simp [intOf]; omega⟩
    · obtain rfl : k = 4 := by omega
      have ev : vFour xs = (xs, 0) := by unfold vFour; rw [hall.out]; rfl
      have EQ : Ending.returned (Value.tuple #[.agg (fl xs), .int .i64 0]) = .returned (.tuple #[.agg (fl (vFour xs).1), .int .i64 (vFour xs).2]) := by rw [ev]
      have R9 := R4.setRow (fl xs)
      have B9 := Lib.hid (bset B4.out (g := w.heap.size + 1) (by omega) (fl xs))
      clear ev
      go_wp2_with (first | ((with_reducible refine is_load 29 _ rfl ?_); refine wpList_load_at rfl 29 _ rfl _ rfl (fl xs) _ A4 4 (SZ) _ Try.underlying29 rfl (by kernel_rfl) ?_) | ((with_reducible refine is_store 29 (.tmp 2) (.tmp 15) rfl ?_); refine wpList_store_at rfl 29 (.tmp 2) (.tmp 15) rfl _ rfl (fl xs) rfl (#[.float .f32 0, .float .f32 0, .float .f32 0, .float .f32 0]) _ R4 4 (SZ) (rfl) (by kernel_rfl) (fl_one _) ?_))
      exact bodyPost_ret (v := .tuple #[.agg (fl xs), .int .i64 0]) (results_at_tmp (p := 2) (ty := 29) rfl _ _ _ (fl xs) _ (.int .i64 0) rfl rfl R9 _ Try.underlying29 rfl 4 (SZ) (by kernel_rfl)) rfl ⟨EQ, B9.out⟩

set_option maxHeartbeats 1000000 in
theorem OutFlows_amt (fs : List Nat) (hl : fs.length = 16) (h : ∀ p, p < 16 → nth fs p ≤ 2139095040) (w : World) :
    Calls Try.prog 41 #[.agg (fl fs)] w fun e w' => e = .returned (.agg (fl (colT fs))) ∧ Below w.heap.size w w' := by
  have A0 : At (((w.alloc (.cells (fl fs) 28)).alloc (.cells (#[.float .f32 0, .float .f32 0, .float .f32 0, .float .f32 0]) 29)).alloc (.cells (#[.float .f32 0, .float .f32 0, .float .f32 0, .float .f32 0]) 29)) w.heap.size (fl fs) 28 := ((At.new w _ _).alloc _).alloc _
  have R0 : At (((w.alloc (.cells (fl fs) 28)).alloc (.cells (#[.float .f32 0, .float .f32 0, .float .f32 0, .float .f32 0]) 29)).alloc (.cells (#[.float .f32 0, .float .f32 0, .float .f32 0, .float .f32 0]) 29)) (w.heap.size + 1) (#[.float .f32 0, .float .f32 0, .float .f32 0, .float .f32 0]) 29 := (At.last1 w _ _ _).alloc _
  have P0 : At (((w.alloc (.cells (fl fs) 28)).alloc (.cells (#[.float .f32 0, .float .f32 0, .float .f32 0, .float .f32 0]) 29)).alloc (.cells (#[.float .f32 0, .float .f32 0, .float .f32 0, .float .f32 0]) 29)) (w.heap.size + 1 + 1) (#[.float .f32 0, .float .f32 0, .float .f32 0, .float .f32 0]) 29 := At.last2 w _ _ _ _
  have B0 := Lib.hid (bnew (bnew (b0 w (.cells (fl fs) 28)) (.cells (#[.float .f32 0, .float .f32 0, .float .f32 0, .float .f32 0]) 29)) (.cells (#[.float .f32 0, .float .f32 0, .float .f32 0, .float .f32 0]) 29))
  have SP : (fl (colT fs)).size = 4 := by rw [fl_size, colT_len]
  have H := Lib.hid h
  clear h
  go_enter Try.func41, Try.ntmps41
  go_wp2
  go_loopw [5] (fun i' wr => ∃ k : Nat, k ≤ 4 ∧ i' = .int .i64 k ∧ At wr w.heap.size (fl fs) 28 ∧ At wr (w.heap.size + 1) (#[.float .f32 0, .float .f32 0, .float .f32 0, .float .f32 0]) 29 ∧ At wr (w.heap.size + 1 + 1) (fl (cpN 4 (colT fs) k)) 29 ∧ Hid (Below w.heap.size w wr)) (fun i' _ => 4 - (intOf i').toNat)
  case atStart => exact ⟨0, by omega, rfl, A0, R0, P0, B0⟩
  case round =>
    clear A0 R0 P0 B0
    obtain ⟨k, hk, rfl, A4, R4, P4, B4⟩ := hrel
    by_cases hlt : k < 4
    · have s2 : IntKind.i64.wrap ((k : Int) + 1) = (k : Int) + 1 := IntWalk.i64_in _ (by omega)
      have d0 : (fl fs)[k]? = some (.float .f32 (nth fs k)) := fl_get (by omega)
      have d1 : (fl fs)[4 + k]? = some (.float .f32 (nth fs (1 * 4 + k))) := by rw [show 1 * 4 + k = 4 + k from by omega]; exact fl_get (by omega)
      have d2 : (fl fs)[8 + k]? = some (.float .f32 (nth fs (2 * 4 + k))) := by rw [show 2 * 4 + k = 8 + k from by omega]; exact fl_get (by omega)
      have d3 : (fl fs)[12 + k]? = some (.float .f32 (nth fs (3 * 4 + k))) := by rw [show 3 * 4 + k = 12 + k from by omega]; exact fl_get (by omega)
      have a1 : ∀ t W, (binOp .add t (.float .f32 (nth fs k)) (.float .f32 (nth fs (1 * 4 + k)))).run Try.prog W = .ok (.float .f32 (csum fs k 2)) W := fun t W => run_float_arith W .add t .f32 _ _ _ (csum_add H.out hlt (m := 1) (by omega) (by omega))
      have a2 : ∀ t W, (binOp .add t (.float .f32 (csum fs k 2)) (.float .f32 (nth fs (2 * 4 + k)))).run Try.prog W = .ok (.float .f32 (csum fs k 3)) W := fun t W => run_float_arith W .add t .f32 _ _ _ (csum_add H.out hlt (m := 2) (by omega) (by omega))
      have a3 : ∀ t W, (binOp .add t (.float .f32 (csum fs k 3)) (.float .f32 (nth fs (3 * 4 + k)))).run Try.prog W = .ok (.float .f32 (csum fs k 4)) W := fun t W => run_float_arith W .add t .f32 _ _ _ (csum_add H.out hlt (m := 3) (by omega) (by omega))
      have hC := Cb.const wr
      go_wp2
      refine wp_region_cb_tail 21 (by kernel_rfl) (by kernel_rfl) ?_
      simp only [List.take, List.drop]
      repeat (first
        | go_big_quiet_skip
        | (go_big_quiet_want; first
          | (refine q_cell 22 _ rfl _ Try.underlying22 _ rfl A4 _ d0 ?_; go_simp; go_big_quiet_on)
          | (refine q_cell 22 _ rfl _ Try.underlying22 _ rfl A4 _ d1 ?_; go_simp; go_big_quiet_on)
          | (refine q_cell 22 _ rfl _ Try.underlying22 _ rfl A4 _ d2 ?_; go_simp; go_big_quiet_on)
          | (refine q_cell 22 _ rfl _ Try.underlying22 _ rfl A4 _ d3 ?_; go_simp; go_big_quiet_on)
          | (go_big_quiet_op; go_big_quiet_on)))
      refine wpQuiet_nil ?_
      intro w9 hw9
      have A6 := A4.step hw9
      have R6 := R4.step hw9
      have P6 := P4.step hw9
      have B6 := Lib.hid (bthen B4.out hw9)
      clear A4 R4 P4 B4 hw9 hC d0 d1 d2 d3 a1 a2 a3
      have A7 := A6.setRow_other (k := w.heap.size + 1 + 1) (by omega) (fl (cpN 4 (colT fs) (k + 1)))
      have R7 := R6.setRow_other (k := w.heap.size + 1 + 1) (by omega) (fl (cpN 4 (colT fs) (k + 1)))
      have P7 := P6.setRow (fl (cpN 4 (colT fs) (k + 1)))
      have B7 := Lib.hid (bset B6.out (g := w.heap.size + 1 + 1) (by omega) (fl (cpN 4 (colT fs) (k + 1))))
      go_wp2_with (((with_reducible refine is_store 22 (.tmp 28) (.tmp 27) rfl ?_); refine wpList_store_cell rfl 22 (.tmp 28) (.tmp 27) rfl _ _ rfl (.float .f32 (csum fs k 4)) rfl (fl (cpN 4 (colT fs) k)) _ P6 (by rw [fl_size, cpN_len (colT_len _) _ (by omega)]; omega) (by kernel_rfl) rfl (fl (cpN 4 (colT fs) (k + 1))) (by rw [fl_set, ← colT_nth fs hlt, cpN_set (colT_len _) hlt]) ?_))
      exact ⟨⟨k + 1, by omega, by go_num, A7, R7, P7, B7⟩, by simp [intOf]; omega⟩
    · obtain rfl : k = 4 := by omega
      rw [cpN_all (colT_len _)] at P4
      have R9 := R4.setRow (fl (colT fs))
      have B9 := Lib.hid (bset B4.out (g := w.heap.size + 1) (by omega) (fl (colT fs)))
      go_wp2_with (first | ((with_reducible refine is_load 29 _ rfl ?_); refine wpList_load_at rfl 29 _ rfl _ rfl (fl (colT fs)) _ P4 4 (SP) _ Try.underlying29 rfl (by kernel_rfl) ?_) | ((with_reducible refine is_store 29 (.tmp 2) (.tmp 30) rfl ?_); refine wpList_store_at rfl 29 (.tmp 2) (.tmp 30) rfl _ rfl (fl (colT fs)) rfl (#[.float .f32 0, .float .f32 0, .float .f32 0, .float .f32 0]) _ R4 4 (SP) (rfl) (by kernel_rfl) (fl_one _) ?_))
      exact bodyPost_ret (v := .agg (fl (colT fs))) (results_at (p := 2) (ty := 29) rfl _ _ _ (fl (colT fs)) _ rfl R9 _ Try.underlying29 rfl 4 SP (by kernel_rfl)) rfl ⟨rfl, B9.out⟩

set_option maxHeartbeats 1000000 in
theorem l03Columns_amt (g : Nat) (fs : List Nat) (T : TypeId) (hl : fs.length = 16) (h : ∀ p, p < 16 → nth fs p ≤ 2139095040) (w : World) (hA : At w g (fl fs) T) :
    Calls Try.prog 66 #[.pointer (some ⟨g, 0, none⟩)] w fun e w' => e = .returned (.agg (fl (colT fs))) ∧ Below w.heap.size w w' := by
  have A0 : At ((w.alloc (.cells (#[.float .f32 0, .float .f32 0, .float .f32 0, .float .f32 0]) 29)).alloc (.cells (#[.float .f32 0, .float .f32 0, .float .f32 0, .float .f32 0]) 23)) g (fl fs) T := (hA.alloc _).alloc _
  have R0 : At ((w.alloc (.cells (#[.float .f32 0, .float .f32 0, .float .f32 0, .float .f32 0]) 29)).alloc (.cells (#[.float .f32 0, .float .f32 0, .float .f32 0, .float .f32 0]) 23)) w.heap.size (#[.float .f32 0, .float .f32 0, .float .f32 0, .float .f32 0]) 29 := (At.new w _ _).alloc _
  have P0 : At ((w.alloc (.cells (#[.float .f32 0, .float .f32 0, .float .f32 0, .float .f32 0]) 29)).alloc (.cells (#[.float .f32 0, .float .f32 0, .float .f32 0, .float .f32 0]) 23)) (w.heap.size + 1) (#[.float .f32 0, .float .f32 0, .float .f32 0, .float .f32 0]) 23 := At.last1 w _ _ _
  have B0 := Lib.hid (bnew (b0 w (.cells (#[.float .f32 0, .float .f32 0, .float .f32 0, .float .f32 0]) 29)) (.cells (#[.float .f32 0, .float .f32 0, .float .f32 0, .float .f32 0]) 23))
  have SP : (fl (colT fs)).size = 4 := by rw [fl_size, colT_len]
  have SF : (fl fs).size = 16 := by rw [fl_size, hl]
  have glt : g < w.heap.size := hA.lt
  have P1 := P0.setRow (fl (colP fs 1 0))
  have A1 := A0.setRow_other (k := w.heap.size + 1) (by omega) (fl (colP fs 1 0))
  have R1 := R0.setRow_other (k := w.heap.size + 1) (by omega) (fl (colP fs 1 0))
  have B1 := Lib.hid (bset B0.out (g := w.heap.size + 1) (by omega) (fl (colP fs 1 0)))
  have H := Lib.hid h
  have A00 : At (w.alloc (.cells (#[.float .f32 0, .float .f32 0, .float .f32 0, .float .f32 0]) 29)) g (fl fs) T := hA.alloc _
  clear h
  go_enter Try.func66, Try.ntmps66
  go_wp2_with (first | ((with_reducible refine is_load 23 _ rfl ?_); refine wpList_load_part rfl 23 _ rfl _ _ rfl (fl fs) _ A00 4 (by rw [SF]; omega) _ Try.underlying23 rfl (by kernel_rfl) (fl (colP fs 1 0)) (by rw [colP_one hl]; exact fl_row hl (k := 0) (by omega) rfl) ?_) | ((with_reducible refine is_store 23 (.tmp 3) (.tmp 9) rfl ?_); refine wpList_store_at rfl 23 (.tmp 3) (.tmp 9) rfl _ rfl (fl (colP fs 1 0)) rfl (#[.float .f32 0, .float .f32 0, .float .f32 0, .float .f32 0]) _ P0 4 (by rw [fl_size, colP_len]) (rfl) (by kernel_rfl) (fl_one _) ?_))
  go_loopw [4] (fun i' wr => ∃ m : Nat, 1 ≤ m ∧ m ≤ 4 ∧ i' = .int .i64 m ∧ At wr g (fl fs) T ∧ At wr w.heap.size (#[.float .f32 0, .float .f32 0, .float .f32 0, .float .f32 0]) 29 ∧ At wr (w.heap.size + 1) (fl (colP fs m 0)) 23 ∧ Hid (Below w.heap.size w wr)) (fun i' _ => 4 - (intOf i').toNat)
  case atStart => exact ⟨1, by omega, by omega, rfl, A1, R1, P1, B1⟩
  case round =>
    clear A0 R0 P0 B0 A1 R1 P1 B1 A00 hA
    obtain ⟨m, hm1, hm4, rfl, A4, R4, P4, B4⟩ := hrel
    by_cases hlm : m < 4
    · have s2 : IntKind.i64.wrap ((m : Int) + 1) = (m : Int) + 1 := IntWalk.i64_in _ (by omega)
      have hkd : decide ((m : Int) < 4) = true := decide_eq_true (by omega)
      go_wp2
      go_loopw [5] (fun i' wr' => ∃ k : Nat, k ≤ 4 ∧ i' = .int .i64 k ∧ At wr' g (fl fs) T ∧ At wr' w.heap.size (#[.float .f32 0, .float .f32 0, .float .f32 0, .float .f32 0]) 29 ∧ At wr' (w.heap.size + 1) (fl (colP fs m k)) 23 ∧ Hid (Below w.heap.size w wr')) (fun i' _ => 4 - (intOf i').toNat)
      case atStart => exact ⟨0, by omega, rfl, A4, R4, P4, B4⟩
      case round =>
        clear A4 R4 P4 B4
        obtain ⟨k, hk, rfl, A4, R4, P4, B4⟩ := hrel
        by_cases hlt : k < 4
        · have s3 : IntKind.i64.wrap ((k : Int) + 1) = (k : Int) + 1 := IntWalk.i64_in _ (by omega)
          have dF : (fl fs)[m * 4 + k]? = some (.float .f32 (nth fs (m * 4 + k))) := fl_get (by omega)
          have dP : (fl (colP fs m k))[k]? = some (.float .f32 (csum fs k m)) := by rw [← colP_nth fs hlt]; exact fl_get (by rw [colP_len]; exact hlt)
          have a1 : ∀ t W, (binOp .add t (.float .f32 (csum fs k m)) (.float .f32 (nth fs (m * 4 + k)))).run Try.prog W = .ok (.float .f32 (csum fs k (m + 1))) W := fun t W => run_float_arith W .add t .f32 _ _ _ (csum_add H.out hlt (by omega) hlm)
          have hC := Cb.const wr
          go_wp2
          refine wp_region_cb_tail 13 (by kernel_rfl) (by kernel_rfl) ?_
          simp only [List.take, List.drop]
          repeat (first
            | go_big_quiet_skip
            | (go_big_quiet_want; first
              | (refine q_cell 22 _ rfl _ Try.underlying22 _ rfl P4 _ dP ?_; go_simp; go_big_quiet_on)
              | (refine q_cell 22 _ rfl _ Try.underlying22 _ rfl A4 _ dF ?_; go_simp; go_big_quiet_on)
              | (go_big_quiet_op; go_big_quiet_on)))
          refine wpQuiet_nil ?_
          intro w9 hw9
          have A6 := A4.step hw9
          have R6 := R4.step hw9
          have P6 := P4.step hw9
          have B6 := Lib.hid (bthen B4.out hw9)
          clear A4 R4 P4 B4 hw9 hC dF dP a1
          have A7 := A6.setRow_other (k := w.heap.size + 1) (by omega) (fl (colP fs m (k + 1)))
          have R7 := R6.setRow_other (k := w.heap.size + 1) (by omega) (fl (colP fs m (k + 1)))
          have P7 := P6.setRow (fl (colP fs m (k + 1)))
          have B7 := Lib.hid (bset B6.out (g := w.heap.size + 1) (by omega) (fl (colP fs m (k + 1))))
          go_wp2_with (((with_reducible refine is_store 22 (.tmp 30) (.tmp 29) rfl ?_); refine wpList_store_cell rfl 22 (.tmp 30) (.tmp 29) rfl _ _ rfl (.float .f32 (csum fs k (m + 1))) rfl (fl (colP fs m k)) _ P6 (by rw [fl_size, colP_len]; omega) (by kernel_rfl) rfl (fl (colP fs m (k + 1))) (by rw [fl_set, colP_set fs hlt]) ?_))
          exact ⟨⟨k + 1, by omega, by go_num, A7, R7, P7, B7⟩, by simp [intOf]; omega⟩
        · obtain rfl : k = 4 := by omega
          rw [colP_next] at P4
          go_wp2
          exact ⟨⟨m + 1, by omega, by omega, by go_num, A4, R4, P4, B4⟩, by simp [intOf]; omega⟩
    · obtain rfl : m = 4 := by omega
      rw [colP_all] at P4
      have R9 := R4.setRow (fl (colT fs))
      have B9 := Lib.hid (bset B4.out (g := w.heap.size) (Nat.le_refl _) (fl (colT fs)))
      go_wp2_with (first | ((with_reducible refine is_load 23 _ rfl ?_); refine wpList_load_at rfl 23 _ rfl _ rfl (fl (colT fs)) _ P4 4 (SP) _ Try.underlying23 rfl (by kernel_rfl) ?_) | ((with_reducible refine is_store 29 (.tmp 2) (.tmp 31) rfl ?_); refine wpList_store_at rfl 29 (.tmp 2) (.tmp 31) rfl _ rfl (fl (colT fs)) rfl (#[.float .f32 0, .float .f32 0, .float .f32 0, .float .f32 0]) _ R4 4 (SP) (rfl) (by kernel_rfl) (fl_one _) ?_))
      exact bodyPost_ret (v := .agg (fl (colT fs))) (results_at (p := 2) (ty := 29) rfl _ _ _ (fl (colT fs)) _ rfl R9 _ Try.underlying29 rfl 4 SP (by kernel_rfl)) rfl ⟨rfl, B9.out⟩

end Go.Proofs.Ytdoilkhndkakkaa
