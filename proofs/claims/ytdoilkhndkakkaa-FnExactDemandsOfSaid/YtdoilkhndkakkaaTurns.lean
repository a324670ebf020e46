/-
  CONTRACTS: the products of what is sent and of turns; refusals.
-/
import Derived.Test.YtdoilkhndkakkaaSetPrior
import Derived.Test.YtdoilkhndkakkaaTail
namespace Go.Proofs.Ytdoilkhndkakkaa
open Go Go.RowKit
set_option maxRecDepth 100000

/-- the code of a junction and of what is sent -/
def sendC (i o : Int) (ts ps ss : List Nat) : Int := if okJ i o ts ps then (if amtTo i ss 4 then 0 else 2) else 1
/-- the products of a number of each in and of its turns -/
def prodT (ts ss : List Nat) : List Nat := rowOf 16 fun p => mulB (nth ss (p / 4)) (nth ts p)
theorem prodT_len (ts ss : List Nat) : (prodT ts ss).length = 16 := rowOf_len _ _
theorem prodT_nth {ts : List Nat} (hl : ts.length = 16) (ss : List Nat) {k n : Nat} (hk : k < 4) (hn : n < 4) : nth (prodT ts ss) (4 * k + n) = mulB (nth ss k) (nth (row4 ts k) n) := by
  have := rowOf_nth 16 (fun p => mulB (nth ss (p / 4)) (nth ts p)) (k := 4 * k + n) (by omega)
  unfold prodT
  rw [this, row4_nth hl k hn, show (4 * k + n) / 4 = k from by omega]
theorem mul_part {s t : Nat} (hs : s < 2139095040) (ht : t ≤ 1065353216) : floatBits .mul .f32 s t = some (mulB s t) ∧ mulB s t ≤ s := by
  refine ⟨(mul_eq hs (by omega)).1, mul_le hs (by omega) (Nat.mul_le_mul_left _ ?_)⟩
  rw [← rv_one]; exact rv_le ht
theorem sendC_zero {i o : Int} {ts ps ss : List Nat} (h : sendC i o ts ps ss = 0) : okJ i o ts ps = true ∧ amtTo i ss 4 = true := by
  unfold sendC at h
  cases h1 : okJ i o ts ps
  · rw [h1] at h; cases h
  · cases h2 : amtTo i ss 4
    · rw [h1, h2] at h; cases h
    · exact ⟨rfl, rfl⟩
theorem amtTo_amt {n : Int} {ss : List Nat} (h : amtTo n ss 4 = true) (k : Nat) (hk : k < 4) : nth ss k < 2139095040 := by
  have := amtTo_at hk h
  unfold amtA amtB at this
  simp at this
  exact this.1
theorem prodT_fin {i o : Int} {ts ps ss : List Nat} (hlt : ts.length = 16) (h : okJ i o ts ps = true) (h2 : amtTo i ss 4 = true) : ∀ x ∈ prodT ts ss, x < 2139095040 := by
  intro x hx
  obtain ⟨p, hp, rfl⟩ := rowOf_mem hx
  have ht : nth ts p ≤ 1065353216 := okJ_turns hlt h _ (nth_mem (by omega))
  have hs := amtTo_amt h2 (p / 4) (by omega)
  have := (mul_part hs ht).2
  show mulB (nth ss (p / 4)) (nth ts p) < _
  omega

theorem refusalOfSends_b (i o : Int) (ts ps : List Nat) (hi : -9223372036854775808 ≤ i ∧ i ≤ 9223372036854775807) (ho : -9223372036854775808 ≤ o ∧ o ≤ 9223372036854775807) (hlt : ts.length = 16) (hlp : ps.length = 4) (hct : ∀ x ∈ ts, x < 4294967296) (hcp : ∀ x ∈ ps, x < 4294967296) (ss : List Nat) (hls : ss.length = 4) (hcs : ∀ x ∈ ss, x < 4294967296) (w : World) :
    Calls Try.prog 62 #[.agg (jn i o ts ps), .agg (fl ss)] w fun e w' => e = .returned (.int .i64 (sendC i o ts ps ss)) ∧ Below w.heap.size w w' := by
  have A0 : At ((w.alloc (.cells (jn i o ts ps) 31)).alloc (.cells (fl ss) 29)) w.heap.size (jn i o ts ps) 31 := (At.new w _ _).alloc _
  have S0 : At ((w.alloc (.cells (jn i o ts ps) 31)).alloc (.cells (fl ss) 29)) (w.heap.size + 1) (fl ss) 29 := At.last1 w _ _ _
  have B0 := Lib.hid (bnew (b0 w (.cells (jn i o ts ps) 31)) (.cells (fl ss) 29))
  have SZ := jn_size hlt hlp i o
  have SS : (fl ss).size = 4 := by rw [fl_size, hls]
  go_enter Try.func62, Try.ntmps62
  go_wp2_with (((with_reducible refine is_load 31 _ rfl ?_); refine wpList_load_at rfl 31 _ rfl _ rfl (jn i o ts ps) _ A0 22 (SZ) _ Try.underlying31 rfl (by kernel_rfl) ?_))
  refine (ValidJunction_b i o ts ps hi ho hlt hlp hct hcp _).mono ?_
  rintro e w1 ⟨rfl, hb1⟩
  have A1 := A0.step hb1
  have S1 := S0.step hb1
  have B1 := Lib.hid (bthen B0.out hb1)
  clear A0 S0 B0 hb1
  cases h : okJ i o ts ps
  · have ev : Hid (sendC i o ts ps ss = 1) := Lib.hid (by unfold sendC; rw [h]; rfl)
    go_wp2_with fail
    go_ret
    exact ⟨by rw [ev.out]; rfl, B1.out⟩
  · go_wp2_with (first | ((with_reducible refine is_load 2 _ rfl ?_); refine wpList_load_cell rfl 2 _ rfl _ 0 rfl (jn i o ts ps) _ A1 _ Try.underlying2 rfl (.int .i64 i) (jn_ins i o ts ps) ?_) | ((with_reducible refine is_load 29 _ rfl ?_); refine wpList_load_at rfl 29 _ rfl _ rfl (fl ss) _ S1 4 (SS) _ Try.underlying29 rfl (by kernel_rfl) ?_))
    refine (areAmountsOf_b i ss hls hcs _).mono ?_
    rintro e w2 ⟨rfl, hb2⟩
    cases h2 : amtTo i ss 4
    · have ev : Hid (sendC i o ts ps ss = 2) := Lib.hid (by unfold sendC; rw [h, h2]; rfl)
      go_wp2_with fail
      go_ret
      exact ⟨by rw [ev.out]; rfl, bthen B1.out hb2⟩
    · have ev : Hid (sendC i o ts ps ss = 0) := Lib.hid (by unfold sendC; rw [h, h2]; rfl)
      go_wp2_with fail
      go_ret
      exact ⟨by rw [ev.out]; rfl, bthen B1.out hb2⟩

set_option maxHeartbeats 1000000 in
theorem turnsOf_b (i o : Int) (ts ps : List Nat) (hi : -9223372036854775808 ≤ i ∧ i ≤ 9223372036854775807) (ho : -9223372036854775808 ≤ o ∧ o ≤ 9223372036854775807) (hlt : ts.length = 16) (hlp : ps.length = 4) (hct : ∀ x ∈ ts, x < 4294967296) (hcp : ∀ x ∈ ps, x < 4294967296) (ss : List Nat) (hls : ss.length = 4) (hcs : ∀ x ∈ ss, x < 4294967296) (h : okJ i o ts ps = true) (h2 : amtTo i ss 4 = true) (w : World) :
    Calls Try.prog 63 #[.agg (jn i o ts ps), .agg (fl ss)] w fun e w' => e = .returned (.agg (fl (prodT ts ss))) ∧ Below w.heap.size w w' := by
  have A0 : At ((((w.alloc (.cells (jn i o ts ps) 31)).alloc (.cells (fl ss) 29)).alloc (.cells (#[.float .f32 0, .float .f32 0, .float .f32 0, .float .f32 0, .float .f32 0, .float .f32 0, .float .f32 0, .float .f32 0, .float .f32 0, .float .f32 0, .float .f32 0, .float .f32 0, .float .f32 0, .float .f32 0, .float .f32 0, .float .f32 0]) 28)).alloc (.cells (#[.float .f32 0, .float .f32 0, .float .f32 0, .float .f32 0, .float .f32 0, .float .f32 0, .float .f32 0, .float .f32 0, .float .f32 0, .float .f32 0, .float .f32 0, .float .f32 0, .float .f32 0, .float .f32 0, .float .f32 0, .float .f32 0]) 28)) w.heap.size (jn i o ts ps) 31 := (((At.new w _ _).alloc _).alloc _).alloc _
  have S0 : At ((((w.alloc (.cells (jn i o ts ps) 31)).alloc (.cells (fl ss) 29)).alloc (.cells (#[.float .f32 0, .float .f32 0, .float .f32 0, .float .f32 0, .float .f32 0, .float .f32 0, .float .f32 0, .float .f32 0, .float .f32 0, .float .f32 0, .float .f32 0, .float .f32 0, .float .f32 0, .float .f32 0, .float .f32 0, .float .f32 0]) 28)).alloc (.cells (#[.float .f32 0, .float .f32 0, .float .f32 0, .float .f32 0, .float .f32 0, .float .f32 0, .float .f32 0, .float .f32 0, .float .f32 0, .float .f32 0, .float .f32 0, .float .f32 0, .float .f32 0, .float .f32 0, .float .f32 0, .float .f32 0]) 28)) (w.heap.size + 1) (fl ss) 29 := ((At.last1 w _ _ _).alloc _).alloc _
  have R0 : At ((((w.alloc (.cells (jn i o ts ps) 31)).alloc (.cells (fl ss) 29)).alloc (.cells (#[.float .f32 0, .float .f32 0, .float .f32 0, .float .f32 0, .float .f32 0, .float .f32 0, .float .f32 0, .float .f32 0, .float .f32 0, .float .f32 0, .float .f32 0, .float .f32 0, .float .f32 0, .float .f32 0, .float .f32 0, .float .f32 0]) 28)).alloc (.cells (#[.float .f32 0, .float .f32 0, .float .f32 0, .float .f32 0, .float .f32 0, .float .f32 0, .float .f32 0, .float .f32 0, .float .f32 0, .float .f32 0, .float .f32 0, .float .f32 0, .float .f32 0, .float .f32 0, .float .f32 0, .float .f32 0]) 28)) (w.heap.size + 1 + 1) (#[.float .f32 0, .float .f32 0, .float .f32 0, .float .f32 0, .float .f32 0, .float .f32 0, .float .f32 0, .float .f32 0, .float .f32 0, .float .f32 0, .float .f32 0, .float .f32 0, .float .f32 0, .float .f32 0, .float .f32 0, .float .f32 0]) 28 := (At.last2 w _ _ _ _).alloc _
  have P0 : At ((((w.alloc (.cells (jn i o ts ps) 31)).alloc (.cells (fl ss) 29)).alloc (.cells (#[.float .f32 0, .float .f32 0, .float .f32 0, .float .f32 0, .float .f32 0, .float .f32 0, .float .f32 0, .float .f32 0, .float .f32 0, .float .f32 0, .float .f32 0, .float .f32 0, .float .f32 0, .float .f32 0, .float .f32 0, .float .f32 0]) 28)).alloc (.cells (#[.float .f32 0, .float .f32 0, .float .f32 0, .float .f32 0, .float .f32 0, .float .f32 0, .float .f32 0, .float .f32 0, .float .f32 0, .float .f32 0, .float .f32 0, .float .f32 0, .float .f32 0, .float .f32 0, .float .f32 0, .float .f32 0]) 28)) (w.heap.size + 1 + 1 + 1) (#[.float .f32 0, .float .f32 0, .float .f32 0, .float .f32 0, .float .f32 0, .float .f32 0, .float .f32 0, .float .f32 0, .float .f32 0, .float .f32 0, .float .f32 0, .float .f32 0, .float .f32 0, .float .f32 0, .float .f32 0, .float .f32 0]) 28 := by
    have := At.new (((w.alloc (.cells (jn i o ts ps) 31)).alloc (.cells (fl ss) 29)).alloc (.cells (#[.float .f32 0, .float .f32 0, .float .f32 0, .float .f32 0, .float .f32 0, .float .f32 0, .float .f32 0, .float .f32 0, .float .f32 0, .float .f32 0, .float .f32 0, .float .f32 0, .float .f32 0, .float .f32 0, .float .f32 0, .float .f32 0]) 28)) (#[.float .f32 0, .float .f32 0, .float .f32 0, .float .f32 0, .float .f32 0, .float .f32 0, .float .f32 0, .float .f32 0, .float .f32 0, .float .f32 0, .float .f32 0, .float .f32 0, .float .f32 0, .float .f32 0, .float .f32 0, .float .f32 0]) 28
    rwa [World.size_alloc, World.size_alloc, World.size_alloc] at this
  have B0 := Lib.hid (bnew (bnew (bnew (b0 w (.cells (jn i o ts ps) 31)) (.cells (fl ss) 29)) (.cells (#[.float .f32 0, .float .f32 0, .float .f32 0, .float .f32 0, .float .f32 0, .float .f32 0, .float .f32 0, .float .f32 0, .float .f32 0, .float .f32 0, .float .f32 0, .float .f32 0, .float .f32 0, .float .f32 0, .float .f32 0, .float .f32 0]) 28)) (.cells (#[.float .f32 0, .float .f32 0, .float .f32 0, .float .f32 0, .float .f32 0, .float .f32 0, .float .f32 0, .float .f32 0, .float .f32 0, .float .f32 0, .float .f32 0, .float .f32 0, .float .f32 0, .float .f32 0, .float .f32 0, .float .f32 0]) 28))
  have SZ := jn_size hlt hlp i o
  have SPR : (fl (prodT ts ss)).size = 16 := by rw [fl_size, prodT_len]
  have HT := Lib.hid (okJ_turns hlt h)
  have HS := Lib.hid (amtTo_amt h2)
  clear h h2 hi ho
  go_enter Try.func63, Try.ntmps63
  go_wp2_with (((with_reducible refine is_load 28 _ rfl ?_); refine wpList_load_part rfl 28 _ rfl _ 2 rfl (jn i o ts ps) _ A0 16 (by rw [SZ]; omega) _ Try.underlying28 rfl (by kernel_rfl) (fl ts) (jn_turns hlt hlp i o) ?_))
  go_loopw [12] (fun i' wr => ∃ k : Nat, k ≤ 4 ∧ i' = .int .i64 k ∧ At wr (w.heap.size + 1) (fl ss) 29 ∧ At wr (w.heap.size + 1 + 1) (#[.float .f32 0, .float .f32 0, .float .f32 0, .float .f32 0, .float .f32 0, .float .f32 0, .float .f32 0, .float .f32 0, .float .f32 0, .float .f32 0, .float .f32 0, .float .f32 0, .float .f32 0, .float .f32 0, .float .f32 0, .float .f32 0]) 28 ∧ At wr (w.heap.size + 1 + 1 + 1) (fl (cpN 16 (prodT ts ss) (4 * k))) 28 ∧ Hid (Below w.heap.size w wr)) (fun i' _ => 4 - (intOf i').toNat)
  case atStart => exact ⟨0, by omega, rfl, S0, R0, P0, B0⟩
  case round =>
    clear A0 S0 R0 P0 B0
    obtain ⟨k, hk, rfl, S4, R4, P4, B4⟩ := hrel
    by_cases hlk : k < 4
    · have hix := fun W => run_index_row W hlt hlk
      have rl := row4_len hlt hlk
      have s2 : IntKind.i64.wrap ((k : Int) + 1) = (k : Int) + 1 := IntWalk.i64_in _ (by omega)
      have hkd : decide ((k : Int) < 4) = true := decide_eq_true (by omega)
      have N4 := At.new wr (#[.float .f32 0, .float .f32 0, .float .f32 0, .float .f32 0]) 23
      have N5 := N4.setRow (fl (row4 ts k))
      have S5 := (S4.alloc (.cells (#[.float .f32 0, .float .f32 0, .float .f32 0, .float .f32 0]) 23)).setRow_other (k := wr.heap.size) (Nat.ne_of_lt S4.lt) (fl (row4 ts k))
      have R5 := (R4.alloc (.cells (#[.float .f32 0, .float .f32 0, .float .f32 0, .float .f32 0]) 23)).setRow_other (k := wr.heap.size) (Nat.ne_of_lt R4.lt) (fl (row4 ts k))
      have P5 := (P4.alloc (.cells (#[.float .f32 0, .float .f32 0, .float .f32 0, .float .f32 0]) 23)).setRow_other (k := wr.heap.size) (Nat.ne_of_lt P4.lt) (fl (row4 ts k))
      have B5 := Lib.hid (bset (bnew B4.out (.cells (#[.float .f32 0, .float .f32 0, .float .f32 0, .float .f32 0]) 23)) (g := wr.heap.size) B4.out.size (fl (row4 ts k)))
      go_wp2_with (first | ((with_reducible refine is_store 23 (.tmp 7) (.tmp 15) rfl ?_); refine wpList_store_at rfl 23 (.tmp 7) (.tmp 15) rfl _ rfl (fl (row4 ts k)) rfl (#[.float .f32 0, .float .f32 0, .float .f32 0, .float .f32 0]) _ N4 4 (by rw [fl_size, rl]) (rfl) (by kernel_rfl) (fl_one _) ?_) | ((with_reducible refine is_load 23 _ rfl ?_); refine wpList_load_at rfl 23 _ rfl _ rfl (fl (row4 ts k)) _ N5 4 (by rw [fl_size, rl]) _ Try.underlying23 rfl (by kernel_rfl) ?_))
      clear N4 N5 S4 R4 P4 B4
      go_loopw [17] (fun i' wr' => ∃ n : Nat, n ≤ 4 ∧ i' = .int .i64 n ∧ At wr' (w.heap.size + 1) (fl ss) 29 ∧ At wr' (w.heap.size + 1 + 1) (#[.float .f32 0, .float .f32 0, .float .f32 0, .float .f32 0, .float .f32 0, .float .f32 0, .float .f32 0, .float .f32 0, .float .f32 0, .float .f32 0, .float .f32 0, .float .f32 0, .float .f32 0, .float .f32 0, .float .f32 0, .float .f32 0]) 28 ∧ At wr' (w.heap.size + 1 + 1 + 1) (fl (cpN 16 (prodT ts ss) (4 * k + n))) 28 ∧ Hid (Below w.heap.size w wr')) (fun i' _ => 4 - (intOf i').toNat)
      case atStart => exact ⟨0, by omega, rfl, S5, R5, P5, B5⟩
      case round =>
        clear S5 R5 P5 B5
        obtain ⟨n, hn', rfl, S4, R4, P4, B4⟩ := hrel
        by_cases hn : n < 4
        · have s3 : IntKind.i64.wrap ((n : Int) + 1) = (n : Int) + 1 := IntWalk.i64_in _ (by omega)
          have hiy : ∀ W, (Instr.index 23 (.agg (fl (row4 ts k))) (.int .i64 n)).run Try.prog W = .ok (.float .f32 (nth (row4 ts k) n)) W := fun W =>
            run_index_fl W 23 22 4 (row4 ts k) n Try.underlying23 Try.underlying22 (by kernel_rfl) hn rl.symm
          have dS : (fl ss)[k]? = some (.float .f32 (nth ss k)) := fl_get (by omega)
          have hmul : ∀ t W, (binOp .mul t (.float .f32 (nth ss k)) (.float .f32 (nth (row4 ts k) n))).run Try.prog W = .ok (.float .f32 (nth (prodT ts ss) (4 * k + n))) W := fun t W => by
            rw [prodT_nth hlt ss hlk hn]
            exact run_float_arith W .mul t .f32 _ _ _ (mul_part (HS.out k hlk) (HT.out _ (row4_mem k (nth_mem (by omega))))).1
          have hC := Cb.const wr
          go_wp2
          refine wp_region_cb_tail 9 (by kernel_rfl) (by kernel_rfl) ?_
          simp only [List.take, List.drop]
          repeat (first
            | go_big_quiet_skip
            | (go_big_quiet_want; first
              | (refine q_cell 22 _ rfl _ Try.underlying22 _ rfl S4 _ (by assumption) ?_; go_simp; go_big_quiet_on)
              | (go_big_quiet_op; go_big_quiet_on)))
          refine wpQuiet_nil ?_
          intro w9 hw9
          have S6 := S4.step hw9
          have R6 := R4.step hw9
          have P6 := P4.step hw9
          have B6 := Lib.hid (bthen B4.out hw9)
          clear S4 R4 P4 B4 hw9 hC dS hmul
          have S7 := S6.setRow_other (k := w.heap.size + 1 + 1 + 1) (by omega) (fl (cpN 16 (prodT ts ss) (4 * k + (n + 1))))
          have R7 := R6.setRow_other (k := w.heap.size + 1 + 1 + 1) (by omega) (fl (cpN 16 (prodT ts ss) (4 * k + (n + 1))))
          have P7 := P6.setRow (fl (cpN 16 (prodT ts ss) (4 * k + (n + 1))))
          have B7 := Lib.hid (bset B6.out (g := w.heap.size + 1 + 1 + 1) (by omega) (fl (cpN 16 (prodT ts ss) (4 * k + (n + 1)))))
          go_wp2_with (((with_reducible refine is_store 22 (.tmp 29) (.tmp 27) rfl ?_); refine wpList_store_cell rfl 22 (.tmp 29) (.tmp 27) rfl _ _ rfl (.float .f32 (nth (prodT ts ss) (4 * k + n))) rfl (fl (cpN 16 (prodT ts ss) (4 * k + n))) _ P6 (by rw [fl_size, cpN_len (prodT_len _ _) _ (by omega)]; omega) (by kernel_rfl) rfl (fl (cpN 16 (prodT ts ss) (4 * k + (n + 1)))) (by rw [fl_set, show k * 4 + n = 4 * k + n from by omega, cpN_set (prodT_len _ _) (by omega)]; rfl) ?_))
          exact ⟨⟨n + 1, by omega, by go_num, S7, R7, P7, B7⟩, by simp [intOf]; omega⟩
        · obtain rfl : n = 4 := by omega
          go_wp2
          exact ⟨⟨k + 1, by omega, by go_num, S4, R4, P4, B4⟩, by simp [intOf]; omega⟩
    · obtain rfl : k = 4 := by omega
      rw [show 4 * 4 = 16 from rfl, cpN_all (prodT_len _ _)] at P4
      have R9 := R4.setRow (fl (prodT ts ss))
      have B9 := Lib.hid (bset B4.out (g := w.heap.size + 1 + 1) (by omega) (fl (prodT ts ss)))
      go_wp2_with (first | ((with_reducible refine is_load 28 _ rfl ?_); refine wpList_load_at rfl 28 _ rfl _ rfl (fl (prodT ts ss)) _ P4 16 (SPR) _ Try.underlying28 rfl (by kernel_rfl) ?_) | ((with_reducible refine is_store 28 (.tmp 4) (.tmp 32) rfl ?_); refine wpList_store_at rfl 28 (.tmp 4) (.tmp 32) rfl _ rfl (fl (prodT ts ss)) rfl (#[.float .f32 0, .float .f32 0, .float .f32 0, .float .f32 0, .float .f32 0, .float .f32 0, .float .f32 0, .float .f32 0, .float .f32 0, .float .f32 0, .float .f32 0, .float .f32 0, .float .f32 0, .float .f32 0, .float .f32 0, .float .f32 0]) _ R4 16 (SPR) (rfl) (by kernel_rfl) (fl_one _) ?_))
      exact bodyPost_ret (v := .agg (fl (prodT ts ss))) (results_at (p := 4) (ty := 28) rfl _ _ _ (fl (prodT ts ss)) _ rfl R9 _ Try.underlying28 rfl 16 SPR (by kernel_rfl)) rfl ⟨rfl, B9.out⟩

end Go.Proofs.Ytdoilkhndkakkaa
