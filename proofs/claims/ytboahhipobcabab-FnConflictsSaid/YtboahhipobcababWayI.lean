/-
  CONTRACTS: the table of a crossing, as the program makes it.
-/
import Derived.Test.YtboahhipobcababWayA
import Derived.Test.YtboahhipobcababTail
namespace Go.Proofs.Ytboahhipobcabab
open Go Go.ChangeShapes Go.WideShapes Go.ChangeAt Go.RowKit
set_option maxRecDepth 100000

/-- a table's cells, all no -/
def z64 : Array Value := bl (noes 64)
theorem z64_eq : z64 = bl (noes 64) := rfl
theorem wpList_allocz {P : Program} {w : World} {ops : Array Oper} {rest : List Oper} {o : Oper} {a : Act} {Q : Exit → Act → World → Prop} (hg : o.guard = none) (t : TypeId) (_ho : o.op = .alloc t) (row : Array Value)
    (hx : ∀ w, (execOp a.eval o).run P w = .ok (.value (.pointer (some ⟨w.heap.size, 0, none⟩))) (w.alloc (.cells row t))) (h : wpList P ops Q rest (a.put o.dst (.pointer (some ⟨w.heap.size, 0, none⟩))) (w.alloc (.cells row t))) : wpList P ops Q (o :: rest) a w := by
  refine wpList_plain hg fun K hK' => ?_
  unfold Oper.wp
  rw [hx]
  exact hK' _ _ h
theorem is_allocz {P : Program} {w : World} {ops : Array Oper} {rest : List Oper} {o : Oper} {a : Act} {Q : Exit → Act → World → Prop} (t : TypeId) (_ho : o.op = .alloc t) (h : wpList P ops Q (o :: rest) a w) : wpList P ops Q (o :: rest) a w := h
theorem at_row {w : World} {g : Nat} {c c' : Array Value} {T : TypeId} (h : c = c') (hA : At w g c T) : At w g c' T := h ▸ hA
theorem ways_at {fs ts : List Int} {m : Nat} (h : awB fs ts (m : Int) = true) (hm : m ≤ 8) {i : Nat} (hi : i < m) : wayB (ith fs i) (ith ts i) = true := by
  rw [awB_w ⟨by omega, by omega⟩] at h
  have := wsOk_at (by omega : i < 8) h
  unfold wyOk at this
  rwa [if_pos (by omega)] at this
theorem wayB_in {f t : Int} (h : wayB f t = true) : (0 ≤ f ∧ f < 4) ∧ (0 ≤ t ∧ t < 4) := by
  unfold wayB at h
  simp only [Bool.and_eq_true, decide_eq_true_eq] at h
  exact ⟨h.1, h.2.1⟩
set_option maxHeartbeats 1000000 in
theorem CrossTable_any (fs ts : List Int) (hf : fs.length = 8) (ht : ts.length = 8) (n : Int) (w : World) :
    Calls Try.prog 43 #[.agg (il fs), .agg (il ts), .int .i64 n] w fun e w' => e = .returned (.tuple #[.agg (bl (vCt fs ts n).1), .int .i64 (vCt fs ts n).2]) ∧ Below w.heap.size w w' := by
  have KA := fun w => areWays_any fs ts hf ht n w
  have SF : (il fs).size = 8 := by rw [il_size, hf]
  have ST : (il ts).size = 8 := by rw [il_size, ht]
  have P0 : At (((w.alloc (.cells (il fs) 74)).alloc (.cells (il ts) 74)).alloc (.cells z64 65)) w.heap.size (il fs) 74 := ((At.new w _ _).alloc _).alloc _
  have L0 : At (((w.alloc (.cells (il fs) 74)).alloc (.cells (il ts) 74)).alloc (.cells z64 65)) (w.heap.size + 1) (il ts) 74 := (At.last1 w _ _ _).alloc _
  have R0 : At (((w.alloc (.cells (il fs) 74)).alloc (.cells (il ts) 74)).alloc (.cells z64 65)) (w.heap.size + 1 + 1) (bl (noes 64)) 65 := by
    have := at_row z64_eq (At.new ((w.alloc (.cells (il fs) 74)).alloc (.cells (il ts) 74)) z64 65)
    rwa [World.size_alloc, World.size_alloc] at this
  have B0 := Lib.hid (bnew (bnew (b0 w (.cells (il fs) 74)) (.cells (il ts) 74)) (.cells z64 65))
  have HL := Lib.hid (And.intro hf ht)
  clear hf ht
  cases ha : awB fs ts n
  · rw [ha] at KA
    go_enter Try.func43, Try.ntmps43
    go_wp2_with (first | ((with_reducible refine is_allocz 65 rfl ?_); refine wpList_allocz rfl 65 rfl z64 (fun w => by kernel_rfl) ?_) | ((with_reducible refine is_load 74 _ rfl ?_); refine wpList_load_at rfl 74 _ rfl _ rfl (il fs) _ (by with_reducible assumption) 8 (SF) _ Try.underlying74 rfl (by kernel_rfl) ?_) | ((with_reducible refine is_load 74 _ rfl ?_); refine wpList_load_at rfl 74 _ rfl _ rfl (il ts) _ (by with_reducible assumption) 8 (ST) _ Try.underlying74 rfl (by kernel_rfl) ?_))
    refine (KA _).mono ?_
    rintro e w1 ⟨rfl, hb1⟩
    have R1 := R0.step hb1
    have B1 := Lib.hid (bthen B0.out hb1)
    clear P0 L0 R0 B0 hb1 KA
    have EQ : Ending.returned (Value.tuple #[.agg (bl (noes 64)), .int .i64 2]) = .returned (.tuple #[.agg (bl (vCt fs ts n).1), .int .i64 (vCt fs ts n).2]) := by rw [vCt_no (ha)]
    have R9 := R1.setRow (bl (noes 64))
    have B9 := Lib.hid (bset B1.out (g := w.heap.size + 1 + 1) (by omega) (bl (noes 64)))
    go_wp2_with (((with_reducible refine is_store 65 _ _ rfl ?_); refine wpList_store_at rfl 65 _ _ rfl _ rfl (bl (noes 64)) rfl (bl (noes 64)) _ (by with_reducible assumption) 64 (by rw [bl_size, noes_len]) (by rw [bl_size, noes_len]) (by kernel_rfl) (bl_one _) ?_))
    exact bodyPost_ret (v := .tuple #[.agg (bl (noes 64)), .int .i64 2]) (results_at_tmp (p := 6) (ty := 65) rfl _ _ _ (bl (noes 64)) _ (.int .i64 2) rfl rfl R9 _ Try.underlying65 rfl 64 (by rw [bl_size, noes_len]) (by kernel_rfl)) rfl ⟨EQ, B9.out⟩
  · rw [ha] at KA
    have hn : 0 ≤ n ∧ n ≤ 8 := by
      by_cases c : 0 ≤ n ∧ n ≤ 8
      · exact c
      · rw [awB_n c] at ha; cases ha
    obtain ⟨m, rfl⟩ : ∃ m : Nat, n = m := ⟨n.toNat, by omega⟩
    have hm8 : m ≤ 8 := by omega
    have HA := Lib.hid ha
    have HM := Lib.hid (fun (i k : Nat) (h1 : i < m) (h2 : k < m) w' => conflicts_any (ith fs i) (ith ts i) (ith fs k) (ith ts k) (wayB_in (ways_at ha hm8 h1)).1 (wayB_in (ways_at ha hm8 h1)).2 (wayB_in (ways_at ha hm8 h2)).1 (wayB_in (ways_at ha hm8 h2)).2 w')
    have HM := Lib.hid (fun (i k : Nat) (h1 : i < m) (h2 : k < m) => by
      have q := HM.out i k h1 h2
      rw [cf_mt (ways_at ha hm8 h1) (ways_at ha hm8 h2)] at q
      exact (show ∀ w', Calls Try.prog 89 #[.agg #[.int .i64 (ith fs i), .int .i64 (ith ts i)], .agg #[.int .i64 (ith fs k), .int .i64 (ith ts k)]] w' (fun e w'' => e = .returned (.bool (mfn fs ts i k)) ∧ Below w'.heap.size w' w'') from q))
    clear ha hn
    go_enter Try.func43, Try.ntmps43
    go_wp2_with (first | ((with_reducible refine is_allocz 65 rfl ?_); refine wpList_allocz rfl 65 rfl z64 (fun w => by kernel_rfl) ?_) | ((with_reducible refine is_load 74 _ rfl ?_); refine wpList_load_at rfl 74 _ rfl _ rfl (il fs) _ (by with_reducible assumption) 8 (SF) _ Try.underlying74 rfl (by kernel_rfl) ?_) | ((with_reducible refine is_load 74 _ rfl ?_); refine wpList_load_at rfl 74 _ rfl _ rfl (il ts) _ (by with_reducible assumption) 8 (ST) _ Try.underlying74 rfl (by kernel_rfl) ?_))
    refine (KA _).mono ?_
    rintro e w1 ⟨rfl, hb1⟩
    have P1 := (P0.step hb1).alloc (.cells z64 65)
    have L1 := (L0.step hb1).alloc (.cells z64 65)
    have R1 := (R0.step hb1).alloc (.cells z64 65)
    have B1 := Lib.hid (bnew (bthen B0.out hb1) (.cells z64 65))
    have C1 : At (w1.alloc (.cells z64 65)) w1.heap.size (bl (fT m (mfn fs ts) 0 0)) 65 := by rw [fT_zero]; exact at_row z64_eq (At.new w1 _ _)
    have hc : w.heap.size + 1 + 1 < w1.heap.size := (R0.step hb1).lt
    clear P0 L0 R0 B0 hb1 KA SF ST
    go_wp2_with (((with_reducible refine is_allocz 65 rfl ?_); refine wpList_allocz rfl 65 rfl z64 (fun w => by kernel_rfl) ?_))
    generalize w1.alloc (.cells z64 65) = w2 at P1 L1 R1 B1 C1 ⊢
    generalize w1.heap.size = c at C1 hc ⊢
    go_loopw [18] (fun iv wr => ∃ i : Nat, i ≤ m ∧ iv = .int .i64 (i : Int) ∧ At wr w.heap.size (il fs) 74 ∧ At wr (w.heap.size + 1) (il ts) 74 ∧ At wr (w.heap.size + 1 + 1) (bl (noes 64)) 65 ∧ At wr c (bl (fT m (mfn fs ts) i 0)) 65 ∧ Hid (Below w.heap.size w wr)) (fun iv _ => m - (intOf iv).toNat)
    case atStart => exact ⟨0, by omega, rfl, P1, L1, R1, C1, B1⟩
    case round =>
      clear P1 L1 R1 C1 B1
      obtain ⟨i, hi, rfl, P1, L1, R1, C1, B1⟩ := hrel
      by_cases hlt : i < m
      · have s2 : IntKind.i64.wrap ((i : Int) + 1) = (i : Int) + 1 := IntWalk.i64_in _ (by omega)
        have hi8 : i < 8 := by omega
        have xi := il_get (xs := fs) (k := i) (by rw [HL.out.1]; exact hi8)
        have yi := il_get (xs := ts) (k := i) (by rw [HL.out.2]; exact hi8)
        go_wp2
        go_loopw [22] (fun kv wr => ∃ k : Nat, k ≤ m ∧ kv = .int .i64 (k : Int) ∧ At wr w.heap.size (il fs) 74 ∧ At wr (w.heap.size + 1) (il ts) 74 ∧ At wr (w.heap.size + 1 + 1) (bl (noes 64)) 65 ∧ At wr c (bl (fT m (mfn fs ts) i k)) 65 ∧ Hid (Below w.heap.size w wr)) (fun kv _ => m - (intOf kv).toNat)
        case atStart => exact ⟨0, by omega, rfl, P1, L1, R1, C1, B1⟩
        case round =>
          clear P1 L1 R1 C1 B1
          obtain ⟨k, hk, rfl, P1, L1, R1, C1, B1⟩ := hrel
          by_cases hlk : k < m
          · have s3 : IntKind.i64.wrap ((k : Int) + 1) = (k : Int) + 1 := IntWalk.i64_in _ (by omega)
            have hk8 : k < 8 := by omega
            have xk := il_get (xs := fs) (k := k) (by rw [HL.out.1]; exact hk8)
            have yk := il_get (xs := ts) (k := k) (by rw [HL.out.2]; exact hk8)
            have KM := HM.out i k hlt hlk
            have hle : i * 8 + k < (bl (fT m (mfn fs ts) i k)).size := by rw [bl_size, fT_len]; omega
            have hset : (bl (fT m (mfn fs ts) i k)).setIfInBounds (i * 8 + k) (.bool (mfn fs ts i k)) = bl (fT m (mfn fs ts) i (k + 1)) := by rw [bl_set, fT_set hi8 hlk hm8]
            have hC := Cb.const wr
            generalize ith fs i = fi at xi KM
            generalize ith ts i = ti at yi KM
            generalize ith fs k = fk at xk KM
            generalize ith ts k = tk at yk KM
            generalize mfn fs ts i k = bit at KM hset
            go_wp2
            refine wp_region_cb_tail 19 (by kernel_rfl) (by kernel_rfl) ?_
            simp only [List.take, List.drop]
            repeat (first
              | go_big_quiet_skip
              | (go_big_quiet_want; first
                | (refine q_one 2 _ rfl _ Try.underlying2 rfl i rfl P1 _ xi ?_; go_simp; go_big_quiet_on)
                | (refine q_one 2 _ rfl _ Try.underlying2 rfl i rfl L1 _ yi ?_; go_simp; go_big_quiet_on)
                | (refine q_one 2 _ rfl _ Try.underlying2 rfl k rfl P1 _ xk ?_; go_simp; go_big_quiet_on)
                | (refine q_one 2 _ rfl _ Try.underlying2 rfl k rfl L1 _ yk ?_; go_simp; go_big_quiet_on)
                | (go_big_quiet_op; go_big_quiet_on)
                | (go_big_quiet_op; apply Exists.intro; refine ⟨fun w' hw' => ?_, ?_⟩; (go_at_call 89; exact (KM w').mono fun _ _ h => ⟨h.1, hw'.step h.2⟩); go_big_quiet_on)))
            refine wpQuiet_nil ?_
            intro w5 hw5
            have n1 : w.heap.size ≠ c := by omega
            have P6 := (P1.step hw5).setRow_other (k := c) n1 (bl (fT m (mfn fs ts) i (k + 1)))
            have L6 := (L1.step hw5).setRow_other (k := c) (by omega) (bl (fT m (mfn fs ts) i (k + 1)))
            have R6 := (R1.step hw5).setRow_other (k := c) (by omega) (bl (fT m (mfn fs ts) i (k + 1)))
            have C5 := C1.step hw5
            have C6 := C5.setRow (bl (fT m (mfn fs ts) i (k + 1)))
            have B6 := Lib.hid (bset (bthen B1.out hw5) (g := c) (by omega) (bl (fT m (mfn fs ts) i (k + 1))))
            clear P1 L1 R1 C1 B1 hw5 hC KM xk yk n1
            go_wp2_with (((with_reducible refine is_store 4 _ _ rfl ?_); refine wpList_store_cell rfl 4 _ _ rfl _ (i * 8 + k) rfl (.bool bit) rfl (bl (fT m (mfn fs ts) i k)) _ (by with_reducible assumption) (hle) (by kernel_rfl) rfl (bl (fT m (mfn fs ts) i (k + 1))) (hset) ?_))
            exact ⟨⟨k + 1, by omega, by go_num, P6, L6, R6, C6, B6⟩, by simp [intOf]; omega⟩
          · obtain rfl : k = m := by omega
            rw [fT_row] at C1
            go_wp2
            exact ⟨⟨i + 1, by omega, by go_num, P1, L1, R1, C1, B1⟩, by simp [intOf]; omega⟩
      · obtain rfl : i = m := by omega
        have SZF : (bl (fT i (mfn fs ts) i 0)).size = 64 := by rw [bl_size, fT_len]
        have EQ : Ending.returned (Value.tuple #[.agg (bl (fT i (mfn fs ts) i 0)), .int .i64 0]) = .returned (.tuple #[.agg (bl (vCt fs ts (i : Int)).1), .int .i64 (vCt fs ts (i : Int)).2]) := by rw [vCt_yes HA.out]
        have R9 := R1.setRow (bl (fT i (mfn fs ts) i 0))
        have B9 := Lib.hid (bset B1.out (g := w.heap.size + 1 + 1) (by omega) (bl (fT i (mfn fs ts) i 0)))
        have ONE := bl_one (fT i (mfn fs ts) i 0)
        clear HM HA
        generalize bl (fT i (mfn fs ts) i 0) = RW at *
        go_wp2_with (first | ((with_reducible refine is_store 65 _ _ rfl ?_); refine wpList_store_at rfl 65 _ _ rfl _ rfl (RW) rfl (bl (noes 64)) _ (by with_reducible assumption) 64 (SZF) (by rw [bl_size, noes_len]) (by kernel_rfl) (ONE) ?_) | ((with_reducible refine is_load 65 _ rfl ?_); refine wpList_load_at rfl 65 _ rfl _ rfl (RW) _ (by with_reducible assumption) 64 (SZF) _ Try.underlying65 rfl (by kernel_rfl) ?_))
        exact bodyPost_ret (v := .tuple #[.agg (RW), .int .i64 0]) (results_at_tmp (p := 6) (ty := 65) rfl _ _ _ (RW) _ (.int .i64 0) rfl rfl R9 _ Try.underlying65 rfl 64 (SZF) (by kernel_rfl)) rfl ⟨EQ, B9.out⟩

end Go.Proofs.Ytboahhipobcabab
