/-
  CONTRACTS: two lists joined by the program.
-/
import Derived.Test.YtlffcpoooaoneaaJoined0
import Derived.Test.YtlffcpoooaoneaaTake
namespace Go.Proofs.Ytlffcpoooaoneaa
open Go Go.ChangeShapes Go.WideShapes Go.ChangeAt Go.RowKit
set_option maxRecDepth 100000

theorem x_index {P : Program} {o : Oper} {a : Act} {w : World} {v : Value} (ty : TypeId) (x i : Operand) (ho : o.op = .indexAddr ty x i) (vx vi : Value) (hx : a.eval x = vx) (hi : a.eval i = vi) (hrun : (Instr.indexAt ty vx vi).run P w = .ok v w) : (execOp a.eval o).run P w = .ok (.value v) w := by
  unfold execOp
  simp only [ho, hx, hi, Sem.run_bind, hrun, Sem.run_pure, Result.andThen_ok]
theorem x_moved {P : Program} {o : Oper} {a : Act} {w : World} {v : Value} (x : Operand) (ho : o.op = .move x) (hx : a.eval x = v) : (execOp a.eval o).run P w = .ok (.value v) w := by
  subst hx
  exact x_move x ho
theorem x_assigned {P : Program} {o : Oper} {a : Act} {w : World} {v : Value} (x : Operand) (ho : o.op = .assign x) (hx : a.eval x = v) : (execOp a.eval o).run P w = .ok (.value v) w := by
  subst hx
  exact x_assign x ho
theorem x_bslice {P : Program} {o : Oper} {a : Act} {w w' : World} {v : Value} (t : TypeId) (len : Nat) (parts : Array (Nat × Operand)) (ho : o.op = .buildSlice t len parts) (ps : Array (Nat × Value)) (hps : (parts.map fun (i, x) => (i, a.eval x)) = ps) (hrun : (Instr.buildSlice t len ps).run P w = .ok v w') : (execOp a.eval o).run P w = .ok (.value v) w' := by
  unfold execOp
  simp only [ho, hps, Sem.run_bind, hrun, Sem.run_pure, Result.andThen_ok]
theorem op_wp {P : Program} {ops : Array Oper} {Q : Exit → Act → World → Prop} {o : Oper} {i : Nat} {K : Act → World → Prop} {a : Act} {w : World} (ho : ops[i]? = some o) (hg : o.guard = none) (h : ∀ Q', o.wp P a w K Q') : wpOp P ops Q i K a w := by
  unfold wpOp
  simp only [ho, wanted_none hg, if_true]
  exact .inl (h _)

set_option maxHeartbeats 2000000 in
theorem joined_any (G : Nat) (xs : Ts) (T : TypeId) (G2 : Nat) (ys : Ts) (T2 : TypeId) (h96 : xs.length ≤ 96) (h96' : ys.length ≤ 96) (w : World) (h0 : At w G (tC xs) T) (h02 : At w G2 (tC ys) T2) :
    Calls Try.prog 74 #[.slice (some ⟨G, 0, none⟩) xs.length xs.length, .slice (some ⟨G2, 0, none⟩) ys.length ys.length, (.func (Fn.func 75) #[] #[]), (.func (Fn.func 76) #[] #[])] w
      fun e w' => (∃ v, e = .returned v ∧ OwnT w' w.heap.size v (join xs ys)) ∧ Below w.heap.size w w' := by
  have KT := turnOf_any
  have KB := busier_any
  have HX := Lib.hid h0
  have HY := Lib.hid h02
  have HG := Lib.hid (show ∀ q, w.heap.size ≤ q → q ≠ G ∧ q ≠ G2 from fun q hq => by have := h0.lt; have := h02.lt; omega)
  have HJ := Lib.hid (show (join xs ys).length ≤ 192 from Nat.le_trans (join_len xs ys) (by omega))
  obtain ⟨n, hnn⟩ : ∃ n, n = xs.length := ⟨_, rfl⟩
  obtain ⟨n2, hnn2⟩ : ∃ n2, n2 = ys.length := ⟨_, rfl⟩
  rw [← hnn] at h96 ⊢
  rw [← hnn2] at h96' ⊢
  have HN := Lib.hid hnn
  have HN2 := Lib.hid hnn2
  clear hnn hnn2 h0 h02
  go_enter Try.func74, Try.ntmps74
  go_wp2
  go_loopw [0, 1, 9] (fun va vb vl wr => ∃ (i k m1 m2 : Nat) (L : Ts) (pa pb : Addr), i + m1 = n ∧ k + m2 = n2 ∧ va = .slice (some pa) m1 m1 ∧ vb = .slice (some pb) m2 m2 ∧ (0 < m1 → pa = ⟨G, i * 3, none⟩) ∧ (0 < m2 → pb = ⟨G2, k * 3, none⟩) ∧ Hid (L ++ join (xs.drop i) (ys.drop k) = join xs ys) ∧ OwnT wr w.heap.size vl L ∧ At wr G (tC xs) T ∧ At wr G2 (tC ys) T2 ∧ Hid (Below w.heap.size w wr)) (fun va vb _ _ => lenOf va + lenOf vb)
  case atStart => exact ⟨0, 0, n, n2, [], _, _, by omega, by omega, rfl, rfl, fun _ => by rw [Nat.zero_mul], fun _ => by rw [Nat.zero_mul], Lib.hid rfl, OwnT.nil _ _, HX.out, HY.out, Lib.hid (Below.refl _ _)⟩
  case round =>
    obtain ⟨i, k, m1, m2, L, pa, pb, hi1, hk1, rfl, rfl, hpa, hpb, hL, O1, A1, C1, B1⟩ := hrel
    have hLl : L.length ≤ 192 := by have h1 := HJ.out; rw [← hL.out, List.length_append] at h1; omega
    obtain ⟨i0, hi, hz0, hz1, hz2⟩ := info_tally
    obtain ⟨va, vc, rfl⟩ := O1.any
    by_cases q1 : 0 < m1
    · by_cases q2 : 0 < m2
      · obtain rfl := hpa q1
        obtain rfl := hpb q2
        clear hpa hpb
        have hxl : i < xs.length := by rw [← HN.out]; omega
        have hyl : k < ys.length := by rw [← HN2.out]; omega
        have k1 : (0 : Int) < (m1 : Int) := by omega
        have k2 : (0 : Int) < (m2 : Int) := by omega
        have rt1 := fun w => run_tail w ⟨G, i * 3, none⟩ m1 q1
        have rt2 := fun w => run_tail w ⟨G2, k * 3, none⟩ m2 q2
        have hsl1 := tC_tally hxl (k := i * 3) rfl
        have SS := tC_size xs
        have hle1 : i * 3 + 3 ≤ (tC xs).size := by rw [SS]; omega
        have hsl2 := tC_tally hyl (k := k * 3) rfl
        have SS2 := tC_size ys
        have hle2 : k * 3 + 3 ≤ (tC ys).size := by rw [SS2]; omega
        clear SS SS2
        go_wp2
        by_cases p1 : tn xs i < tn ys k
        · have hL2 := Lib.hid (show (L ++ [tr3 xs i]) ++ join (xs.drop (i + 1)) (ys.drop k) = join xs ys from by rw [← hL.out, jLt hxl hyl p1]; simp)
          have e1 : decide (tn xs i < tn ys k) = true := decide_eq_true p1
          clear hL p1
          have hC := Cb.const wr
          try go_simp
          refine wp_region_cb (by kernel_rfl) (by kernel_rfl) ?_
          skip
          repeat (first
            | go_big_quiet_skip
            | (go_big_quiet_want; first
              | (refine q_partJ 111 _ rfl (i * 3) rfl A1 3 hle1 _ Try.underlying111 rfl (by kernel_rfl) (t1 (tn xs i) (tc xs i) (tf xs i)) hsl1 ?_; go_simp; go_big_quiet_on)
              | (refine q_partJ 111 _ rfl (k * 3) rfl C1 3 hle2 _ Try.underlying111 rfl (by kernel_rfl) (t1 (tn ys k) (tc ys k) (tf ys k)) hsl2 ?_; go_simp; go_big_quiet_on)
              | (go_big_quiet_op; go_big_quiet_on)
              | (go_big_quiet_op; apply Exists.intro; refine ⟨fun w' hw' => ?_, ?_⟩; (go_at_call 75; exact (KT _ _ _ _).mono fun _ _ h => ⟨h.1, hw'.step h.2⟩); go_big_quiet_on)))
          refine wpQuiet_nil ?_
          intro w2 hw2
          have A2 := A1.step hw2
          have C2 := C1.step hw2
          have O2 := O1.step hw2
          have B2 := Lib.hid (bthen B1.out hw2)
          clear A1 C1 O1 B1 hw2 hC
          clear KB KT
          have hws : w.heap.size ≤ w2.heap.size := B2.out.size
          go_wp2_with (first | ((with_reducible refine is_load 111 _ rfl ?_); refine wpList_load_part rfl 111 _ rfl _ (i * 3) rfl (tC xs) _ (by with_reducible assumption) 3 (hle1) _ Try.underlying111 rfl (by kernel_rfl) ((t1 (tn xs i) (tc xs i) (tf xs i))) (hsl1) ?_) | ((with_reducible refine is_bslice 24 1 _ rfl ?_); refine wpList_bslice rfl 24 1 _ rfl #[(0, .agg (t1 (tn xs i) (tc xs i) (tf xs i)))] (by kernel_rfl) _ (run_oneT _ (tn xs i) (tc xs i) (tf xs i)) ?_) | (at_builtin; go_loud (refine wpList_append_own _ rfl _ _ 24 rfl w.heap.size 111 i0 (.agg #[.int .i64 0, .int .i16 0, .int .i16 0]) 3 16 Try.underlying24 hi hz0 hz1 hz2 rfl (by decide) _ (L).length _ rfl (O2.step (b0 _ _)) ⟨w2.heap.size, 0, none⟩ 1 1 (tll (tr3 xs i)) rfl rfl (one_cellsT w2 (tn xs i) (tc xs i) (tf xs i)) (tll_one _) (by unfold maxLen; omega) (by omega) (by simp; omega) ?_)))
          intro v' w5 hown hgrow _
          have O5 := OwnT.grown hown
          have hb5 : Below w.heap.size (w2.alloc (.cells (t1 (tn xs i) (tc xs i) (tf xs i)) 111)) w5 := Below.grownBy hgrow (by rw [World.size_alloc]; have := B2.out.size; omega) (fun q hq => (O2.block q hq).1)
          have B5 := Lib.hid ((bnew B2.out (.cells (t1 (tn xs i) (tc xs i) (tf xs i)) 111)).trans hb5)
          have A5 : At w5 G (tC xs) T := (A2.alloc (.cells (t1 (tn xs i) (tc xs i) (tf xs i)) 111)).keepF hgrow (fun q hq => (HG.out q ((O2.block q hq).1)).1)
          have C5 : At w5 G2 (tC ys) T2 := (C2.alloc (.cells (t1 (tn xs i) (tc xs i) (tf xs i)) 111)).keepF hgrow (fun q hq => (HG.out q ((O2.block q hq).1)).2)
          clear hown hgrow hb5
          go_wp2_with fail
          exact ⟨⟨i + 1, k, m1 - 1, m2, L ++ [tr3 xs i], nxt ⟨G, i * 3, none⟩ m1, _, by omega, by omega, rfl, rfl, fun h => nxt_at (by omega), fun _ => rfl, hL2, O5, A5, C5, B5⟩, by simp [lenOf]; omega⟩
        · by_cases p2 : tn ys k < tn xs i
          · have hL2 := Lib.hid (show (L ++ [tr3 ys k]) ++ join (xs.drop i) (ys.drop (k + 1)) = join xs ys from by rw [← hL.out, jGt hxl hyl p2]; simp)
            have e1 : decide (tn xs i < tn ys k) = false := decide_eq_false p1
            have e2 : decide (tn ys k < tn xs i) = true := decide_eq_true p2
            clear hL p1 p2
            have hC := Cb.const wr
            try go_simp
            refine wp_region_cb (by kernel_rfl) (by kernel_rfl) ?_
            skip
            repeat (first
              | go_big_quiet_skip
              | (go_big_quiet_want; first
                | (refine q_partJ 111 _ rfl (i * 3) rfl A1 3 hle1 _ Try.underlying111 rfl (by kernel_rfl) (t1 (tn xs i) (tc xs i) (tf xs i)) hsl1 ?_; go_simp; go_big_quiet_on)
                | (refine q_partJ 111 _ rfl (k * 3) rfl C1 3 hle2 _ Try.underlying111 rfl (by kernel_rfl) (t1 (tn ys k) (tc ys k) (tf ys k)) hsl2 ?_; go_simp; go_big_quiet_on)
                | (go_big_quiet_op; go_big_quiet_on)
                | (go_big_quiet_op; apply Exists.intro; refine ⟨fun w' hw' => ?_, ?_⟩; (go_at_call 75; exact (KT _ _ _ _).mono fun _ _ h => ⟨h.1, hw'.step h.2⟩); go_big_quiet_on)))
            refine wpQuiet_nil ?_
            intro w2 hw2
            have A2 := A1.step hw2
            have C2 := C1.step hw2
            have O2 := O1.step hw2
            have B2 := Lib.hid (bthen B1.out hw2)
            clear A1 C1 O1 B1 hw2 hC
            go_wp2
            have hC := Cb.const w2
            try go_simp
            refine wp_region_cb (by kernel_rfl) (by kernel_rfl) ?_
            skip
            repeat (first
              | go_big_quiet_skip
              | (go_big_quiet_want; first
                | (refine q_partJ 111 _ rfl (i * 3) rfl A2 3 hle1 _ Try.underlying111 rfl (by kernel_rfl) (t1 (tn xs i) (tc xs i) (tf xs i)) hsl1 ?_; go_simp; go_big_quiet_on)
                | (refine q_partJ 111 _ rfl (k * 3) rfl C2 3 hle2 _ Try.underlying111 rfl (by kernel_rfl) (t1 (tn ys k) (tc ys k) (tf ys k)) hsl2 ?_; go_simp; go_big_quiet_on)
                | (go_big_quiet_op; go_big_quiet_on)
                | (go_big_quiet_op; apply Exists.intro; refine ⟨fun w' hw' => ?_, ?_⟩; (go_at_call 75; exact (KT _ _ _ _).mono fun _ _ h => ⟨h.1, hw'.step h.2⟩); go_big_quiet_on)))
            refine wpQuiet_nil ?_
            intro w3 hw3
            have A3 := A2.step hw3
            have C3 := C2.step hw3
            have O3 := O2.step hw3
            have B3 := Lib.hid (bthen B2.out hw3)
            clear A2 C2 O2 B2 hw3 hC
            clear KB KT
            have hws : w.heap.size ≤ w3.heap.size := B3.out.size
            go_wp2_with (first | ((with_reducible refine is_load 111 _ rfl ?_); refine wpList_load_part rfl 111 _ rfl _ (k * 3) rfl (tC ys) _ (by with_reducible assumption) 3 (hle2) _ Try.underlying111 rfl (by kernel_rfl) ((t1 (tn ys k) (tc ys k) (tf ys k))) (hsl2) ?_) | ((with_reducible refine is_bslice 24 1 _ rfl ?_); refine wpList_bslice rfl 24 1 _ rfl #[(0, .agg (t1 (tn ys k) (tc ys k) (tf ys k)))] (by kernel_rfl) _ (run_oneT _ (tn ys k) (tc ys k) (tf ys k)) ?_) | (at_builtin; go_loud (refine wpList_append_own _ rfl _ _ 24 rfl w.heap.size 111 i0 (.agg #[.int .i64 0, .int .i16 0, .int .i16 0]) 3 16 Try.underlying24 hi hz0 hz1 hz2 rfl (by decide) _ (L).length _ rfl (O3.step (b0 _ _)) ⟨w3.heap.size, 0, none⟩ 1 1 (tll (tr3 ys k)) rfl rfl (one_cellsT w3 (tn ys k) (tc ys k) (tf ys k)) (tll_one _) (by unfold maxLen; omega) (by omega) (by simp; omega) ?_)))
            intro v' w5 hown hgrow _
            have O5 := OwnT.grown hown
            have hb5 : Below w.heap.size (w3.alloc (.cells (t1 (tn ys k) (tc ys k) (tf ys k)) 111)) w5 := Below.grownBy hgrow (by rw [World.size_alloc]; have := B3.out.size; omega) (fun q hq => (O3.block q hq).1)
            have B5 := Lib.hid ((bnew B3.out (.cells (t1 (tn ys k) (tc ys k) (tf ys k)) 111)).trans hb5)
            have A5 : At w5 G (tC xs) T := (A3.alloc (.cells (t1 (tn ys k) (tc ys k) (tf ys k)) 111)).keepF hgrow (fun q hq => (HG.out q ((O3.block q hq).1)).1)
            have C5 : At w5 G2 (tC ys) T2 := (C3.alloc (.cells (t1 (tn ys k) (tc ys k) (tf ys k)) 111)).keepF hgrow (fun q hq => (HG.out q ((O3.block q hq).1)).2)
            clear hown hgrow hb5
            go_wp2_with fail
            exact ⟨⟨i, k + 1, m1, m2 - 1, L ++ [tr3 ys k], _, nxt ⟨G2, k * 3, none⟩ m2, by omega, by omega, rfl, rfl, fun _ => rfl, fun h => nxt_at (by omega), hL2, O5, A5, C5, B5⟩, by simp [lenOf]; omega⟩
          · have hL2 := Lib.hid (show (L ++ [(bst (tr3 xs i) (tr3 ys k))]) ++ join (xs.drop (i + 1)) (ys.drop (k + 1)) = join xs ys from by rw [← hL.out, jEq hxl hyl p1 p2]; simp)
            have e1 : decide (tn xs i < tn ys k) = false := decide_eq_false p1
            have e2 : decide (tn ys k < tn xs i) = false := decide_eq_false p2
            clear hL p1 p2
            have hC := Cb.const wr
            try go_simp
            refine wp_region_cb (by kernel_rfl) (by kernel_rfl) ?_
            skip
            repeat (first
              | go_big_quiet_skip
              | (go_big_quiet_want; first
                | (refine q_partJ 111 _ rfl (i * 3) rfl A1 3 hle1 _ Try.underlying111 rfl (by kernel_rfl) (t1 (tn xs i) (tc xs i) (tf xs i)) hsl1 ?_; go_simp; go_big_quiet_on)
                | (refine q_partJ 111 _ rfl (k * 3) rfl C1 3 hle2 _ Try.underlying111 rfl (by kernel_rfl) (t1 (tn ys k) (tc ys k) (tf ys k)) hsl2 ?_; go_simp; go_big_quiet_on)
                | (go_big_quiet_op; go_big_quiet_on)
                | (go_big_quiet_op; apply Exists.intro; refine ⟨fun w' hw' => ?_, ?_⟩; (go_at_call 75; exact (KT _ _ _ _).mono fun _ _ h => ⟨h.1, hw'.step h.2⟩); go_big_quiet_on)))
            refine wpQuiet_nil ?_
            intro w2 hw2
            have A2 := A1.step hw2
            have C2 := C1.step hw2
            have O2 := O1.step hw2
            have B2 := Lib.hid (bthen B1.out hw2)
            clear A1 C1 O1 B1 hw2 hC
            go_wp2
            have hC := Cb.const w2
            try go_simp
            refine wp_region_cb (by kernel_rfl) (by kernel_rfl) ?_
            skip
            repeat (first
              | go_big_quiet_skip
              | (go_big_quiet_want; first
                | (refine q_partJ 111 _ rfl (i * 3) rfl A2 3 hle1 _ Try.underlying111 rfl (by kernel_rfl) (t1 (tn xs i) (tc xs i) (tf xs i)) hsl1 ?_; go_simp; go_big_quiet_on)
                | (refine q_partJ 111 _ rfl (k * 3) rfl C2 3 hle2 _ Try.underlying111 rfl (by kernel_rfl) (t1 (tn ys k) (tc ys k) (tf ys k)) hsl2 ?_; go_simp; go_big_quiet_on)
                | (go_big_quiet_op; go_big_quiet_on)
                | (go_big_quiet_op; apply Exists.intro; refine ⟨fun w' hw' => ?_, ?_⟩; (go_at_call 75; exact (KT _ _ _ _).mono fun _ _ h => ⟨h.1, hw'.step h.2⟩); go_big_quiet_on)))
            refine wpQuiet_nil ?_
            intro w3 hw3
            have A3 := A2.step hw3
            have C3 := C2.step hw3
            have O3 := O2.step hw3
            have B3 := Lib.hid (bthen B2.out hw3)
            clear A2 C2 O2 B2 hw3 hC
            go_wp2
            have KB := KB (tn xs i) (tc xs i) (tf xs i) (tn ys k) (tc ys k) (tf ys k)
            have eb : bst (tn xs i, tc xs i, tf xs i) (tn ys k, tc ys k, tf ys k) = (bst (tr3 xs i) (tr3 ys k)) := rfl
            rw [eb] at KB
            generalize (bst (tr3 xs i) (tr3 ys k)) = z at *
            obtain ⟨z1, z2, z3⟩ := z
            refine wp_region_held (S := fun w' => At w' G (tC xs) T ∧ At w' G2 (tC ys) T2) (by kernel_rfl) ?_
            show wpAnyH _ _ _ _ _ 12 (Array.replicate 12 false) _ _
            have SS : At { w3 with drawn := w3.drawn + 1 } G (tC xs) T ∧ At { w3 with drawn := w3.drawn + 1 } G2 (tC ys) T2 := ⟨A3, C3⟩
            have O4 : OwnT { w3 with drawn := w3.drawn + 1 } w.heap.size (.slice va L.length vc) L := O3
            have B4 : Hid (Below w.heap.size w { w3 with drawn := w3.drawn + 1 }) := Lib.hid ⟨B3.out.1, B3.out.2, B3.out.3, B3.out.4, B3.out.5⟩
            generalize ({ w3 with drawn := w3.drawn + 1 } : World) = w4 at SS O4 B4 ⊢
            clear A3 C3 O3 B3
            refine wpAnyH_take (i := 0) (v := .slice va L.length vc) rfl (by kernel_rfl) (by kernel_rfl) (by kernel_rfl) (fun _ _ _ h => h) (yif rfl fun w' hw' => x_moved (.tmp 9) rfl (by kernel_rfl)) SS ?_
            refine wpAnyH_take (i := 1) (v := (.func (Fn.func 76) #[] #[])) rfl (by kernel_rfl) (by kernel_rfl) (by kernel_rfl) (fun _ _ _ h => h) (yif rfl fun w' hw' => x_moved (.tmp 3) rfl (by kernel_rfl)) SS ?_
            refine wpAnyH_take (i := 2) (v := .slice (some ⟨G, i * 3, none⟩) m1 m1) rfl (by kernel_rfl) (by kernel_rfl) (by kernel_rfl) (fun _ _ _ h => h) (yif rfl fun w' hw' => x_moved (.tmp 0) rfl (by kernel_rfl)) SS ?_
            refine wpAnyH_take (i := 3) (v := .pointer (some ⟨G, i * 3, none⟩)) rfl (by kernel_rfl) (by kernel_rfl) (by kernel_rfl) (fun _ _ _ h => h) (yif rfl fun w' hw' => x_index 24 (.tmp 20) _ rfl _ _ (by kernel_rfl) (by kernel_rfl) (run_indexS w' 24 111 G (i * 3) m1 m1 0 3 Try.underlying24 (by kernel_rfl) q1)) SS ?_
            refine wpAnyH_take (i := 4) (v := .agg (t1 (tn xs i) (tc xs i) (tf xs i))) rfl (by kernel_rfl) (by kernel_rfl) (by kernel_rfl) (fun _ _ _ h => h) (yif rfl fun w' hw' => x_load 111 _ rfl ⟨G, i * 3, none⟩ (by kernel_rfl) (by rw [← hsl1]; exact run_loadAt_part w' _ _ 3 111 _ _ (0, 0) _ hw'.1 Try.underlying111 rfl (by kernel_rfl) hle1)) SS ?_
            refine wpAnyH_take (i := 5) (v := .slice (some ⟨G2, k * 3, none⟩) m2 m2) rfl (by kernel_rfl) (by kernel_rfl) (by kernel_rfl) (fun _ _ _ h => h) (yif rfl fun w' hw' => x_moved (.tmp 1) rfl (by kernel_rfl)) SS ?_
            refine wpAnyH_take (i := 6) (v := .pointer (some ⟨G2, k * 3, none⟩)) rfl (by kernel_rfl) (by kernel_rfl) (by kernel_rfl) (fun _ _ _ h => h) (yif rfl fun w' hw' => x_index 24 (.tmp 23) _ rfl _ _ (by kernel_rfl) (by kernel_rfl) (run_indexS w' 24 111 G2 (k * 3) m2 m2 0 3 Try.underlying24 (by kernel_rfl) q2)) SS ?_
            refine wpAnyH_take (i := 7) (v := .agg (t1 (tn ys k) (tc ys k) (tf ys k))) rfl (by kernel_rfl) (by kernel_rfl) (by kernel_rfl) (fun _ _ _ h => h) (yif rfl fun w' hw' => x_load 111 _ rfl ⟨G2, k * 3, none⟩ (by kernel_rfl) (by rw [← hsl2]; exact run_loadAt_part w' _ _ 3 111 _ _ (0, 0) _ hw'.2 Try.underlying111 rfl (by kernel_rfl) hle2)) SS ?_
            refine wpAnyH_all (rs := [8]) (by kernel_rfl) (by simp) fun _ hi8 => ?_
            obtain rfl := one_of hi8
            refine op_call (f := 76) (args := #[.agg (t1 (tn xs i) (tc xs i) (tf xs i)), .agg (t1 (tn ys k) (tc ys k) (tf ys k))]) rfl rfl (by kernel_rfl) ((KB w4).mono ?_)
            rintro e w5 ⟨rfl, hb5⟩
            have O6 := O4.step hb5
            have B6 := Lib.hid (bthen B4.out hb5)
            have SS5 : At w5 G (tC xs) T ∧ At w5 G2 (tC ys) T2 := ⟨SS.1.step hb5, SS.2.step hb5⟩
            refine ⟨_, rfl, SS5, ?_⟩
            clear SS O4 B4 hb5
            refine wpAnyH_all (rs := [9]) (by kernel_rfl) (by simp) fun _ hi8 => ?_
            obtain rfl := one_of hi8
            refine op_value rfl rfl (x_bslice 24 1 _ rfl #[(0, .agg (t1 z1 z2 z3))] (by kernel_rfl) (run_oneT _ z1 z2 z3)) ⟨⟨SS5.1.alloc _, SS5.2.alloc _⟩, ?_⟩
            refine wpAnyH_all (rs := [10]) (by kernel_rfl) (by simp) fun _ hi8 => ?_
            obtain rfl := one_of hi8
            have hws : w.heap.size ≤ w5.heap.size := B6.out.size
            refine op_wp rfl rfl fun Q' => wp_append_own _ (.tmp 18) (.tmp 27) 24 rfl w.heap.size 111 i0 (.agg #[.int .i64 0, .int .i16 0, .int .i16 0]) 3 16 Try.underlying24 hi hz0 hz1 hz2 rfl (by decide) (.slice va L.length vc) L.length _ (by kernel_rfl) (O6.step (b0 _ _)) ⟨w5.heap.size, 0, none⟩ 1 1 (tll (z1, z2, z3)) (by kernel_rfl) rfl (one_cellsT w5 z1 z2 z3) (tll_one _) (by unfold maxLen; omega) (by omega) (by rw [World.size_alloc]; omega) ?_
            intro v' wn hown hgrow _
            have O5 := OwnT.grown hown
            have hb5 : Below w.heap.size (w5.alloc (.cells (t1 z1 z2 z3) 111)) wn := Below.grownBy hgrow (by rw [World.size_alloc]; omega) (fun q hq => (O6.block q hq).1)
            have B5 := Lib.hid ((bnew B6.out (.cells (t1 z1 z2 z3) 111)).trans hb5)
            have A5 : At wn G (tC xs) T := (SS5.1.alloc (.cells (t1 z1 z2 z3) 111)).keepF hgrow (fun q hq => (HG.out q ((O6.block q hq).1)).1)
            have C5 : At wn G2 (tC ys) T2 := (SS5.2.alloc (.cells (t1 z1 z2 z3) 111)).keepF hgrow (fun q hq => (HG.out q ((O6.block q hq).1)).2)
            clear hown hgrow hb5 SS5 O6 B6
            refine ⟨⟨A5, C5⟩, ?_⟩
            refine wpAnyH_all (rs := [11]) (by kernel_rfl) (by simp) fun _ hi8 => ?_
            obtain rfl := one_of hi8
            refine op_value (v := v') rfl rfl (x_assigned (.tmp 28) rfl (by kernel_rfl)) ⟨⟨A5, C5⟩, ?_⟩
            refine wpAnyH_done (by kernel_rfl) ?_ _
            go_simp
            go_wp2
            go_quiet (fail)
            go_wp2
            exact ⟨⟨i + 1, k + 1, m1 - 1, m2 - 1, L ++ [(z1, z2, z3)], nxt ⟨G, i * 3, none⟩ m1, nxt ⟨G2, k * 3, none⟩ m2, by omega, by omega, rfl, rfl, fun h => nxt_at (by omega), fun h => nxt_at (by omega), hL2, O5, A5, C5, Lib.hid (bdrew B5.out _)⟩, by simp [lenOf]; omega⟩
      · obtain rfl : m2 = 0 := by omega
        have hxi : (xs.drop i).length = m1 := by rw [List.length_drop, ← HN.out]; omega
        have hyk : (ys.drop k).length = 0 := by rw [List.length_drop, ← HN2.out]; omega
        have hc1 := rest_cells A1 (i := i) (m := m1) (p := pa) (by rw [← HN.out]; omega) hpa
        have hL2 := Lib.hid (show (L ++ xs.drop i) ++ ys.drop k = join xs ys from by rw [← hL.out, show ys.drop k = [] from List.drop_eq_nil_of_le (by rw [← HN2.out]; omega), join_nil2]; simp)
        have hws := B1.out.size
        clear hL hpa
        go_wp2_with (first | (at_builtin; go_loud (refine wpList_append_own _ rfl _ _ 24 rfl w.heap.size 111 i0 (.agg #[.int .i64 0, .int .i16 0, .int .i16 0]) 3 16 Try.underlying24 hi hz0 hz1 hz2 rfl (by decide) _ L.length _ rfl O1 pa m1 m1 (tL (xs.drop i)) rfl (by rw [tL_length]; omega) hc1 (tL_one _) (by unfold maxLen; omega) (by omega) hws ?_)))
        intro v5 w5 hown hgrow _
        have O5 : OwnT w5 w.heap.size v5 (L ++ xs.drop i) := OwnT.grownL (by rw [hxi]; exact hown)
        have hb5 : Below w.heap.size wr w5 := Below.grownBy hgrow hws (fun q hq => (O1.block q hq).1)
        have B5 := Lib.hid (B1.out.trans hb5)
        have C5 : At w5 G2 (tC ys) T2 := C1.keepF hgrow (fun q hq => (HG.out q ((O1.block q hq).1)).2)
        have hc2 := rest_cells C5 (i := k) (m := 0) (p := pb) (by rw [← HN2.out]; omega) hpb
        have hws5 := B5.out.size
        have hl5 : (L ++ xs.drop i).length ≤ 192 + 96 := by rw [List.length_append, hxi]; omega
        clear hown hgrow hb5 hpb hc1 A1 C1 O1 B1
        generalize L ++ xs.drop i = L5 at *
        go_wp2_with (first | (at_builtin; go_loud (refine wpList_append_own _ rfl _ _ 24 rfl w.heap.size 111 i0 (.agg #[.int .i64 0, .int .i16 0, .int .i16 0]) 3 16 Try.underlying24 hi hz0 hz1 hz2 rfl (by decide) _ L5.length _ rfl O5 pb 0 0 (tL (ys.drop k)) rfl (by rw [tL_length]; omega) hc2 (tL_one _) (by unfold maxLen; omega) (by omega) hws5 ?_)))
        intro v6 w6 hown hgrow _
        have O6 : OwnT w6 w.heap.size v6 (L5 ++ ys.drop k) := OwnT.grownL (by rw [hyk]; exact hown)
        have B6 := Lib.hid (B5.out.trans (Below.grownBy hgrow hws5 (fun q hq => (O5.block q hq).1)))
        rw [hL2.out] at O6
        clear hown hgrow
        go_wp2_with fail
        go_ret
        exact ⟨⟨_, rfl, O6⟩, B6.out⟩
    · obtain rfl : m1 = 0 := by omega
      have hxi : (xs.drop i).length = 0 := by rw [List.length_drop, ← HN.out]; omega
      have hyk : (ys.drop k).length = m2 := by rw [List.length_drop, ← HN2.out]; omega
      have hc1 := rest_cells A1 (i := i) (m := 0) (p := pa) (by rw [← HN.out]; omega) hpa
      have hL2 := Lib.hid (show (L ++ xs.drop i) ++ ys.drop k = join xs ys from by rw [← hL.out, show xs.drop i = [] from List.drop_eq_nil_of_le (by rw [← HN.out]; omega), join_nil]; simp)
      have hws := B1.out.size
      clear hL hpa
      go_wp2_with (first | (at_builtin; go_loud (refine wpList_append_own _ rfl _ _ 24 rfl w.heap.size 111 i0 (.agg #[.int .i64 0, .int .i16 0, .int .i16 0]) 3 16 Try.underlying24 hi hz0 hz1 hz2 rfl (by decide) _ L.length _ rfl O1 pa 0 0 (tL (xs.drop i)) rfl (by rw [tL_length]; omega) hc1 (tL_one _) (by unfold maxLen; omega) (by omega) hws ?_)))
      intro v5 w5 hown hgrow _
      have O5 : OwnT w5 w.heap.size v5 (L ++ xs.drop i) := OwnT.grownL (by rw [hxi]; exact hown)
      have hb5 : Below w.heap.size wr w5 := Below.grownBy hgrow hws (fun q hq => (O1.block q hq).1)
      have B5 := Lib.hid (B1.out.trans hb5)
      have C5 : At w5 G2 (tC ys) T2 := C1.keepF hgrow (fun q hq => (HG.out q ((O1.block q hq).1)).2)
      have hc2 := rest_cells C5 (i := k) (m := m2) (p := pb) (by rw [← HN2.out]; omega) hpb
      have hws5 := B5.out.size
      have hl5 : (L ++ xs.drop i).length ≤ 192 + 96 := by rw [List.length_append, hxi]; omega
      clear hown hgrow hb5 hpb hc1 A1 C1 O1 B1
      generalize L ++ xs.drop i = L5 at *
      go_wp2_with (first | (at_builtin; go_loud (refine wpList_append_own _ rfl _ _ 24 rfl w.heap.size 111 i0 (.agg #[.int .i64 0, .int .i16 0, .int .i16 0]) 3 16 Try.underlying24 hi hz0 hz1 hz2 rfl (by decide) _ L5.length _ rfl O5 pb m2 m2 (tL (ys.drop k)) rfl (by rw [tL_length]; omega) hc2 (tL_one _) (by unfold maxLen; omega) (by omega) hws5 ?_)))
      intro v6 w6 hown hgrow _
      have O6 : OwnT w6 w.heap.size v6 (L5 ++ ys.drop k) := OwnT.grownL (by rw [hyk]; exact hown)
      have B6 := Lib.hid (B5.out.trans (Below.grownBy hgrow hws5 (fun q hq => (O5.block q hq).1)))
      rw [hL2.out] at O6
      clear hown hgrow
      go_wp2_with fail
      go_ret
      exact ⟨⟨_, rfl, O6⟩, B6.out⟩

end Go.Proofs.Ytlffcpoooaoneaa
