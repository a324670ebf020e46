/-
  CONTRACTS: the steps until a road is empty, until it is full: the model's.
-/
import Derived.Test.YtpcobfcnpeoihaaStepsTo
import Derived.Test.YtpcobfcnpeoihaaG16
namespace Go.Proofs.Ytpcobfcnpeoihaa
open Go Go.RowKit Go.Shelf
set_option maxRecDepth 100000

set_option maxHeartbeats 1000000 in
theorem sStepsToEmpty_any (cs : List Nat) (p b l : Nat) (hl : cs.length = 16) (hc : ∀ x ∈ cs, x < 4294967296) (hp : p < 4294967296) (hb : b < 4294967296) (hla : l < 4294967296) (n : Int) (hn : -9223372036854775808 ≤ n ∧ n ≤ 9223372036854775807) (w : World) :
    Calls Try.prog 7 #[.agg (rd cs p b l), .int .i64 n] w fun e w' => e = .returned (.tuple #[.int .i64 (vToEmpty cs p b l n).1, .int .i64 (vToEmpty cs p b l n).2]) ∧ Below w.heap.size w w' := by
  have hr := RoadAt.new w cs p b l 28
  have A0 := At.new w (rd cs p b l) 28
  have B0 := Lib.hid (b0 w (.cells (rd cs p b l) 28))
  cases h : okB cs p b l
  · have e : vToEmpty cs p b l n = (0, 1) := by unfold vToEmpty stepsC givenC; rw [h]; rfl
    rw [e]
    clear e
    go_enter Try.func7, Try.ntmps7
    go_wp2_with fail
    refine (l01Ok_any _ cs p b l hl hc hp hb hla _ hr).mono ?_
    rw [h]
    rintro e w1 ⟨rfl, n1, rfl⟩
    go_wp2_with fail
    go_ret2
    exact ⟨rfl, bdrew B0.out _⟩
  have hg : givenC (okB cs p b l) 0 1065353216 = 0 := by unfold givenC; rw [h]; rfl
  by_cases hn2 : 0 ≤ n ∧ n ≤ 400
  · obtain ⟨N, rfl⟩ := Int.eq_ofNat_of_zero_le hn2.1
    have dn : decide (0 ≤ (N : Int) ∧ (N : Int) ≤ 400) = true := decide_eq_true hn2
    have HN : Hid (N ≤ 400) := Lib.hid (by omega)
    have e : vToEmpty cs p b l (N : Int) = untilF (fun k => emptyW l (itL p b cs (fun _ => 0) (fun _ => 1065353216) k)) 0 N := by unfold vToEmpty; rw [if_pos (by unfold stepsC; rw [if_pos hg, if_pos hn2]), Int.toNat_natCast]
    rw [e]
    clear e
    have gz := given_zero hg
    have ok := OkR.of hl gz.1
    have GZ := Lib.hid gz.2
    clear gz hg hn2
    go_enter Try.func7, Try.ntmps7
    go_wp2_with fail
    refine (l01Ok_any _ cs p b l hl hc hp hb hla _ hr).mono ?_
    rw [h]
    rintro e w1 ⟨rfl, n1, rfl⟩
    go_wp2_with fail
    refine (l00In_any (N : Int) 0 400 _).mono ?_
    rw [dn]
    rintro e w3 ⟨rfl, n3, rfl⟩
    have R2 := A0.drewN (n1 + n3)
    have B2 := Lib.hid (bdrew B0.out (n1 + n3))
    clear hr A0 B0
    go_wp2_with fail
    generalize hw3 : World.drewN _ _ = w3 at R2 B2 ⊢
    clear hw3
    go_loopw [6] (fun i wr => ∃ k : Nat, k ≤ N ∧ i = .int .i64 (k : Int) ∧ Hid (∀ j, j < k → emptyW l (itL p b cs (fun _ => 0) (fun _ => 1065353216) j) = false) ∧ At wr w.heap.size (rd (itL p b cs (fun _ => 0) (fun _ => 1065353216) k) p b l) 28 ∧ Hid (Below w.heap.size w wr)) (fun i _ => 401 - (intOf i).toNat)
    case atStart => exact ⟨0, by omega, rfl, Lib.hid fun j hj => by omega, R2, B2⟩
    case round =>
      clear R2 B2
      obtain ⟨k, hk, rfl, H4, R4, B4⟩ := hrel
      have okk := itL_ok ok (fun _ => 0) (fun _ => 1065353216) k
      have hLk := okk.len
      have hNN := HN.out
      cases hw : emptyW l (itL p b cs (fun _ => 0) (fun _ => 1065353216) k)
      · by_cases hkN : k = N
        · have ck : decide ((k : Int) = (N : Int)) = true := decide_eq_true (by omega)
          have ck' : ((k : Int) == (N : Int)) = true := by simp [hkN]
          have hv : Hid (untilF (fun k => emptyW l (itL p b cs (fun _ => 0) (fun _ => 1065353216) k)) 0 N = (0, 7)) := Lib.hid (untilF_no fun j _ h2 => by
            rcases Nat.lt_or_ge j k with c | c
            · exact H4.out j c
            · obtain rfl : j = k := (by omega)
              exact hw)
          clear hkN
          have d1 := rd_lanes hLk p b l
          have cf := cars_facts okk
          have hs : ∀ t w, (binOp .mul t (.float .f32 (sumW (itL p b cs (fun _ => 0) (fun _ => 1065353216) k) 16)) (.float .f32 l)).run Try.prog w = .ok (.float .f32 (carsW (itL p b cs (fun _ => 0) (fun _ => 1065353216) k) l)) w := fun t w => run_float_arith w .mul t .f32 _ _ _ cf.1
          have hlt := lt_amt (x := carsW (itL p b cs (fun _ => 0) (fun _ => 1065353216) k) l) (y := 981467136) cf.2 (by omega)
          rw [show decide (carsW (itL p b cs (fun _ => 0) (fun _ => 1065353216) k) l < 981467136) = emptyW l (itL p b cs (fun _ => 0) (fun _ => 1065353216) k) from rfl, hw] at hlt
          clear cf
          generalize itL p b cs (fun _ => 0) (fun _ => 1065353216) k = LL at *
          have hC := Cb.const wr
          go_wp2
          refine wp_region_cb (by kernel_rfl) (by kernel_rfl) ?_
          repeat (first
            | go_big_quiet_skip
            | (go_big_quiet_want; first
              | (refine q_cell 24 _ rfl _ Try.underlying24 _ rfl R4 _ d1 ?_; go_simp; go_big_quiet_on)
              | (go_big_quiet_op; go_big_quiet_on)
              | (go_big_quiet_op; apply Exists.intro; refine ⟨fun w' hw' => ?_, ?_⟩; (go_at_call 25; exact (l01Sum_b _ _ p b l okk _ (RoadAt.ofAt (R4.step hw'))).mono fun _ _ h => ⟨h.1, hw'.step h.2⟩); go_big_quiet_on)))
          refine wpQuiet_nil ?_
          intro w4 hw4
          have R5 := R4.step hw4
          have B5 := Lib.hid (bthen B4.out hw4)
          clear R4 B4 hC hw4
          go_wp2_with fail
          go_ret2
          exact ⟨by rw [hv.out]; rfl, B5.out⟩
        · have ck : decide ((k : Int) = (N : Int)) = false := decide_eq_false (by omega)
          have ck' : ((k : Int) == (N : Int)) = false := by simp; omega
          have hkl : k < N := by omega
          have H9 : Hid (∀ j, j < k + 1 → emptyW l (itL p b cs (fun _ => 0) (fun _ => 1065353216) j) = false) := Lib.hid fun j hj => by
            rcases Nat.lt_or_ge j k with c | c
            · exact H4.out j c
            · obtain rfl : j = k := (by omega)
              exact hw
          clear hkN
          have s2 : IntKind.i64.wrap ((k : Int) + 1) = (k : Int) + 1 := IntWalk.i64_in _ (by omega)
          obtain ⟨ns, hns⟩ : ∃ ns, ns = itF p b cs (fun _ => 0) (fun _ => 1065353216) k := ⟨_, rfl⟩
          have hn17 : ns.length = 17 := by rw [hns]; exact itF_len _ _ _ _ _ _
          have hnb : ∀ x ∈ ns, x ≤ 1065353216 := by rw [hns]; exact itF_le ok _ _ k
          have e1 : itL p b cs (fun _ => 0) (fun _ => 1065353216) (k + 1) = stepL (itL p b cs (fun _ => 0) (fun _ => 1065353216) k) (intoL ns) (outL ns) := by rw [hns]; rfl
          have HE := Lib.hid (And.intro hns e1)
          clear hns e1
          have FZ : (fl ns).size = 17 := by rw [fl_size, hn17]
          have KF : ∀ W, At W w.heap.size (rd (itL p b cs (fun _ => 0) (fun _ => 1065353216) k) p b l) 28 → Calls Try.prog 26 #[.pointer (some ⟨w.heap.size, 0, none⟩), .float .f32 0, .float .f32 1065353216] W fun e w' => e = .returned (.agg (fl ns)) ∧ Below W.heap.size W w' := fun W hA => by
            rw [HE.out.1]; exact l02Flows_any _ _ p b l okk 0 1065353216 GZ.out.1 GZ.out.2 W _ hA
          have KS : ∀ W gf, At W w.heap.size (rd (itL p b cs (fun _ => 0) (fun _ => 1065353216) k) p b l) 28 → At W gf (fl ns) 55 → Calls Try.prog 27 #[.pointer (some ⟨w.heap.size, 0, none⟩), .pointer (some ⟨gf, 0, none⟩)] W fun e w' => e = .returned (.agg (rd (itL p b cs (fun _ => 0) (fun _ => 1065353216) (k + 1)) p b l)) ∧ Below W.heap.size W w' := fun W gf hA hF => by
            rw [HE.out.2]; exact l02Step_any _ gf _ ns p b l hLk hn17 okk.cars hnb W _ _ hA hF
          have SK : (rd (itL p b cs (fun _ => 0) (fun _ => 1065353216) k) p b l).size = 19 := rd_size hLk p b l
          have SK1 : (rd (itL p b cs (fun _ => 0) (fun _ => 1065353216) (k + 1)) p b l).size = 19 := rd_size (itL_ok ok (fun _ => 0) (fun _ => 1065353216) (k + 1)).len p b l
          have d1 := rd_lanes hLk p b l
          have cf := cars_facts okk
          have hs : ∀ t w, (binOp .mul t (.float .f32 (sumW (itL p b cs (fun _ => 0) (fun _ => 1065353216) k) 16)) (.float .f32 l)).run Try.prog w = .ok (.float .f32 (carsW (itL p b cs (fun _ => 0) (fun _ => 1065353216) k) l)) w := fun t w => run_float_arith w .mul t .f32 _ _ _ cf.1
          have hlt := lt_amt (x := carsW (itL p b cs (fun _ => 0) (fun _ => 1065353216) k) l) (y := 981467136) cf.2 (by omega)
          rw [show decide (carsW (itL p b cs (fun _ => 0) (fun _ => 1065353216) k) l < 981467136) = emptyW l (itL p b cs (fun _ => 0) (fun _ => 1065353216) k) from rfl, hw] at hlt
          clear cf
          generalize itL p b cs (fun _ => 0) (fun _ => 1065353216) k = LL at *
          have hC := Cb.const wr
          go_wp2
          refine wp_region_cb (by kernel_rfl) (by kernel_rfl) ?_
          repeat (first
            | go_big_quiet_skip
            | (go_big_quiet_want; first
              | (refine q_cell 24 _ rfl _ Try.underlying24 _ rfl R4 _ d1 ?_; go_simp; go_big_quiet_on)
              | (go_big_quiet_op; go_big_quiet_on)
              | (go_big_quiet_op; apply Exists.intro; refine ⟨fun w' hw' => ?_, ?_⟩; (go_at_call 25; exact (l01Sum_b _ _ p b l okk _ (RoadAt.ofAt (R4.step hw'))).mono fun _ _ h => ⟨h.1, hw'.step h.2⟩); go_big_quiet_on)))
          refine wpQuiet_nil ?_
          intro w4 hw4
          have R5 := R4.step hw4
          have B5 := Lib.hid (bthen B4.out hw4)
          clear R4 B4 hC hw4
          go_wp2_with fail
          refine (KF _ R5).mono ?_
          rintro e' w5 ⟨rfl, hb5⟩
          have R6 := R5.step hb5
          have B6 := Lib.hid (bthen B5.out hb5)
          clear R5 B5 hb5
          have F0 := At.new w5 (fl (zeros 17)) 55
          have F7 := F0.setRow (fl ns)
          have R7 := (R6.alloc (.cells (fl (zeros 17)) 55)).setRow_other (k := w5.heap.size) (Nat.ne_of_lt R6.lt) (fl ns)
          have B7 := Lib.hid (bset (bnew B6.out (.cells (fl (zeros 17)) 55)) (g := w5.heap.size) B6.out.size (fl ns))
          go_wp2_with (((with_reducible refine is_store 55 (.tmp 7) (.tmp 24) rfl ?_); refine wpList_store_at rfl 55 (.tmp 7) (.tmp 24) rfl _ rfl (fl ns) rfl (fl (zeros 17)) _ F0 17 (FZ) (by rw [fl_size, zeros_len]) (by kernel_rfl) (fl_one _) ?_); refine Hid.out ?_)
          refine Lib.hid ?_
          have gl5 := R6.lt
          clear F0 R6 B6
          rw [show (fl (zeros 17) : Array Value) = #[.float .f32 0, .float .f32 0, .float .f32 0, .float .f32 0, .float .f32 0, .float .f32 0, .float .f32 0, .float .f32 0, .float .f32 0, .float .f32 0, .float .f32 0, .float .f32 0, .float .f32 0, .float .f32 0, .float .f32 0, .float .f32 0, .float .f32 0] from rfl] at F7 R7 B7
          generalize hw5 : (w5.alloc (.cells #[.float .f32 0, .float .f32 0, .float .f32 0, .float .f32 0, .float .f32 0, .float .f32 0, .float .f32 0, .float .f32 0, .float .f32 0, .float .f32 0, .float .f32 0, .float .f32 0, .float .f32 0, .float .f32 0, .float .f32 0, .float .f32 0, .float .f32 0] 55)).setRow w5.heap.size (fl ns) = w6 at F7 R7 B7 ⊢
          clear hw5
          generalize w5.heap.size = gf at F7 gl5 ⊢
          try simp only [Act.put]
          go_wp2_with fail
          refine (KS _ gf R7 F7).mono ?_
          rintro e' w7 ⟨rfl, hb7⟩
          have R8 := R7.step hb7
          have B8 := Lib.hid (bthen B7.out hb7)
          clear R7 F7 B7 hb7
          have R9 := R8.setRow (rd (itL p b cs (fun _ => 0) (fun _ => 1065353216) (k + 1)) p b l)
          have B9 := Lib.hid (bset B8.out (g := w.heap.size) (Nat.le_refl _) (rd (itL p b cs (fun _ => 0) (fun _ => 1065353216) (k + 1)) p b l))
          go_wp2_with (((with_reducible refine is_store 28 (.tmp 2) (.tmp 25) rfl ?_); refine wpList_store_at rfl 28 (.tmp 2) (.tmp 25) rfl _ rfl (rd (itL p b cs (fun _ => 0) (fun _ => 1065353216) (k + 1)) p b l) rfl (rd (LL) p b l) _ R8 19 (SK1) (SK) (by kernel_rfl) (fl_one _) ?_))
          exact ⟨⟨k + 1, by omega, by go_num, H9, R9, B9⟩, by simp [intOf]; omega⟩
      · have hv : Hid (untilF (fun k => emptyW l (itL p b cs (fun _ => 0) (fun _ => 1065353216) k)) 0 N = ((k : Int), 0)) := Lib.hid (by
          have := untilF_yes (wt := (fun k => emptyW l (itL p b cs (fun _ => 0) (fun _ => 1065353216) k))) (f := N) (k := 0) (m := k) (fun j _ h2 => H4.out j (by omega)) (by rw [Nat.zero_add]; exact hw) hk
          rwa [Nat.zero_add] at this)
        have d1 := rd_lanes hLk p b l
        have cf := cars_facts okk
        have hs : ∀ t w, (binOp .mul t (.float .f32 (sumW (itL p b cs (fun _ => 0) (fun _ => 1065353216) k) 16)) (.float .f32 l)).run Try.prog w = .ok (.float .f32 (carsW (itL p b cs (fun _ => 0) (fun _ => 1065353216) k) l)) w := fun t w => run_float_arith w .mul t .f32 _ _ _ cf.1
        have hlt := lt_amt (x := carsW (itL p b cs (fun _ => 0) (fun _ => 1065353216) k) l) (y := 981467136) cf.2 (by omega)
        rw [show decide (carsW (itL p b cs (fun _ => 0) (fun _ => 1065353216) k) l < 981467136) = emptyW l (itL p b cs (fun _ => 0) (fun _ => 1065353216) k) from rfl, hw] at hlt
        clear cf
        generalize itL p b cs (fun _ => 0) (fun _ => 1065353216) k = LL at *
        have hC := Cb.const wr
        go_wp2
        refine wp_region_cb (by kernel_rfl) (by kernel_rfl) ?_
        repeat (first
          | go_big_quiet_skip
          | (go_big_quiet_want; first
            | (refine q_cell 24 _ rfl _ Try.underlying24 _ rfl R4 _ d1 ?_; go_simp; go_big_quiet_on)
            | (go_big_quiet_op; go_big_quiet_on)
            | (go_big_quiet_op; apply Exists.intro; refine ⟨fun w' hw' => ?_, ?_⟩; (go_at_call 25; exact (l01Sum_b _ _ p b l okk _ (RoadAt.ofAt (R4.step hw'))).mono fun _ _ h => ⟨h.1, hw'.step h.2⟩); go_big_quiet_on)))
        refine wpQuiet_nil ?_
        intro w4 hw4
        have R5 := R4.step hw4
        have B5 := Lib.hid (bthen B4.out hw4)
        clear R4 B4 hC hw4
        go_wp2_with fail
        go_ret2
        exact ⟨by rw [hv.out]; rfl, B5.out⟩
  · have dn : decide (0 ≤ n ∧ n ≤ 400) = false := decide_eq_false hn2
    have e : vToEmpty cs p b l n = (0, 2) := by unfold vToEmpty; rw [show stepsC (okB cs p b l) 0 1065353216 n = 2 from by unfold stepsC; rw [if_pos hg, if_neg hn2]]; rfl
    rw [e]
    clear e hn2 hg
    go_enter Try.func7, Try.ntmps7
    go_wp2_with fail
    refine (l01Ok_any _ cs p b l hl hc hp hb hla _ hr).mono ?_
    rw [h]
    rintro e w1 ⟨rfl, n1, rfl⟩
    go_wp2_with fail
    refine (l00In_any n 0 400 _).mono ?_
    rw [dn]
    rintro e w3 ⟨rfl, n3, rfl⟩
    go_wp2_with fail
    go_ret2
    exact ⟨rfl, bdrew B0.out _⟩

set_option maxHeartbeats 1000000 in
theorem sStepsToFull_any (cs : List Nat) (p b l : Nat) (hl : cs.length = 16) (hc : ∀ x ∈ cs, x < 4294967296) (hp : p < 4294967296) (hb : b < 4294967296) (hla : l < 4294967296) (o : Nat) (ho : o < 4294967296) (n : Int) (hn : -9223372036854775808 ≤ n ∧ n ≤ 9223372036854775807) (w : World) :
    Calls Try.prog 12 #[.agg (rd cs p b l), .float .f32 o, .int .i64 n] w fun e w' => e = .returned (.tuple #[.int .i64 (vToFull cs p b l o n).1, .int .i64 (vToFull cs p b l o n).2]) ∧ Below w.heap.size w w' := by
  have hr := RoadAt.new w cs p b l 28
  have A0 := At.new w (rd cs p b l) 28
  have B0 := Lib.hid (b0 w (.cells (rd cs p b l) 28))
  cases h : okB cs p b l
  · have e : vToFull cs p b l o n = (0, 1) := by unfold vToFull stepsC givenC; rw [h]; rfl
    rw [e]
    clear e
    go_enter Try.func12, Try.ntmps12
    go_wp2_with fail
    refine (l01Ok_any _ cs p b l hl hc hp hb hla _ hr).mono ?_
    rw [h]
    rintro e w1 ⟨rfl, n1, rfl⟩
    go_wp2_with fail
    go_ret2
    exact ⟨rfl, bdrew B0.out _⟩
  cases ha : amtB o
  · have e : vToFull cs p b l o n = (0, 2) := by unfold vToFull stepsC givenC; rw [h, ha]; rfl
    rw [e]
    clear e
    go_enter Try.func12, Try.ntmps12
    go_wp2_with fail
    refine (l01Ok_any _ cs p b l hl hc hp hb hla _ hr).mono ?_
    rw [h]
    rintro e w1 ⟨rfl, n1, rfl⟩
    go_wp2_with fail
    refine (l01Amount_any o ho _).mono ?_
    rw [ha]
    rintro e w2 ⟨rfl, n2, rfl⟩
    go_wp2_with fail
    go_ret2
    exact ⟨rfl, bdrew B0.out _⟩
  have hg : givenC (okB cs p b l) o 0 = 0 := by unfold givenC; rw [h, ha]; rfl
  by_cases hn2 : 0 ≤ n ∧ n ≤ 400
  · obtain ⟨N, rfl⟩ := Int.eq_ofNat_of_zero_le hn2.1
    have dn : decide (0 ≤ (N : Int) ∧ (N : Int) ≤ 400) = true := decide_eq_true hn2
    have HN : Hid (N ≤ 400) := Lib.hid (by omega)
    have e : vToFull cs p b l o (N : Int) = untilF (fun k => fullW p b (itL p b cs (fun _ => o) (fun _ => 0) k)) 0 N := by unfold vToFull; rw [if_pos (by unfold stepsC; rw [if_pos hg, if_pos hn2]), Int.toNat_natCast]
    rw [e]
    clear e
    have gz := given_zero hg
    have ok := OkR.of hl gz.1
    have GZ := Lib.hid gz.2
    clear gz hg hn2
    go_enter Try.func12, Try.ntmps12
    go_wp2_with fail
    refine (l01Ok_any _ cs p b l hl hc hp hb hla _ hr).mono ?_
    rw [h]
    rintro e w1 ⟨rfl, n1, rfl⟩
    go_wp2_with fail
    refine (l01Amount_any o ho _).mono ?_
    rw [ha]
    rintro e w2 ⟨rfl, n2, rfl⟩
    go_wp2_with fail
    refine (l00In_any (N : Int) 0 400 _).mono ?_
    rw [dn]
    rintro e w3 ⟨rfl, n3, rfl⟩
    have R2 := A0.drewN (n1 + n2 + n3)
    have B2 := Lib.hid (bdrew B0.out (n1 + n2 + n3))
    clear hr A0 B0
    go_wp2_with fail
    generalize hw3 : World.drewN _ _ = w3 at R2 B2 ⊢
    clear hw3
    go_loopw [8] (fun i wr => ∃ k : Nat, k ≤ N ∧ i = .int .i64 (k : Int) ∧ Hid (∀ j, j < k → fullW p b (itL p b cs (fun _ => o) (fun _ => 0) j) = false) ∧ At wr w.heap.size (rd (itL p b cs (fun _ => o) (fun _ => 0) k) p b l) 28 ∧ Hid (Below w.heap.size w wr)) (fun i _ => 401 - (intOf i).toNat)
    case atStart => exact ⟨0, by omega, rfl, Lib.hid fun j hj => by omega, R2, B2⟩
    case round =>
      clear R2 B2
      obtain ⟨k, hk, rfl, H4, R4, B4⟩ := hrel
      have okk := itL_ok ok (fun _ => o) (fun _ => 0) k
      have hLk := okk.len
      have hNN := HN.out
      cases hw : fullW p b (itL p b cs (fun _ => o) (fun _ => 0) k)
      · by_cases hkN : k = N
        · have ck : decide ((k : Int) = (N : Int)) = true := decide_eq_true (by omega)
          have ck' : ((k : Int) == (N : Int)) = true := by simp [hkN]
          have hv : Hid (untilF (fun k => fullW p b (itL p b cs (fun _ => o) (fun _ => 0) k)) 0 N = (0, 7)) := Lib.hid (untilF_no fun j _ h2 => by
            rcases Nat.lt_or_ge j k with c | c
            · exact H4.out j c
            · obtain rfl : j = k := (by omega)
              exact hw)
          clear hkN
          go_wp2_with fail
          refine (l02Full_b _ (itL p b cs (fun _ => o) (fun _ => 0) k) p b l okk _ (RoadAt.ofAt R4)).mono ?_
          rw [hw]
          rintro e w4 ⟨rfl, n4, rfl⟩
          have R5 := R4.drewN n4
          have B5 := Lib.hid (bdrew B4.out n4)
          generalize hw4 : World.drewN _ _ = w4 at R5 B5 ⊢
          clear R4 B4 hw4
          go_wp2_with fail
          go_ret2
          exact ⟨by rw [hv.out]; rfl, B5.out⟩
        · have ck : decide ((k : Int) = (N : Int)) = false := decide_eq_false (by omega)
          have ck' : ((k : Int) == (N : Int)) = false := by simp; omega
          have hkl : k < N := by omega
          have H9 : Hid (∀ j, j < k + 1 → fullW p b (itL p b cs (fun _ => o) (fun _ => 0) j) = false) := Lib.hid fun j hj => by
            rcases Nat.lt_or_ge j k with c | c
            · exact H4.out j c
            · obtain rfl : j = k := (by omega)
              exact hw
          clear hkN
          have s2 : IntKind.i64.wrap ((k : Int) + 1) = (k : Int) + 1 := IntWalk.i64_in _ (by omega)
          obtain ⟨ns, hns⟩ : ∃ ns, ns = itF p b cs (fun _ => o) (fun _ => 0) k := ⟨_, rfl⟩
          have hn17 : ns.length = 17 := by rw [hns]; exact itF_len _ _ _ _ _ _
          have hnb : ∀ x ∈ ns, x ≤ 1065353216 := by rw [hns]; exact itF_le ok _ _ k
          have e1 : itL p b cs (fun _ => o) (fun _ => 0) (k + 1) = stepL (itL p b cs (fun _ => o) (fun _ => 0) k) (intoL ns) (outL ns) := by rw [hns]; rfl
          have HE := Lib.hid (And.intro hns e1)
          clear hns e1
          have FZ : (fl ns).size = 17 := by rw [fl_size, hn17]
          have KF : ∀ W, At W w.heap.size (rd (itL p b cs (fun _ => o) (fun _ => 0) k) p b l) 28 → Calls Try.prog 26 #[.pointer (some ⟨w.heap.size, 0, none⟩), .float .f32 o, .float .f32 0] W fun e w' => e = .returned (.agg (fl ns)) ∧ Below W.heap.size W w' := fun W hA => by
            rw [HE.out.1]; exact l02Flows_any _ _ p b l okk o 0 GZ.out.1 GZ.out.2 W _ hA
          have KS : ∀ W gf, At W w.heap.size (rd (itL p b cs (fun _ => o) (fun _ => 0) k) p b l) 28 → At W gf (fl ns) 55 → Calls Try.prog 27 #[.pointer (some ⟨w.heap.size, 0, none⟩), .pointer (some ⟨gf, 0, none⟩)] W fun e w' => e = .returned (.agg (rd (itL p b cs (fun _ => o) (fun _ => 0) (k + 1)) p b l)) ∧ Below W.heap.size W w' := fun W gf hA hF => by
            rw [HE.out.2]; exact l02Step_any _ gf _ ns p b l hLk hn17 okk.cars hnb W _ _ hA hF
          have SK : (rd (itL p b cs (fun _ => o) (fun _ => 0) k) p b l).size = 19 := rd_size hLk p b l
          have SK1 : (rd (itL p b cs (fun _ => o) (fun _ => 0) (k + 1)) p b l).size = 19 := rd_size (itL_ok ok (fun _ => o) (fun _ => 0) (k + 1)).len p b l
          go_wp2_with fail
          refine (l02Full_b _ (itL p b cs (fun _ => o) (fun _ => 0) k) p b l okk _ (RoadAt.ofAt R4)).mono ?_
          rw [hw]
          rintro e w4 ⟨rfl, n4, rfl⟩
          have R5 := R4.drewN n4
          have B5 := Lib.hid (bdrew B4.out n4)
          generalize hw4 : World.drewN _ _ = w4 at R5 B5 ⊢
          clear R4 B4 hw4
          go_wp2_with fail
          refine (KF _ R5).mono ?_
          rintro e' w5 ⟨rfl, hb5⟩
          have R6 := R5.step hb5
          have B6 := Lib.hid (bthen B5.out hb5)
          clear R5 B5 hb5
          have F0 := At.new w5 (fl (zeros 17)) 55
          have F7 := F0.setRow (fl ns)
          have R7 := (R6.alloc (.cells (fl (zeros 17)) 55)).setRow_other (k := w5.heap.size) (Nat.ne_of_lt R6.lt) (fl ns)
          have B7 := Lib.hid (bset (bnew B6.out (.cells (fl (zeros 17)) 55)) (g := w5.heap.size) B6.out.size (fl ns))
          go_wp2_with (((with_reducible refine is_store 55 (.tmp 9) (.tmp 28) rfl ?_); refine wpList_store_at rfl 55 (.tmp 9) (.tmp 28) rfl _ rfl (fl ns) rfl (fl (zeros 17)) _ F0 17 (FZ) (by rw [fl_size, zeros_len]) (by kernel_rfl) (fl_one _) ?_); refine Hid.out ?_)
          refine Lib.hid ?_
          have gl5 := R6.lt
          clear F0 R6 B6
          rw [show (fl (zeros 17) : Array Value) = #[.float .f32 0, .float .f32 0, .float .f32 0, .float .f32 0, .float .f32 0, .float .f32 0, .float .f32 0, .float .f32 0, .float .f32 0, .float .f32 0, .float .f32 0, .float .f32 0, .float .f32 0, .float .f32 0, .float .f32 0, .float .f32 0, .float .f32 0] from rfl] at F7 R7 B7
          generalize hw5 : (w5.alloc (.cells #[.float .f32 0, .float .f32 0, .float .f32 0, .float .f32 0, .float .f32 0, .float .f32 0, .float .f32 0, .float .f32 0, .float .f32 0, .float .f32 0, .float .f32 0, .float .f32 0, .float .f32 0, .float .f32 0, .float .f32 0, .float .f32 0, .float .f32 0] 55)).setRow w5.heap.size (fl ns) = w6 at F7 R7 B7 ⊢
          clear hw5
          generalize w5.heap.size = gf at F7 gl5 ⊢
          try simp only [Act.put]
          go_wp2_with fail
          refine (KS _ gf R7 F7).mono ?_
          rintro e' w7 ⟨rfl, hb7⟩
          have R8 := R7.step hb7
          have B8 := Lib.hid (bthen B7.out hb7)
          clear R7 F7 B7 hb7
          have R9 := R8.setRow (rd (itL p b cs (fun _ => o) (fun _ => 0) (k + 1)) p b l)
          have B9 := Lib.hid (bset B8.out (g := w.heap.size) (Nat.le_refl _) (rd (itL p b cs (fun _ => o) (fun _ => 0) (k + 1)) p b l))
          go_wp2_with (((with_reducible refine is_store 28 (.tmp 3) (.tmp 29) rfl ?_); refine wpList_store_at rfl 28 (.tmp 3) (.tmp 29) rfl _ rfl (rd (itL p b cs (fun _ => o) (fun _ => 0) (k + 1)) p b l) rfl (rd (itL p b cs (fun _ => o) (fun _ => 0) k) p b l) _ R8 19 (SK1) (SK) (by kernel_rfl) (fl_one _) ?_))
          exact ⟨⟨k + 1, by omega, by go_num, H9, R9, B9⟩, by simp [intOf]; omega⟩
      · have hv : Hid (untilF (fun k => fullW p b (itL p b cs (fun _ => o) (fun _ => 0) k)) 0 N = ((k : Int), 0)) := Lib.hid (by
          have := untilF_yes (wt := (fun k => fullW p b (itL p b cs (fun _ => o) (fun _ => 0) k))) (f := N) (k := 0) (m := k) (fun j _ h2 => H4.out j (by omega)) (by rw [Nat.zero_add]; exact hw) hk
          rwa [Nat.zero_add] at this)
        go_wp2_with fail
        refine (l02Full_b _ (itL p b cs (fun _ => o) (fun _ => 0) k) p b l okk _ (RoadAt.ofAt R4)).mono ?_
        rw [hw]
        rintro e w4 ⟨rfl, n4, rfl⟩
        have R5 := R4.drewN n4
        have B5 := Lib.hid (bdrew B4.out n4)
        generalize hw4 : World.drewN _ _ = w4 at R5 B5 ⊢
        clear R4 B4 hw4
        go_wp2_with fail
        go_ret2
        exact ⟨by rw [hv.out]; rfl, B5.out⟩
  · have dn : decide (0 ≤ n ∧ n ≤ 400) = false := decide_eq_false hn2
    have e : vToFull cs p b l o n = (0, 2) := by unfold vToFull; rw [show stepsC (okB cs p b l) o 0 n = 2 from by unfold stepsC; rw [if_pos hg, if_neg hn2]]; rfl
    rw [e]
    clear e hn2 hg
    go_enter Try.func12, Try.ntmps12
    go_wp2_with fail
    refine (l01Ok_any _ cs p b l hl hc hp hb hla _ hr).mono ?_
    rw [h]
    rintro e w1 ⟨rfl, n1, rfl⟩
    go_wp2_with fail
    refine (l01Amount_any o ho _).mono ?_
    rw [ha]
    rintro e w2 ⟨rfl, n2, rfl⟩
    go_wp2_with fail
    refine (l00In_any n 0 400 _).mono ?_
    rw [dn]
    rintro e w3 ⟨rfl, n3, rfl⟩
    go_wp2_with fail
    go_ret2
    exact ⟨rfl, bdrew B0.out _⟩

end Go.Proofs.Ytpcobfcnpeoihaa
