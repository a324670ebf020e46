/-
  CONTRACTS: flows, roads, junctions held against themselves, NaNs too; slices of roads.
-/
import Derived.Test.YtboahhipobcabaaGreatEqAny
import Derived.Test.YtboahhipobcabaaGreatG12
namespace Go.Proofs.YtboahhipobcabaaGreat
open Go Go.ChangeShapes Go.WideShapes Go.ChangeAt Go.RowKit
set_option maxRecDepth 100000

theorem eqFlows_all (ts : List Nat) (hl : ts.length = 16) (hc : ∀ x ∈ ts, x < 4294967296 ) (w : World) :
    Calls Tryz.prog 141 #[.agg (fl ts), .agg (fl ts)] w fun e w' => e = .returned (.bool true) ∧ Below w.heap.size w w' := by
  have SZ : (fl ts).size = 16 := by rw [fl_size, hl]
  go_enter Tryz.func141, Tryz.ntmps141
  go_wp2
  go_loopw [5] (fun i wr => ∃ k : Nat, k ≤ 4 ∧ i = .int .i64 k ∧ Two w (fl ts) 67 (fl ts) 67 wr) (fun i _ => 4 - (intOf i).toNat)
  case atStart => exact ⟨0, by omega, rfl, Two.mk _ _ _ _ _⟩
  case round =>
    obtain ⟨k, hk, rfl, hT⟩ := hrel
    by_cases hlt : k < 4
    · have A1 : At wr w.heap.size (fl ts) 67 := hT.1
      have A2 : At wr (w.heap.size + 1) (fl ts) 67 := hT.2.1
      have rl := row4_len hl hlt
      have s2 : IntKind.i64.wrap ((k : Int) + 1) = (k : Int) + 1 := IntWalk.i64_in _ (by omega)
      have hC := Cb.const wr
      go_wp2
      refine wp_region_cb (by kernel_rfl) (by kernel_rfl) ?_
      repeat (first
        | go_big_quiet_skip
        | (go_big_quiet_want; first
          | (refine q_part 65 _ rfl _ rfl A1 4 (by rw [SZ]; omega) _ Tryz.underlying65 rfl (by kernel_rfl) (fl (row4 ts k)) (fl_row hl hlt (by omega)) ?_; go_simp; go_big_quiet_on)
          | (refine q_part 65 _ rfl _ rfl A2 4 (by rw [SZ]; omega) _ Tryz.underlying65 rfl (by kernel_rfl) (fl (row4 ts k)) (fl_row hl hlt (by omega)) ?_; go_simp; go_big_quiet_on)
          | (go_big_quiet_op; go_big_quiet_on)
          | (go_big_quiet_op; apply Exists.intro; refine ⟨fun w' hw' => ?_, ?_⟩; (go_at_call 164; exact (eqFloat32A4_all (row4 ts k) rl (fun x hx => hc x (row4_mem k hx)) _).mono fun _ _ h => ⟨h.1, hw'.step h.2⟩); go_big_quiet_on)))
      refine wpQuiet_nil ?_
      intro w2 hw2
      have hT2 := hT.step hw2
      go_wp2
      exact ⟨⟨k + 1, by omega, by go_num, hT2⟩, by simp [intOf]; omega⟩
    · go_wp2
      go_ret
      exact ⟨rfl, hT.2.2⟩

theorem eqJunction_all (i o : Int) (ts ps : List Nat) (hlt : ts.length = 16) (hlp : ps.length = 4) (hct : ∀ x ∈ ts, x < 4294967296 ) (hcp : ∀ x ∈ ps, x < 4294967296 ) (w : World) :
    Calls Tryz.prog 110 #[.agg (jn i o ts ps), .agg (jn i o ts ps)] w fun e w' => e = .returned (.bool true) ∧ Below w.heap.size w w' := by
  have A1 : At ((w.alloc (.cells (jn i o ts ps) 70)).alloc (.cells (jn i o ts ps) 70)) w.heap.size (jn i o ts ps) 70 := (At.new w _ _).alloc _
  have A2 : At ((w.alloc (.cells (jn i o ts ps) 70)).alloc (.cells (jn i o ts ps) 70)) (w.heap.size + 1) (jn i o ts ps) 70 := At.last1 w _ _ _
  have B0 := Lib.hid (bnew (b0 w (.cells (jn i o ts ps) 70)) (.cells (jn i o ts ps) 70))
  have SZ := jn_size hlt hlp i o
  go_enter Tryz.func110, Tryz.ntmps110
  go_wp2_with (first | ((with_reducible refine is_load 2 _ rfl ?_); refine wpList_load_cell rfl 2 _ rfl _ 0 rfl (jn i o ts ps) _ (by assumption) _ Tryz.underlying2 rfl (.int .i64 i) (jn_ins i o ts ps) ?_) | ((with_reducible refine is_load 2 _ rfl ?_); refine wpList_load_cell rfl 2 _ rfl _ 1 rfl (jn i o ts ps) _ (by assumption) _ Tryz.underlying2 rfl (.int .i64 o) (jn_outs i o ts ps) ?_) | ((with_reducible refine is_load 67 _ rfl ?_); refine wpList_load_part rfl 67 _ rfl _ 2 rfl (jn i o ts ps) _ (by assumption) 16 (by rw [SZ]; omega) _ Tryz.underlying67 rfl (by kernel_rfl) (fl ts) (jn_turns hlt hlp i o) ?_))
  refine (eqFlows_all ts hlt hct _).mono ?_
  rintro e w1 ⟨rfl, hb1⟩
  have A3 := A1.step hb1
  have A4 := A2.step hb1
  have B1 := Lib.hid (bthen B0.out hb1)
  clear A1 A2 B0 hb1
  go_wp2_with (((with_reducible refine is_load 68 _ rfl ?_); refine wpList_load_part rfl 68 _ rfl _ 18 rfl (jn i o ts ps) _ (by assumption) 4 (by rw [SZ]; omega) _ Tryz.underlying68 rfl (by kernel_rfl) (fl ps) (jn_priors hlt hlp i o) ?_))
  refine (eqFour_all ps hlp hcp _).mono ?_
  rintro e w2 ⟨rfl, hb2⟩
  go_wp2_with fail
  go_ret
  exact ⟨rfl, bthen B1.out hb2⟩

set_option maxHeartbeats 1000000 in
theorem eqRoad_all (cs : List Nat) (p b l : Nat) (hl : cs.length = 16) (hc : ∀ x ∈ cs, x < 4294967296) (hp : p < 4294967296) (hb : b < 4294967296) (hla : l < 4294967296) (w : World) :
    Calls Tryz.prog 62 #[.agg (rd cs p b l), .agg (rd cs p b l)] w fun e w' => e = .returned (.bool true) ∧ Below w.heap.size w w' := by
  have T0 := Two.mk w (rd cs p b l) 64 (rd cs p b l) 64
  have L1 := Lib.hid (run_loadAt_part (P := Tryz.prog) _ _ 0 16 62 (rd cs p b l) _ (0, 0) _ T0.1 Tryz.underlying62 rfl (by kernel_rfl) (by rw [rd_size hl]; omega))
  have L2 := Lib.hid (run_loadAt_part (P := Tryz.prog) _ _ 0 16 62 (rd cs p b l) _ (0, 0) _ T0.2.1 Tryz.underlying62 rfl (by kernel_rfl) (by rw [rd_size hl]; omega))
  rw [Nat.zero_add, rd_cars hl] at L1 L2
  have H0 := Lib.hid T0
  clear T0
  go_enter Tryz.func62, Tryz.ntmps62
  go_wp2_with (first | ((with_reducible refine is_load 62 (.tmp 5) rfl ?_); refine wpList_load_of rfl 62 _ rfl _ rfl _ L1.out ?_) | ((with_reducible refine is_load 62 (.tmp 7) rfl ?_); refine wpList_load_of rfl 62 _ rfl _ rfl _ L2.out ?_))
  refine (eqCars_all cs hl hc _).mono ?_
  rintro e w1 ⟨rfl, hb1⟩
  have T1 := H0.out.step hb1
  clear L1 L2 H0 hb1
  obtain ⟨X1, n1, e1, h1⟩ := wide_agr hp (w1)
  have q1 : (w1).cell? ⟨w.heap.size, 16, none⟩ = some (.float .f32 p) := T1.cell1 (rd_pace hl p b l)
  obtain ⟨X2, n2, e2, h2⟩ := wide_agr hp (w1.drewN (n1))
  have q2 : (w1.drewN (n1)).cell? ⟨w.heap.size + 1, 16, none⟩ = some (.float .f32 p) := T1.cell2 (rd_pace hl p b l)
  obtain ⟨X3, n3, e3, h3⟩ := wide_agr hb (w1.drewN (n1 + n2))
  have q3 : (w1.drewN (n1 + n2)).cell? ⟨w.heap.size, 17, none⟩ = some (.float .f32 b) := T1.cell1 (rd_back hl p b l)
  obtain ⟨X4, n4, e4, h4⟩ := wide_agr hb (w1.drewN (n1 + n2 + n3))
  have q4 : (w1.drewN (n1 + n2 + n3)).cell? ⟨w.heap.size + 1, 17, none⟩ = some (.float .f32 b) := T1.cell2 (rd_back hl p b l)
  obtain ⟨X5, n5, e5, h5⟩ := wide_agr hla (w1.drewN (n1 + n2 + n3 + n4))
  have q5 : (w1.drewN (n1 + n2 + n3 + n4)).cell? ⟨w.heap.size, 18, none⟩ = some (.float .f32 l) := T1.cell1 (rd_lanes hl p b l)
  obtain ⟨X6, n6, e6, h6⟩ := wide_agr hla (w1.drewN (n1 + n2 + n3 + n4 + n5))
  have q6 : (w1.drewN (n1 + n2 + n3 + n4 + n5)).cell? ⟨w.heap.size + 1, 18, none⟩ = some (.float .f32 l) := T1.cell2 (rd_lanes hl p b l)
  have hB := Lib.hid (bdrew T1.2.2 (n1 + n2 + n3 + n4 + n5 + n6))
  clear T1
  have s1 := fun w' => sameFloat_agr (Agr.selfJ hp) h1 h2 w'
  have s2 := fun w' => sameFloat_agr (Agr.selfJ hb) h3 h4 w'
  have s3 := fun w' => sameFloat_agr (Agr.selfJ hla) h5 h6 w'
  clear h1 h2 h3 h4 h5 h6
  go_wp2_with (go_at_call 38; refine Calls.mono (by with_reducible first | exact s1 _ | exact s2 _ | exact s3 _) ?_; rintro e w' ⟨rfl, rfl⟩)
  go_ret
  exact ⟨rfl, hB.out⟩

set_option maxHeartbeats 1000000 in
theorem eqRoadS_st (v1 v2 : Value) (rs : List Rd4) (w : World) (h1 : GSl rdr 19 zR w v1 rs) (h2 : GSl rdr 19 zR w v2 rs) (hn : rs.length ≤ 1048576) :
    Calls Tryz.prog 34 #[v1, v2] w fun e w' => e = .returned (.bool true) ∧ Below w.heap.size w w' := by
  by_cases z : rs.length = 0
  · obtain ⟨a1, c1, rfl⟩ := h1.any
    obtain ⟨a2, c2, rfl⟩ := h2.any
    rw [z]
    clear h1 h2
    go_enter Tryz.func34, Tryz.ntmps34
    go_wp2
    go_loopw [5] (fun i wr => i = .int .i64 0 ∧ wr = w) (fun _ _ => 0)
    case atStart => exact ⟨rfl, rfl⟩
    case round =>
      obtain ⟨rfl, rfl⟩ := hrel
      go_wp2
      go_ret
      exact ⟨rfl, Below.refl _ _⟩
  · obtain ⟨g1, off1, cap1, rfl, L1⟩ := h1.get rdr_size z 64 _ Tryz.underlying64 (by kernel_rfl)
    obtain ⟨g2, off2, cap2, rfl, L2⟩ := h2.get rdr_size z 64 _ Tryz.underlying64 (by kernel_rfl)
    have HL := Lib.hid (And.intro L1 L2)
    clear h1 h2 L1 L2
    obtain ⟨n, hnn⟩ : ∃ n, n = rs.length := ⟨_, rfl⟩
    rw [← hnn] at hn z ⊢
    have HN := Lib.hid hnn
    clear hnn
    go_enter Tryz.func34, Tryz.ntmps34
    go_wp2
    go_loopw [5] (fun i wr => ∃ k : Nat, k ≤ n ∧ i = .int .i64 (k : Int) ∧ Hid (Below w.heap.size w wr)) (fun i _ => n - (intOf i).toNat)
    case atStart => exact ⟨0, by omega, rfl, Lib.hid (Below.refl _ _)⟩
    case round =>
      obtain ⟨k, hk, rfl, B1⟩ := hrel
      by_cases hlt : k < n
      · have s2 : IntKind.i64.wrap ((k : Int) + 1) = (k : Int) + 1 := IntWalk.i64_in _ (by omega)
        have kd : (k : Int) < (n : Int) := by omega
        have hkl : k < rs.length := by rw [← HN.out]; exact hlt
        have M1 := Lib.hid (HL.out.1 k hkl)
        have M2 := Lib.hid (HL.out.2 k hkl)
        obtain ⟨r, hr⟩ : ∃ r, r = fe zR rs k := ⟨_, rfl⟩
        rw [← hr] at M1 M2
        have KE := fun w' => eqRoad_all r.cs r.p r.b r.l r.hl r.hc r.hp r.hb r.hla w'
        change ∀ w', Calls Tryz.prog 62 #[.agg (rdr r), .agg (rdr r)] w' _ at KE
        have hC := Cb.const wr
        clear hkl hr
        go_wp2
        refine wp_region_cb (by kernel_rfl) (by kernel_rfl) ?_
        repeat (first
          | go_big_quiet_skip
          | (go_big_quiet_want; first
            | (refine q_load 64 _ rfl ⟨g1, off1 + k * 19, none⟩ rfl (.agg (rdr r)) (fun w' hw' => M1.out w' (bthen B1.out hw')) ?_; go_simp; go_big_quiet_on)
            | (refine q_load 64 _ rfl ⟨g2, off2 + k * 19, none⟩ rfl (.agg (rdr r)) (fun w' hw' => M2.out w' (bthen B1.out hw')) ?_; go_simp; go_big_quiet_on)
            | (go_big_quiet_op; go_big_quiet_on)
            | (go_big_quiet_op; apply Exists.intro; refine ⟨fun w' hw' => ?_, ?_⟩; (go_at_call 62; exact (KE _).mono fun _ _ h => ⟨h.1, hw'.step h.2⟩); go_big_quiet_on)))
        refine wpQuiet_nil ?_
        intro w2 hw2
        have B2 := Lib.hid (bthen B1.out hw2)
        clear B1 hw2 M1 M2
        go_wp2
        exact ⟨⟨k + 1, by omega, by go_num, B2⟩, by simp [intOf]; omega⟩
      · obtain rfl : n = k := by omega
        go_wp2
        go_ret
        exact ⟨rfl, B1.out⟩

end Go.Proofs.YtboahhipobcabaaGreat
