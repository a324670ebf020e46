/-
  CONTRACTS: shared green: the weight of a slot for each tick, and the first slot with the greatest one: the program.
-/
import Derived.Test.YtlpbehokcogcpaaShr
import Derived.Test.YtlpbehokcogcpaaG2
namespace Go.Proofs.Ytlpbehokcogcpaa
open Go Go.ChangeShapes Go.WideShapes Go.ChangeAt Go.RowKit Go.Deep
set_option maxRecDepth 100000

theorem weightPerTick_any (b : List Bool) (hb : b.length = 8) (t : Int) (ht : 1 ≤ t ∧ t ≤ 1048576) (ds : List Nat) (hl : ds.length = 8) (hd : ∀ k, nth ds k < 2139095040) (w : World) :
    Calls Try.prog 43 #[.agg (sl1 b t), .agg (fl ds)] w fun e w' => e = .returned (.float .f32 (qB ds b t)) ∧ Below w.heap.size w w' := by
  have P0 : At ((w.alloc (.cells (sl1 b t) 49)).alloc (.cells (fl ds) 24)) w.heap.size (sl1 b t) 49 := (At.new w _ _).alloc _
  have D0 : At ((w.alloc (.cells (sl1 b t) 49)).alloc (.cells (fl ds) 24)) (w.heap.size + 1) (fl ds) 24 := At.last1 w _ _ _
  have B0 := Lib.hid (bnew (b0 w (.cells (sl1 b t) 49)) (.cells (fl ds) 24))
  have hsz := sl1_size hb t
  go_enter Try.func43, Try.ntmps43
  go_wp2_with (((with_reducible refine is_load 43 _ rfl ?_); refine wpList_load_part rfl 43 _ rfl _ 0 rfl (sl1 b t) _ (by with_reducible assumption) 8 (by rw [hsz]; omega) _ Try.underlying43 rfl (by kernel_rfl) (bl b) (sl1_phase hb t) ?_))
  generalize ((w.alloc (.cells (sl1 b t) 49)).alloc (.cells (fl ds) 24)) = w1 at P0 D0 B0 ⊢
  clear hsz
  go_loopw [5, 10] (fun v i wr => ∃ (k : Nat) (x : Nat), k ≤ 8 ∧ i = .int .i64 (k : Int) ∧ v = .float .f32 x ∧ Hid (x = wtK ds b k) ∧ wr = w1) (fun _ i _ => 8 - (intOf i).toNat)
  case atStart => exact ⟨0, 0, by omega, rfl, rfl, Lib.hid rfl, rfl⟩
  case round =>
    obtain ⟨k, x, hk, rfl, rfl, hx, rfl⟩ := hrel
    have hx1 : x < 2139095040 := by rw [hx.out]; exact wtK_lt hd b k
    by_cases hlt : k < 8
    · have s2 : IntKind.i64.wrap ((k : Int) + 1) = (k : Int) + 1 := IntWalk.i64_in _ (by omega)
      have kd : (k : Int) < 8 := by omega
      have g1 := run_index_bl wr 43 4 8 b k Try.underlying43 Try.underlying4 (by kernel_rfl) hlt hb.symm
      have c1 : wr.cell? ⟨w.heap.size + 1, k, none⟩ = some (.float .f32 (nth ds k)) := D0.cell (fl_get (by omega))
      have hm : ∀ ts t w, (Builtin.max_ ts t #[.float .f32 x, .float .f32 (nth ds k)]).run Try.prog w = .ok (.float .f32 (max x (nth ds k))) w := fun ts t w => run_max_amt w ts t (by omega) (Nat.le_of_lt (hd k))
      cases hbk : bn b k
      · rw [hbk] at g1
        have hx2 := Lib.hid (show x = wtK ds b (k + 1) from by rw [wtK_no hbk]; exact hx.out)
        clear hbk
        go_wp2
        exact ⟨⟨k + 1, x, by omega, by go_num, rfl, hx2, by trivial⟩, by simp [intOf]; omega⟩
      · rw [hbk] at g1
        have hx2 := Lib.hid (show max x (nth ds k) = wtK ds b (k + 1) from by rw [wtK_yes hbk, hx.out])
        clear hbk
        go_wp2
        exact ⟨⟨k + 1, _, by omega, by go_num, rfl, hx2, by trivial⟩, by simp [intOf]; omega⟩
    · obtain rfl : k = 8 := by omega
      obtain ⟨m, rfl⟩ : ∃ m : Nat, t = (m : Int) := ⟨t.toNat, by omega⟩
      have ct : wr.cell? ⟨w.heap.size, 8, none⟩ = some (.int .i64 (m : Int)) := P0.cell (sl1_ticks hb _)
      have f1 := floatOfInt_nat m
      have q1 := (qB_fits hd b (m := m) (by omega)).1
      rw [← hx.out] at q1
      have hq := fun t w => run_float_arith (P := Try.prog) w .quo t .f32 _ _ _ q1
      clear q1
      go_wp2_with (simp only [hq])
      go_ret
      exact ⟨rfl, B0.out⟩

set_option maxHeartbeats 1000000 in
theorem firstToGet_any (g cap : Nat) (xs : Slots) (hW : SlW xs) (hz : xs.length ≠ 0) (hn : xs.length ≤ 1048576) (hT : ∀ i, i < xs.length → 1 ≤ st xs i ∧ st xs i ≤ 1048576) (ds : List Nat) (hl : ds.length = 8) (hd : ∀ k, nth ds k < 2139095040) (T : TypeId) (w : World) (h0 : At w g (slC xs) T) :
    Calls Try.prog 28 #[.slice (some ⟨g, 0, none⟩) xs.length cap, .agg (fl ds)] w fun e w' => e = .returned (.int .i64 (bst ds xs xs.length : Int)) ∧ Below w.heap.size w w' := by
  have S0 := h0.alloc (.cells (fl ds) 24)
  have D0 := At.new w (fl ds) 24
  have B0 := Lib.hid (b0 w (.cells (fl ds) 24))
  have HQ := Lib.hid (fun i (hi : i < xs.length) => weightPerTick_any (sb xs i) (hW.at hi).1 (st xs i) (hT i hi) ds hl hd)
  have HF := Lib.hid (fun i (hi : i < xs.length) => by
    obtain ⟨m, hm⟩ : ∃ m : Nat, st xs i = (m : Int) := ⟨(st xs i).toNat, by have := hT i hi; omega⟩
    have := (qB_fits hd (sb xs i) (m := m) (by have := hT i hi; omega)).2
    rw [← hm] at this
    exact show qt ds xs i ≤ 2139095040 from this)
  have hsz := slC_size hW
  have hSL := Lib.hid (fun i (hi : i < xs.length) => slC_slot hW hi (k := i * 9) rfl)
  have hBB := Lib.hid (fun i (hi : i < xs.length) => (hW.at hi).1)
  have hfs : (fl ds).size = 8 := by rw [fl_size, hl]
  have hfe : (fl ds).extract 0 (0 + 8) = fl ds := by rw [Nat.zero_add]; exact Array.extract_eq_self_of_le (by omega)
  have hf8 : 0 + 8 ≤ (fl ds).size := by omega
  have hle0 : 0 + 9 ≤ (slC xs).size := by omega
  have K0 := HQ.out 0 (by omega)
  have hsl0 := hSL.out 0 (by omega)
  have hb0 := hBB.out 0 (by omega)
  rw [Nat.zero_mul] at hsl0
  have z1 : (0 : Int) < (xs.length : Int) := by omega
  clear h0 hT hW hl
  go_enter Try.func28, Try.ntmps28
  go_wp2_with fail
  generalize w.alloc (.cells (fl ds) 24) = w1 at S0 D0 B0 ⊢
  have hC := Cb.const w1
  refine wp_region_cb (by kernel_rfl) (by kernel_rfl) ?_
  repeat (first
    | go_big_quiet_skip
    | (go_big_quiet_want; first
      | (refine q_part 49 _ rfl 0 rfl S0 9 hle0 _ Try.underlying49 rfl (by kernel_rfl) (sl1 (sb xs 0) (st xs 0)) hsl0 ?_; go_simp; go_big_quiet_on)
      | (refine q_part 24 _ rfl 0 rfl D0 8 hf8 _ Try.underlying24 rfl (by kernel_rfl) (fl ds) hfe ?_; go_simp; go_big_quiet_on)
      | (go_big_quiet_op; go_big_quiet_on)
      | (go_big_quiet_op; apply Exists.intro; refine ⟨fun w' hw' => ?_, ?_⟩; (go_at_call 43; exact (K0 _).mono fun _ _ h => ⟨h.1, hw'.step h.2⟩); go_big_quiet_on)))
  refine wpQuiet_nil ?_
  intro w2 hw2
  have S2 := S0.step hw2
  have D2 := D0.step hw2
  have B2 := Lib.hid (bthen B0.out hw2)
  clear S0 D0 B0 hC hw2 K0 hsl0 hle0 hb0
  go_wp2_with fail
  obtain ⟨n, hnn⟩ : ∃ n, n = xs.length := ⟨_, rfl⟩
  rw [← hnn] at hn hz z1 hsz ⊢
  have HN := Lib.hid hnn
  clear hnn
  go_loopw [5, 6, 17] (fun v m i wr => ∃ (k b x : Nat), k ≤ n ∧ i = .int .i64 (k : Int) ∧ v = .int .i64 (b : Int) ∧ m = .float .f32 x ∧ Hid (b = bst ds xs k ∧ x = qt ds xs (bst ds xs k)) ∧ At wr g (slC xs) T ∧ At wr w.heap.size (fl ds) 24 ∧ Hid (Below w.heap.size w wr)) (fun _ _ i _ => n - (intOf i).toNat)
  case atStart => exact ⟨0, 0, _, by omega, rfl, rfl, rfl, Lib.hid ⟨rfl, rfl⟩, S2, D2, B2⟩
  case round =>
    clear S2 D2 B2
    obtain ⟨k, b, x, hk, rfl, rfl, rfl, hx, S3, D3, B3⟩ := hrel
    by_cases hlt : k < n
    · have s2 : IntKind.i64.wrap ((k : Int) + 1) = (k : Int) + 1 := IntWalk.i64_in _ (by omega)
      have kd : (k : Int) < (n : Int) := by omega
      have hkl : k < xs.length := by rw [← HN.out]; exact hlt
      have hb8 := hBB.out k hkl
      have hsl := hSL.out k hkl
      have KQ := HQ.out k hkl
      have hle : k * 9 + 9 ≤ (slC xs).size := by omega
      have hq1 := HF.out k hkl
      have hq2 : x ≤ 2139095040 := by
        rw [hx.out.2]
        refine HF.out _ ?_
        rcases Nat.eq_zero_or_pos k with e | e
        · subst e; show (0 : Nat) < _; omega
        · have := bst_lt (ds := ds) (xs := xs) k e; omega
      have hgt := gt_amt (x := qt ds xs k) (y := x) hq1 hq2
      change ∀ w, Calls _ _ _ w (fun e w' => e = .returned (.float .f32 (qt ds xs k)) ∧ _) at KQ
      have hst1 := sl1_size hb8 (st xs k)
      have hone := sl1_one (sb xs k) (st xs k)
      have N3 := At.new wr (#[.bool false, .bool false, .bool false, .bool false, .bool false, .bool false, .bool false, .bool false, .int .i64 0]) 49
      have N4 := N3.setRow (sl1 (sb xs k) (st xs k))
      have S4 := (S3.alloc (.cells (#[.bool false, .bool false, .bool false, .bool false, .bool false, .bool false, .bool false, .bool false, .int .i64 0]) 49)).setRow_other (k := wr.heap.size) (by have := S3.lt; omega) (sl1 (sb xs k) (st xs k))
      have D4 := (D3.alloc (.cells (#[.bool false, .bool false, .bool false, .bool false, .bool false, .bool false, .bool false, .bool false, .int .i64 0]) 49)).setRow_other (k := wr.heap.size) (by have := D3.lt; omega) (sl1 (sb xs k) (st xs k))
      have B4 := Lib.hid (bset (bnew B3.out (.cells (#[.bool false, .bool false, .bool false, .bool false, .bool false, .bool false, .bool false, .bool false, .int .i64 0]) 49)) (g := wr.heap.size) (by have := D3.lt; omega) (sl1 (sb xs k) (st xs k)))
      have HB := Lib.hid (fun (h : x < qt ds xs k) => show (k = bst ds xs (k + 1) ∧ qt ds xs k = qt ds xs (bst ds xs (k + 1))) from by rw [hx.out.2] at h; rw [bst_yes h]; exact ⟨rfl, rfl⟩)
      have HB' := Lib.hid (fun (h : ¬ x < qt ds xs k) => show (b = bst ds xs (k + 1) ∧ x = qt ds xs (bst ds xs (k + 1))) from by rw [hx.out.2] at h; rw [bst_no h]; exact hx.out)
      clear hkl hb8 hq1 hq2 hx
      generalize qt ds xs k = y at KQ hgt HB HB'
      generalize sl1 (sb xs k) (st xs k) = row at *
      go_wp2_with (first
        | ((with_reducible refine is_load 49 _ rfl ?_); refine wpList_load_part rfl 49 _ rfl _ (k * 9) rfl (slC xs) _ (by with_reducible assumption) 9 hle _ Try.underlying49 rfl (by kernel_rfl) row hsl ?_)
        | ((with_reducible refine is_store 49 _ _ rfl ?_); refine wpList_store_at rfl 49 _ _ rfl _ rfl (row) rfl (#[.bool false, .bool false, .bool false, .bool false, .bool false, .bool false, .bool false, .bool false, .int .i64 0]) _ (by with_reducible assumption) 9 (hst1) (rfl) (by kernel_rfl) (hone) ?_)
        | ((with_reducible refine is_load 49 _ rfl ?_); refine wpList_load_at rfl 49 _ rfl _ rfl (row) _ N4 9 (hst1) _ Try.underlying49 rfl (by kernel_rfl) ?_)
        | ((with_reducible refine is_load 24 _ rfl ?_); refine wpList_load_at rfl 24 _ rfl _ rfl (fl ds) _ D4 8 (hfs) _ Try.underlying24 rfl (by kernel_rfl) ?_))
      refine (KQ _).mono ?_
      rintro e w5 ⟨rfl, hb5⟩
      have S5 := S4.step hb5
      have D5 := D4.step hb5
      have B5 := Lib.hid (bthen B4.out hb5)
      clear S3 D3 B3 S4 D4 B4 N3 N4 KQ hb5
      by_cases hc : x < y
      · have hx5 := Lib.hid (HB.out hc)
        rw [decide_eq_true hc] at hgt
        clear hc HB HB'
        go_wp2_with fail
        exact ⟨⟨k + 1, k, y, by omega, by go_num, rfl, rfl, hx5, S5, D5, B5⟩, by simp [intOf]; omega⟩
      · have hx5 := Lib.hid (HB'.out hc)
        rw [decide_eq_false hc] at hgt
        clear hc HB HB'
        go_wp2_with fail
        exact ⟨⟨k + 1, b, x, by omega, by go_num, rfl, rfl, hx5, S5, D5, B5⟩, by simp [intOf]; omega⟩
    · obtain rfl : n = k := by omega
      go_wp2
      go_ret
      exact ⟨by rw [hx.out.1, HN.out]; rfl, B3.out⟩

end Go.Proofs.Ytlpbehokcogcpaa
