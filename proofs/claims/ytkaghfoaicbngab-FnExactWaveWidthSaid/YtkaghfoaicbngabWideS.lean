/-
  CONTRACTS: how wide a wave is: the model.
-/
import Derived.Test.YtkaghfoaicbngabG11
import Derived.Test.YtkaghfoaicbngabWaveR
import Derived.Test.YtkaghfoaicbngabAtO
import Derived.Test.YtkaghfoaicbngabAlloc
import Derived.Test.YtkaghfoaicbngabG12
namespace Go.Proofs.Ytkaghfoaicbngab
open Go Go.ChangeShapes Go.WideShapes Go.ChangeAt Go.RowKit
set_option maxRecDepth 100000

theorem two_of9 {i j k : Nat} (h : i ∈ [j, k]) : i = j ∨ i = k := by simpa using h
set_option maxHeartbeats 1000000 in
theorem sWaveWidth_any (G : Nat) (gs : Nat → Nat) (ps : Ps) (T : TypeId) (H : Nat) (ts : List Int) (T4 : TypeId) (mv : Int) (hW : ∀ i, i < ps.length → SlW (pS ps i)) (hn : ps.length ≤ 1048576) (ht : ts.length ≤ 1048576) (w : World) (P0 : PB w G gs ps T) (H0 : At w H (il ts) T4) :
    Calls Try.prog 19 #[.slice (some ⟨G, 0, none⟩) ps.length ps.length, .slice (some ⟨H, 0, none⟩) ts.length ts.length, .int .i64 mv] w fun e w' => e = .returned (.tuple #[.int .i64 (vWid ps ts mv).1, .int .i64 (vWid ps ts mv).2]) ∧ Below w.heap.size w w' := by
  have KR := l04Row_any G gs ps T H ts T4 mv hW hn ht w P0 H0
  by_cases hc : rowC ps ts mv = 0
  · obtain ⟨⟨m, rfl, hm⟩, hok, hn6, htn, hts⟩ := rowC_parts hc
    have hv := Lib.hid (vWid_yes hc)
    rw [hc] at KR
    have h0l : 0 < ps.length := by omega
    obtain ⟨hl0, -, -, hc0, ho0⟩ := okP_parts (hok 0 h0l)
    have KC := Lib.hid (show ∀ w', Below w.heap.size w w' → Calls Try.prog 41 #[.pointer (some ⟨G, 0, none⟩)] w' fun e w'' => e = .returned (.int .i64 (cyc (pS ps 0) (pB ps 0))) ∧ Below w'.heap.size w' w'' from fun w' hb => by
      refine (l04CycleO_any G 0 (gs 0) (pS ps 0) (pB ps 0) (pO ps 0) (hW 0 h0l) 96 hl0.1 hl0.2 w' (PlAt.of_row (k := 0) (P0.step hb).row h0l) ((P0.step hb).sl 0 h0l)).mono ?_
      rintro e w'' ⟨s, rfl, ⟨hs, -, -, -⟩, hb2⟩
      exact ⟨by rw [hs (cOk_of (hok 0 h0l))], hb2⟩)
    have HX := Lib.hid (And.intro P0 (And.intro H0 (And.intro hW (And.intro hok hts))))
    obtain ⟨n, hnn⟩ : ∃ n, n = ps.length := ⟨_, rfl⟩
    obtain ⟨t, htt⟩ : ∃ t, t = ts.length := ⟨_, rfl⟩
    have HN := Lib.hid hnn
    have HT := Lib.hid htt
    rw [← hnn] at KR h0l hn6 htn ⊢
    rw [← htt] at KR htn ⊢
    have kd0 : (0 : Int) < (n : Int) := by omega
    have hcy : (wid ps ts m) = cnt (mtG ps ts m) (cyc (pS ps 0) (pB ps 0)).toNat := rfl
    obtain ⟨cn, hcn⟩ : ∃ cn : Nat, cyc (pS ps 0) (pB ps 0) = cn := ⟨(cyc (pS ps 0) (pB ps 0)).toNat, by omega⟩
    rw [hcn] at KC hcy hc0
    rw [Int.toNat_natCast] at hcy
    have HV := Lib.hid (show vWid ps ts m = ((cnt (mtG ps ts m) cn : Int), 0) from by rw [hv.out, hcy])
    have hcn2 : cn ≤ 240 := by omega
    clear hv hcn ho0 hc0 hcy hnn htt hl0 hok hts P0 H0 hW hn ht
    go_enter Try.func19, Try.ntmps19
    go_wp2_with fail
    refine KR.mono ?_
    rintro e w1 ⟨rfl, hb1⟩
    have B1 := Lib.hid hb1
    clear KR hb1
    go_wp2_with fail
    go_loopw [10, 9] (fun iv cv wr => ∃ i : Nat, i ≤ cn ∧ iv = .int .i64 (i : Int) ∧ cv = .int .i64 (cnt (mtG ps ts m) i : Int) ∧ Hid (Below w.heap.size w wr)) (fun iv _ _ => cn - (intOf iv).toNat)
    case atStart => exact ⟨0, by omega, rfl, rfl, B1⟩
    case round =>
      clear B1
      obtain ⟨i, hi, rfl, rfl, B3⟩ := hrel
      go_wp2_with fail
      refine (KC.out _ B3.out).mono ?_
      rintro e w3 ⟨rfl, hb3⟩
      have B4 := Lib.hid (bthen B3.out hb3)
      clear hb3 B3
      by_cases hlt : i < cn
      · have kd : (i : Int) < (cn : Int) := by omega
        have s2 : IntKind.i64.wrap ((i : Int) + 1) = (i : Int) + 1 := IntWalk.i64_in _ (by omega)
        have hcl := cnt_le (mtG ps ts m) i
        have s3 : IntKind.i64.wrap ((cnt (mtG ps ts m) i : Int) + 1) = (cnt (mtG ps ts m) i : Int) + 1 := IntWalk.i64_in _ (by omega)
        have hnx2 : cnt (mtG ps ts m) (i + 1) = cnt (mtG ps ts m) i + (if mtG ps ts m i then 1 else 0) := rfl
        obtain ⟨b2, hb2⟩ : ∃ b2, mtG ps ts m i = b2 := ⟨_, rfl⟩
        have HB := Lib.hid (show allK (mG ps ts m i) ps.length = b2 from hb2)
        obtain ⟨c', hcc⟩ : ∃ c', cnt (mtG ps ts m) (i + 1) = c' := ⟨_, rfl⟩
        have hnc := Lib.hid hcc
        rw [hcc, hb2] at hnx2
        clear hcc hb2
        generalize cnt (mtG ps ts m) i = c at *
        obtain ⟨t0, ht0⟩ : ∃ t0, t0 = i := ⟨_, rfl⟩
        have h0 : t0 ≤ 240 := by omega
        rw [← ht0] at HB
        have hti := Lib.hid ht0
        clear ht0
        go_wp2_with fail
        go_loopw [11, 12, 13] (fun tv bv kv wr => ∃ (k : Nat) (u : Int) (bb : Bool), k ≤ n ∧ tv = .int .i64 u ∧ bv = .bool bb ∧ kv = .int .i64 (k : Int) ∧ (0 ≤ u ∧ u ≤ 240 + 100000 * k) ∧ Hid (u = t0 + sm ts (k - 1)) ∧ Hid (bb = allK (mG ps ts m t0) k) ∧ Hid (Below w.heap.size w wr)) (fun _ _ kv _ => n - (intOf kv).toNat)
        case atStart => exact ⟨0, i, true, by omega, rfl, rfl, rfl, ⟨by omega, by omega⟩, Lib.hid (by rw [hti.out]; simp [sm]), Lib.hid rfl, B4⟩
        case round =>
          clear B4
          obtain ⟨k, u, bb, hk, rfl, rfl, rfl, hub, hu, hall, B1⟩ := hrel
          cases bb
          · have hq : b2 = false := by rw [← HB.out]; exact allK_le (by rw [← HN.out]; exact hk) hall.out.symm
            subst hq
            have hq : c' = c := by simpa using hnx2
            clear hnx2
            subst hq
            by_cases hkn : k < n
            · have kd9 : (k : Int) < (n : Int) := by omega
              go_wp2_with fail
              exact ⟨⟨i + 1, by omega, by go_num, by rw [hnc.out], B1⟩, by simp [intOf]; omega⟩
            · have kd9 : ¬ (k : Int) < (n : Int) := by omega
              go_wp2_with fail
              exact ⟨⟨i + 1, by omega, by go_num, by rw [hnc.out], B1⟩, by simp [intOf]; omega⟩
          · have hall := Lib.hid hall.out.symm
            by_cases hkn : k < n
            · have kd9 : (k : Int) < (n : Int) := by omega
              have s12 : IntKind.i64.wrap ((k : Int) + 1) = (k : Int) + 1 := IntWalk.i64_in _ (by omega)
              have hkl : k < ps.length := by rw [← HN.out]; exact hkn
              have hWk := HX.out.2.2.1 k hkl
              have hokk := HX.out.2.2.2.1 k hkl
              obtain ⟨hl, hb', htk, hc240, ho1⟩ := okP_parts hokk
              have P1 := HX.out.1.step B1.out
              by_cases k0 : 0 < k
              · have kd5 : (0 : Int) < (k : Int) := by omega
                obtain ⟨j, hj⟩ : ∃ j, j = k - 1 := ⟨_, rfl⟩
                have s7 : IntKind.i64.wrap ((k : Int) - 1) = (j : Int) := by rw [IntWalk.i64_in _ (by omega)]; omega
                have hkt : j < ts.length := by rw [← HT.out]; omega
                have hcj := (HX.out.2.1.step B1.out).cell (il_get (xs := ts) (k := j) hkt)
                have hx := HX.out.2.2.2.2 j hkt
                have kd7 : (j : Int) < (t : Int) := by omega
                have hr2 : u + ith ts j = t0 + sm ts k := by
                  have h1 := hu.out
                  rw [← hj] at h1
                  have : sm ts (j + 1) = sm ts j + ith ts j := rfl
                  rw [show j + 1 = k from by omega] at this
                  omega
                have hu2 := Lib.hid hr2
                clear hr2
                generalize ith ts j = x at *
                clear hj hkt
                have s8 : IntKind.i64.wrap (u + x) = u + x := IntWalk.i64_in _ (by omega)
                have hr1 := Int.emod_nonneg ((u + x) - pO ps k) (show cyc (pS ps k) (pB ps k) ≠ 0 by omega)
                have hr2 := Int.emod_lt_of_pos ((u + x) - pO ps k) (show 0 < cyc (pS ps k) (pB ps k) by omega)
                have KP := Lib.hid (fun w' (hb : Below wr.heap.size wr w') => l04PlaceO_any G (k * 3) (gs k) (pS ps k) (pB ps k) (pO ps k) hWk 96 hokk (u + x) (by omega) w' (PlAt.of_row (P1.step hb).row hkl) ((P1.step hb).sl k hkl))
                have KA := Lib.hid (fun w' (hb : Below wr.heap.size wr w') => l04AtO_any G (k * 3) (gs k) (pS ps k) (pB ps k) (pO ps k) hWk 96 hl.2 hb' htk (((u + x) - pO ps k) % cyc (pS ps k) (pB ps k)) ⟨hr1, by omega⟩ w' (PlAt.of_row (P1.step hb).row hkl) ((P1.step hb).sl k hkl))
                have hgk : mG ps ts m t0 k = bn (atS (pB ps k) (pS ps k) (((u + x) - pO ps k) % cyc (pS ps k) (pB ps k))).1 m := by
                  unfold mG gre
                  rw [← hu2.out, Int.toNat_of_nonneg hr1]
                have hnx := Lib.hid (show allK (mG ps ts m t0) (k + 1) = bn (atS (pB ps k) (pS ps k) (((u + x) - pO ps k) % cyc (pS ps k) (pB ps k))).1 m from by rw [← hgk]; show (_ && _) = _; rw [hall.out]; rfl)
                have SZV : (bl ((atS (pB ps k) (pS ps k) (((u + x) - pO ps k) % cyc (pS ps k) (pB ps k))).1)).size = 8 := by rw [bl_size, atS_len hWk]
                clear hgk hr1 hr2 hl hb' htk hc240 ho1 hokk hall
                generalize ((u + x) - pO ps k) % cyc (pS ps k) (pB ps k) = c0 at *
                generalize (atS (pB ps k) (pS ps k) c0).1 = rw8 at *
                generalize (atS (pB ps k) (pS ps k) c0).2 = lf at *
                go_wp2_with fail
                refine wp_region_held (S := fun w' => Below wr.heap.size wr w') (by kernel_rfl) ?_
                show wpAnyH _ _ _ _ _ 15 (Array.replicate 15 false) _ _
                have S0 : Below wr.heap.size wr { wr with drawn := wr.drawn + 1 } := bdrew (Below.refl _ wr) 1
                generalize hw0 : ({ wr with drawn := wr.drawn + 1 } : World) = u0 at S0 ⊢
                clear hw0
                refine wpAnyH_take (i := 0) (v := .slice (some ⟨G, 0, none⟩) n n) rfl (by kernel_rfl) (by kernel_rfl) (by kernel_rfl) (fun _ _ _ h => h) (yif rfl fun w2 hw2 => by kernel_rfl) (by assumption) ?_
                refine wpAnyH_take (i := 1) (v := .int .i64 (k : Int)) rfl (by kernel_rfl) (by kernel_rfl) (by kernel_rfl) (fun _ _ _ h => h) (yif rfl fun w2 hw2 => by kernel_rfl) (by assumption) ?_
                refine wpAnyH_take (i := 2) (v := .pointer (some ⟨G, k * 3, none⟩)) rfl (by kernel_rfl) (by kernel_rfl) (by kernel_rfl) (fun _ _ _ h => h) (yif rfl fun w' hw' => x_index 25 (.tmp 50) (.tmp 51) rfl _ _ (by kernel_rfl) (by kernel_rfl) (by have := run_indexS (P := Try.prog) w' 25 49 G 0 n n k 3 Try.underlying25 (by kernel_rfl) hkn; rwa [Nat.zero_add] at this)) (by assumption) ?_
                refine wpAnyH_take (i := 3) (v := .slice (some ⟨G, 0, none⟩) n n) rfl (by kernel_rfl) (by kernel_rfl) (by kernel_rfl) (fun _ _ _ h => h) (yif rfl fun w2 hw2 => by kernel_rfl) (by assumption) ?_
                refine wpAnyH_take (i := 4) (v := .int .i64 (k : Int)) rfl (by kernel_rfl) (by kernel_rfl) (by kernel_rfl) (fun _ _ _ h => h) (yif rfl fun w2 hw2 => by kernel_rfl) (by assumption) ?_
                refine wpAnyH_take (i := 5) (v := .pointer (some ⟨G, k * 3, none⟩)) rfl (by kernel_rfl) (by kernel_rfl) (by kernel_rfl) (fun _ _ _ h => h) (yif rfl fun w' hw' => x_index 25 (.tmp 53) (.tmp 54) rfl _ _ (by kernel_rfl) (by kernel_rfl) (by have := run_indexS (P := Try.prog) w' 25 49 G 0 n n k 3 Try.underlying25 (by kernel_rfl) hkn; rwa [Nat.zero_add] at this)) (by assumption) ?_
                refine wpAnyH_take (i := 6) (v := .int .i64 (u + x)) rfl (by kernel_rfl) (by kernel_rfl) (by kernel_rfl) (fun _ _ _ h => h) (yif rfl fun w2 hw2 => by kernel_rfl) (by assumption) ?_
                refine wpAnyH_all (rs := [7, 12]) (by kernel_rfl) (by simp) fun i9 hi9 => ?_
                rcases two_of9 hi9 with rfl | rfl
                · refine op_call (f := 50) (args := #[.pointer (some ⟨G, k * 3, none⟩), .int .i64 (u + x)]) rfl rfl (by kernel_rfl) ((KP.out u0 S0).mono ?_)
                  rintro e u1 ⟨rfl, hb0⟩
                  have S1 := bthen S0 hb0
                  refine ⟨_, rfl, S1, ?_⟩
                  refine wpAnyH_all (rs := [8, 12]) (by kernel_rfl) (by simp) fun i9 hi9 => ?_
                  rcases two_of9 hi9 with rfl | rfl
                  · refine op_call (f := 49) (args := #[.pointer (some ⟨G, k * 3, none⟩), .int .i64 c0]) rfl rfl (by kernel_rfl) ((KA.out u1 S1).mono ?_)
                    rintro e u2 ⟨rfl, hb1⟩
                    have S2 := bthen S1 hb1
                    refine ⟨_, rfl, S2, ?_⟩
                    refine wpAnyH_take (i := 9) (v := .tuple #[.agg (bl rw8), .int .i64 lf]) rfl (by kernel_rfl) (by kernel_rfl) (by kernel_rfl) (fun _ _ _ h => h) (yif rfl fun w2 hw2 => by kernel_rfl) (by assumption) ?_
                    refine wpAnyH_take (i := 10) (v := .agg (bl rw8)) rfl (by kernel_rfl) (by kernel_rfl) (by kernel_rfl) (fun _ _ _ h => h) (yif rfl fun w2 hw2 => by kernel_rfl) (by assumption) ?_
                    refine wpAnyH_take (i := 11) (v := .int .i64 lf) rfl (by kernel_rfl) (by kernel_rfl) (by kernel_rfl) (fun _ _ _ h => h) (yif rfl fun w2 hw2 => by kernel_rfl) (by assumption) ?_
                    refine wpAnyH_all (rs := [12]) (by kernel_rfl) (by simp) fun i9 hi9 => ?_
                    obtain rfl := one_of hi9
                    obtain ⟨GA, hGA⟩ : ∃ g, g = u2.heap.size := ⟨_, rfl⟩
                    obtain ⟨u3, hu3⟩ : ∃ u, u = u2.alloc (.cells (#[.bool false, .bool false, .bool false, .bool false, .bool false, .bool false, .bool false, .bool false]) 84) := ⟨_, rfl⟩
                    have S3 := bnew S2 (.cells (#[.bool false, .bool false, .bool false, .bool false, .bool false, .bool false, .bool false, .bool false]) 84)
                    have N3 := At.new u2 (#[.bool false, .bool false, .bool false, .bool false, .bool false, .bool false, .bool false, .bool false]) 84
                    have hle := S2.size
                    rw [← hu3] at S3 N3
                    rw [← hGA] at N3 hle
                    refine op_value (v := .pointer (some ⟨GA, 0, none⟩)) (w' := u3) rfl rfl (by rw [hu3, hGA]; kernel_rfl) ⟨S3, ?_⟩
                    clear hu3 hGA
                    refine wpAnyH_all (rs := [13]) (by kernel_rfl) (by simp) fun i9 hi9 => ?_
                    obtain rfl := one_of hi9
                    obtain ⟨u4, hu4⟩ : ∃ u, u = u3.setRow GA (bl rw8) := ⟨_, rfl⟩
                    have S4 := bset S3 (g := GA) hle (bl rw8)
                    have N4 := N3.setRow (bl rw8)
                    rw [← hu4] at S4 N4
                    refine op_skip (w' := u4) rfl rfl (by rw [hu4]; exact store_fresh rfl 8 SZV rfl (by kernel_rfl) (bl_one _) _ _ _ (by kernel_rfl) (by kernel_rfl) N3) ⟨S4, ?_⟩
                    clear hu4
                    refine wpAnyH_take (i := 14) (v := .int .i64 lf) rfl (by kernel_rfl) (by kernel_rfl) (by kernel_rfl) (fun _ _ _ h => h) (yif rfl fun w2 hw2 => by kernel_rfl) (by assumption) ?_
                    refine wpAnyH_done (by kernel_rfl) ?_ _
                    go_simp
                    have ct := N4.cell (bl_get (bs := rw8) (k := m) (by have := SZV; rw [bl_size] at this; omega))
                    have B5 := Lib.hid (bthen B1.out S4)
                    clear B1 P1 KP KA
                    go_wp2_with fail
                    exact ⟨⟨k + 1, (u + x), bn rw8 m, by omega, rfl, rfl, by go_num, ⟨by omega, by omega⟩, hu2, Lib.hid hnx.out.symm, B5⟩, by simp [intOf]; omega⟩
                  · obtain ⟨GA, hGA⟩ : ∃ g, g = u1.heap.size := ⟨_, rfl⟩
                    obtain ⟨u2, hu2⟩ : ∃ u, u = u1.alloc (.cells (#[.bool false, .bool false, .bool false, .bool false, .bool false, .bool false, .bool false, .bool false]) 84) := ⟨_, rfl⟩
                    have S2 := bnew S1 (.cells (#[.bool false, .bool false, .bool false, .bool false, .bool false, .bool false, .bool false, .bool false]) 84)
                    have N2 := At.new u1 (#[.bool false, .bool false, .bool false, .bool false, .bool false, .bool false, .bool false, .bool false]) 84
                    have hle := S1.size
                    rw [← hu2] at S2 N2
                    rw [← hGA] at N2 hle
                    refine op_value (v := .pointer (some ⟨GA, 0, none⟩)) (w' := u2) rfl rfl (by rw [hu2, hGA]; kernel_rfl) ⟨S2, ?_⟩
                    clear hu2 hGA
                    refine wpAnyH_all (rs := [8]) (by kernel_rfl) (by simp) fun i9 hi9 => ?_
                    obtain rfl := one_of hi9
                    refine op_call (f := 49) (args := #[.pointer (some ⟨G, k * 3, none⟩), .int .i64 c0]) rfl rfl (by kernel_rfl) ((KA.out u2 S2).mono ?_)
                    rintro e u3 ⟨rfl, hb2⟩
                    have S3 := bthen S2 hb2
                    have N3 := N2.step hb2
                    refine ⟨_, rfl, S3, ?_⟩
                    refine wpAnyH_take (i := 9) (v := .tuple #[.agg (bl rw8), .int .i64 lf]) rfl (by kernel_rfl) (by kernel_rfl) (by kernel_rfl) (fun _ _ _ h => h) (yif rfl fun w2 hw2 => by kernel_rfl) (by assumption) ?_
                    refine wpAnyH_take (i := 10) (v := .agg (bl rw8)) rfl (by kernel_rfl) (by kernel_rfl) (by kernel_rfl) (fun _ _ _ h => h) (yif rfl fun w2 hw2 => by kernel_rfl) (by assumption) ?_
                    refine wpAnyH_take (i := 11) (v := .int .i64 lf) rfl (by kernel_rfl) (by kernel_rfl) (by kernel_rfl) (fun _ _ _ h => h) (yif rfl fun w2 hw2 => by kernel_rfl) (by assumption) ?_
                    refine wpAnyH_all (rs := [13]) (by kernel_rfl) (by simp) fun i9 hi9 => ?_
                    obtain rfl := one_of hi9
                    obtain ⟨u4, hu4⟩ : ∃ u, u = u3.setRow GA (bl rw8) := ⟨_, rfl⟩
                    have S4 := bset S3 (g := GA) hle (bl rw8)
                    have N4 := N3.setRow (bl rw8)
                    rw [← hu4] at S4 N4
                    refine op_skip (w' := u4) rfl rfl (by rw [hu4]; exact store_fresh rfl 8 SZV rfl (by kernel_rfl) (bl_one _) _ _ _ (by kernel_rfl) (by kernel_rfl) N3) ⟨S4, ?_⟩
                    clear hu4
                    refine wpAnyH_take (i := 14) (v := .int .i64 lf) rfl (by kernel_rfl) (by kernel_rfl) (by kernel_rfl) (fun _ _ _ h => h) (yif rfl fun w2 hw2 => by kernel_rfl) (by assumption) ?_
                    refine wpAnyH_done (by kernel_rfl) ?_ _
                    go_simp
                    have ct := N4.cell (bl_get (bs := rw8) (k := m) (by have := SZV; rw [bl_size] at this; omega))
                    have B5 := Lib.hid (bthen B1.out S4)
                    clear B1 P1 KP KA
                    go_wp2_with fail
                    exact ⟨⟨k + 1, (u + x), bn rw8 m, by omega, rfl, rfl, by go_num, ⟨by omega, by omega⟩, hu2, Lib.hid hnx.out.symm, B5⟩, by simp [intOf]; omega⟩
                · obtain ⟨GA, hGA⟩ : ∃ g, g = u0.heap.size := ⟨_, rfl⟩
                  obtain ⟨u1, hu1⟩ : ∃ u, u = u0.alloc (.cells (#[.bool false, .bool false, .bool false, .bool false, .bool false, .bool false, .bool false, .bool false]) 84) := ⟨_, rfl⟩
                  have S1 := bnew S0 (.cells (#[.bool false, .bool false, .bool false, .bool false, .bool false, .bool false, .bool false, .bool false]) 84)
                  have N1 := At.new u0 (#[.bool false, .bool false, .bool false, .bool false, .bool false, .bool false, .bool false, .bool false]) 84
                  have hle := S0.size
                  rw [← hu1] at S1 N1
                  rw [← hGA] at N1 hle
                  refine op_value (v := .pointer (some ⟨GA, 0, none⟩)) (w' := u1) rfl rfl (by rw [hu1, hGA]; kernel_rfl) ⟨S1, ?_⟩
                  clear hu1 hGA
                  refine wpAnyH_all (rs := [7]) (by kernel_rfl) (by simp) fun i9 hi9 => ?_
                  obtain rfl := one_of hi9
                  refine op_call (f := 50) (args := #[.pointer (some ⟨G, k * 3, none⟩), .int .i64 (u + x)]) rfl rfl (by kernel_rfl) ((KP.out u1 S1).mono ?_)
                  rintro e u2 ⟨rfl, hb1⟩
                  have S2 := bthen S1 hb1
                  have N2 := N1.step hb1
                  refine ⟨_, rfl, S2, ?_⟩
                  refine wpAnyH_all (rs := [8]) (by kernel_rfl) (by simp) fun i9 hi9 => ?_
                  obtain rfl := one_of hi9
                  refine op_call (f := 49) (args := #[.pointer (some ⟨G, k * 3, none⟩), .int .i64 c0]) rfl rfl (by kernel_rfl) ((KA.out u2 S2).mono ?_)
                  rintro e u3 ⟨rfl, hb2⟩
                  have S3 := bthen S2 hb2
                  have N3 := N2.step hb2
                  refine ⟨_, rfl, S3, ?_⟩
                  refine wpAnyH_take (i := 9) (v := .tuple #[.agg (bl rw8), .int .i64 lf]) rfl (by kernel_rfl) (by kernel_rfl) (by kernel_rfl) (fun _ _ _ h => h) (yif rfl fun w2 hw2 => by kernel_rfl) (by assumption) ?_
                  refine wpAnyH_take (i := 10) (v := .agg (bl rw8)) rfl (by kernel_rfl) (by kernel_rfl) (by kernel_rfl) (fun _ _ _ h => h) (yif rfl fun w2 hw2 => by kernel_rfl) (by assumption) ?_
                  refine wpAnyH_take (i := 11) (v := .int .i64 lf) rfl (by kernel_rfl) (by kernel_rfl) (by kernel_rfl) (fun _ _ _ h => h) (yif rfl fun w2 hw2 => by kernel_rfl) (by assumption) ?_
                  refine wpAnyH_all (rs := [13]) (by kernel_rfl) (by simp) fun i9 hi9 => ?_
                  obtain rfl := one_of hi9
                  obtain ⟨u4, hu4⟩ : ∃ u, u = u3.setRow GA (bl rw8) := ⟨_, rfl⟩
                  have S4 := bset S3 (g := GA) hle (bl rw8)
                  have N4 := N3.setRow (bl rw8)
                  rw [← hu4] at S4 N4
                  refine op_skip (w' := u4) rfl rfl (by rw [hu4]; exact store_fresh rfl 8 SZV rfl (by kernel_rfl) (bl_one _) _ _ _ (by kernel_rfl) (by kernel_rfl) N3) ⟨S4, ?_⟩
                  clear hu4
                  refine wpAnyH_take (i := 14) (v := .int .i64 lf) rfl (by kernel_rfl) (by kernel_rfl) (by kernel_rfl) (fun _ _ _ h => h) (yif rfl fun w2 hw2 => by kernel_rfl) (by assumption) ?_
                  refine wpAnyH_done (by kernel_rfl) ?_ _
                  go_simp
                  have ct := N4.cell (bl_get (bs := rw8) (k := m) (by have := SZV; rw [bl_size] at this; omega))
                  have B5 := Lib.hid (bthen B1.out S4)
                  clear B1 P1 KP KA
                  go_wp2_with fail
                  exact ⟨⟨k + 1, (u + x), bn rw8 m, by omega, rfl, rfl, by go_num, ⟨by omega, by omega⟩, hu2, Lib.hid hnx.out.symm, B5⟩, by simp [intOf]; omega⟩
              · have kd5 : ¬ (0 : Int) < (k : Int) := by omega
                have hu2 := Lib.hid (show u = t0 + sm ts k from by rw [hu.out, show k - 1 = k from by omega])
                have hr1 := Int.emod_nonneg (u - pO ps k) (show cyc (pS ps k) (pB ps k) ≠ 0 by omega)
                have hr2 := Int.emod_lt_of_pos (u - pO ps k) (show 0 < cyc (pS ps k) (pB ps k) by omega)
                have KP := Lib.hid (fun w' (hb : Below wr.heap.size wr w') => l04PlaceO_any G (k * 3) (gs k) (pS ps k) (pB ps k) (pO ps k) hWk 96 hokk u (by omega) w' (PlAt.of_row (P1.step hb).row hkl) ((P1.step hb).sl k hkl))
                have KA := Lib.hid (fun w' (hb : Below wr.heap.size wr w') => l04AtO_any G (k * 3) (gs k) (pS ps k) (pB ps k) (pO ps k) hWk 96 hl.2 hb' htk ((u - pO ps k) % cyc (pS ps k) (pB ps k)) ⟨hr1, by omega⟩ w' (PlAt.of_row (P1.step hb).row hkl) ((P1.step hb).sl k hkl))
                have hgk : mG ps ts m t0 k = bn (atS (pB ps k) (pS ps k) ((u - pO ps k) % cyc (pS ps k) (pB ps k))).1 m := by
                  unfold mG gre
                  rw [← hu2.out, Int.toNat_of_nonneg hr1]
                have hnx := Lib.hid (show allK (mG ps ts m t0) (k + 1) = bn (atS (pB ps k) (pS ps k) ((u - pO ps k) % cyc (pS ps k) (pB ps k))).1 m from by rw [← hgk]; show (_ && _) = _; rw [hall.out]; rfl)
                have SZV : (bl ((atS (pB ps k) (pS ps k) ((u - pO ps k) % cyc (pS ps k) (pB ps k))).1)).size = 8 := by rw [bl_size, atS_len hWk]
                clear hgk hr1 hr2 hl hb' htk hc240 ho1 hokk hall
                generalize (u - pO ps k) % cyc (pS ps k) (pB ps k) = c0 at *
                generalize (atS (pB ps k) (pS ps k) c0).1 = rw8 at *
                generalize (atS (pB ps k) (pS ps k) c0).2 = lf at *
                go_wp2_with fail
                refine wp_region_held (S := fun w' => Below wr.heap.size wr w') (by kernel_rfl) ?_
                show wpAnyH _ _ _ _ _ 15 (Array.replicate 15 false) _ _
                have S0 : Below wr.heap.size wr { wr with drawn := wr.drawn + 1 } := bdrew (Below.refl _ wr) 1
                generalize hw0 : ({ wr with drawn := wr.drawn + 1 } : World) = u0 at S0 ⊢
                clear hw0
                refine wpAnyH_take (i := 0) (v := .slice (some ⟨G, 0, none⟩) n n) rfl (by kernel_rfl) (by kernel_rfl) (by kernel_rfl) (fun _ _ _ h => h) (yif rfl fun w2 hw2 => by kernel_rfl) (by assumption) ?_
                refine wpAnyH_take (i := 1) (v := .int .i64 (k : Int)) rfl (by kernel_rfl) (by kernel_rfl) (by kernel_rfl) (fun _ _ _ h => h) (yif rfl fun w2 hw2 => by kernel_rfl) (by assumption) ?_
                refine wpAnyH_take (i := 2) (v := .pointer (some ⟨G, k * 3, none⟩)) rfl (by kernel_rfl) (by kernel_rfl) (by kernel_rfl) (fun _ _ _ h => h) (yif rfl fun w' hw' => x_index 25 (.tmp 50) (.tmp 51) rfl _ _ (by kernel_rfl) (by kernel_rfl) (by have := run_indexS (P := Try.prog) w' 25 49 G 0 n n k 3 Try.underlying25 (by kernel_rfl) hkn; rwa [Nat.zero_add] at this)) (by assumption) ?_
                refine wpAnyH_take (i := 3) (v := .slice (some ⟨G, 0, none⟩) n n) rfl (by kernel_rfl) (by kernel_rfl) (by kernel_rfl) (fun _ _ _ h => h) (yif rfl fun w2 hw2 => by kernel_rfl) (by assumption) ?_
                refine wpAnyH_take (i := 4) (v := .int .i64 (k : Int)) rfl (by kernel_rfl) (by kernel_rfl) (by kernel_rfl) (fun _ _ _ h => h) (yif rfl fun w2 hw2 => by kernel_rfl) (by assumption) ?_
                refine wpAnyH_take (i := 5) (v := .pointer (some ⟨G, k * 3, none⟩)) rfl (by kernel_rfl) (by kernel_rfl) (by kernel_rfl) (fun _ _ _ h => h) (yif rfl fun w' hw' => x_index 25 (.tmp 53) (.tmp 54) rfl _ _ (by kernel_rfl) (by kernel_rfl) (by have := run_indexS (P := Try.prog) w' 25 49 G 0 n n k 3 Try.underlying25 (by kernel_rfl) hkn; rwa [Nat.zero_add] at this)) (by assumption) ?_
                refine wpAnyH_take (i := 6) (v := .int .i64 u) rfl (by kernel_rfl) (by kernel_rfl) (by kernel_rfl) (fun _ _ _ h => h) (yif rfl fun w2 hw2 => by kernel_rfl) (by assumption) ?_
                refine wpAnyH_all (rs := [7, 12]) (by kernel_rfl) (by simp) fun i9 hi9 => ?_
                rcases two_of9 hi9 with rfl | rfl
                · refine op_call (f := 50) (args := #[.pointer (some ⟨G, k * 3, none⟩), .int .i64 u]) rfl rfl (by kernel_rfl) ((KP.out u0 S0).mono ?_)
                  rintro e u1 ⟨rfl, hb0⟩
                  have S1 := bthen S0 hb0
                  refine ⟨_, rfl, S1, ?_⟩
                  refine wpAnyH_all (rs := [8, 12]) (by kernel_rfl) (by simp) fun i9 hi9 => ?_
                  rcases two_of9 hi9 with rfl | rfl
                  · refine op_call (f := 49) (args := #[.pointer (some ⟨G, k * 3, none⟩), .int .i64 c0]) rfl rfl (by kernel_rfl) ((KA.out u1 S1).mono ?_)
                    rintro e u2 ⟨rfl, hb1⟩
                    have S2 := bthen S1 hb1
                    refine ⟨_, rfl, S2, ?_⟩
                    refine wpAnyH_take (i := 9) (v := .tuple #[.agg (bl rw8), .int .i64 lf]) rfl (by kernel_rfl) (by kernel_rfl) (by kernel_rfl) (fun _ _ _ h => h) (yif rfl fun w2 hw2 => by kernel_rfl) (by assumption) ?_
                    refine wpAnyH_take (i := 10) (v := .agg (bl rw8)) rfl (by kernel_rfl) (by kernel_rfl) (by kernel_rfl) (fun _ _ _ h => h) (yif rfl fun w2 hw2 => by kernel_rfl) (by assumption) ?_
                    refine wpAnyH_take (i := 11) (v := .int .i64 lf) rfl (by kernel_rfl) (by kernel_rfl) (by kernel_rfl) (fun _ _ _ h => h) (yif rfl fun w2 hw2 => by kernel_rfl) (by assumption) ?_
                    refine wpAnyH_all (rs := [12]) (by kernel_rfl) (by simp) fun i9 hi9 => ?_
                    obtain rfl := one_of hi9
                    obtain ⟨GA, hGA⟩ : ∃ g, g = u2.heap.size := ⟨_, rfl⟩
                    obtain ⟨u3, hu3⟩ : ∃ u, u = u2.alloc (.cells (#[.bool false, .bool false, .bool false, .bool false, .bool false, .bool false, .bool false, .bool false]) 84) := ⟨_, rfl⟩
                    have S3 := bnew S2 (.cells (#[.bool false, .bool false, .bool false, .bool false, .bool false, .bool false, .bool false, .bool false]) 84)
                    have N3 := At.new u2 (#[.bool false, .bool false, .bool false, .bool false, .bool false, .bool false, .bool false, .bool false]) 84
                    have hle := S2.size
                    rw [← hu3] at S3 N3
                    rw [← hGA] at N3 hle
                    refine op_value (v := .pointer (some ⟨GA, 0, none⟩)) (w' := u3) rfl rfl (by rw [hu3, hGA]; kernel_rfl) ⟨S3, ?_⟩
                    clear hu3 hGA
                    refine wpAnyH_all (rs := [13]) (by kernel_rfl) (by simp) fun i9 hi9 => ?_
                    obtain rfl := one_of hi9
                    obtain ⟨u4, hu4⟩ : ∃ u, u = u3.setRow GA (bl rw8) := ⟨_, rfl⟩
                    have S4 := bset S3 (g := GA) hle (bl rw8)
                    have N4 := N3.setRow (bl rw8)
                    rw [← hu4] at S4 N4
                    refine op_skip (w' := u4) rfl rfl (by rw [hu4]; exact store_fresh rfl 8 SZV rfl (by kernel_rfl) (bl_one _) _ _ _ (by kernel_rfl) (by kernel_rfl) N3) ⟨S4, ?_⟩
                    clear hu4
                    refine wpAnyH_take (i := 14) (v := .int .i64 lf) rfl (by kernel_rfl) (by kernel_rfl) (by kernel_rfl) (fun _ _ _ h => h) (yif rfl fun w2 hw2 => by kernel_rfl) (by assumption) ?_
                    refine wpAnyH_done (by kernel_rfl) ?_ _
                    go_simp
                    have ct := N4.cell (bl_get (bs := rw8) (k := m) (by have := SZV; rw [bl_size] at this; omega))
                    have B5 := Lib.hid (bthen B1.out S4)
                    clear B1 P1 KP KA
                    go_wp2_with fail
                    exact ⟨⟨k + 1, u, bn rw8 m, by omega, rfl, rfl, by go_num, ⟨by omega, by omega⟩, hu2, Lib.hid hnx.out.symm, B5⟩, by simp [intOf]; omega⟩
                  · obtain ⟨GA, hGA⟩ : ∃ g, g = u1.heap.size := ⟨_, rfl⟩
                    obtain ⟨u2, hu2⟩ : ∃ u, u = u1.alloc (.cells (#[.bool false, .bool false, .bool false, .bool false, .bool false, .bool false, .bool false, .bool false]) 84) := ⟨_, rfl⟩
                    have S2 := bnew S1 (.cells (#[.bool false, .bool false, .bool false, .bool false, .bool false, .bool false, .bool false, .bool false]) 84)
                    have N2 := At.new u1 (#[.bool false, .bool false, .bool false, .bool false, .bool false, .bool false, .bool false, .bool false]) 84
                    have hle := S1.size
                    rw [← hu2] at S2 N2
                    rw [← hGA] at N2 hle
                    refine op_value (v := .pointer (some ⟨GA, 0, none⟩)) (w' := u2) rfl rfl (by rw [hu2, hGA]; kernel_rfl) ⟨S2, ?_⟩
                    clear hu2 hGA
                    refine wpAnyH_all (rs := [8]) (by kernel_rfl) (by simp) fun i9 hi9 => ?_
                    obtain rfl := one_of hi9
                    refine op_call (f := 49) (args := #[.pointer (some ⟨G, k * 3, none⟩), .int .i64 c0]) rfl rfl (by kernel_rfl) ((KA.out u2 S2).mono ?_)
                    rintro e u3 ⟨rfl, hb2⟩
                    have S3 := bthen S2 hb2
                    have N3 := N2.step hb2
                    refine ⟨_, rfl, S3, ?_⟩
                    refine wpAnyH_take (i := 9) (v := .tuple #[.agg (bl rw8), .int .i64 lf]) rfl (by kernel_rfl) (by kernel_rfl) (by kernel_rfl) (fun _ _ _ h => h) (yif rfl fun w2 hw2 => by kernel_rfl) (by assumption) ?_
                    refine wpAnyH_take (i := 10) (v := .agg (bl rw8)) rfl (by kernel_rfl) (by kernel_rfl) (by kernel_rfl) (fun _ _ _ h => h) (yif rfl fun w2 hw2 => by kernel_rfl) (by assumption) ?_
                    refine wpAnyH_take (i := 11) (v := .int .i64 lf) rfl (by kernel_rfl) (by kernel_rfl) (by kernel_rfl) (fun _ _ _ h => h) (yif rfl fun w2 hw2 => by kernel_rfl) (by assumption) ?_
                    refine wpAnyH_all (rs := [13]) (by kernel_rfl) (by simp) fun i9 hi9 => ?_
                    obtain rfl := one_of hi9
                    obtain ⟨u4, hu4⟩ : ∃ u, u = u3.setRow GA (bl rw8) := ⟨_, rfl⟩
                    have S4 := bset S3 (g := GA) hle (bl rw8)
                    have N4 := N3.setRow (bl rw8)
                    rw [← hu4] at S4 N4
                    refine op_skip (w' := u4) rfl rfl (by rw [hu4]; exact store_fresh rfl 8 SZV rfl (by kernel_rfl) (bl_one _) _ _ _ (by kernel_rfl) (by kernel_rfl) N3) ⟨S4, ?_⟩
                    clear hu4
                    refine wpAnyH_take (i := 14) (v := .int .i64 lf) rfl (by kernel_rfl) (by kernel_rfl) (by kernel_rfl) (fun _ _ _ h => h) (yif rfl fun w2 hw2 => by kernel_rfl) (by assumption) ?_
                    refine wpAnyH_done (by kernel_rfl) ?_ _
                    go_simp
                    have ct := N4.cell (bl_get (bs := rw8) (k := m) (by have := SZV; rw [bl_size] at this; omega))
                    have B5 := Lib.hid (bthen B1.out S4)
                    clear B1 P1 KP KA
                    go_wp2_with fail
                    exact ⟨⟨k + 1, u, bn rw8 m, by omega, rfl, rfl, by go_num, ⟨by omega, by omega⟩, hu2, Lib.hid hnx.out.symm, B5⟩, by simp [intOf]; omega⟩
                · obtain ⟨GA, hGA⟩ : ∃ g, g = u0.heap.size := ⟨_, rfl⟩
                  obtain ⟨u1, hu1⟩ : ∃ u, u = u0.alloc (.cells (#[.bool false, .bool false, .bool false, .bool false, .bool false, .bool false, .bool false, .bool false]) 84) := ⟨_, rfl⟩
                  have S1 := bnew S0 (.cells (#[.bool false, .bool false, .bool false, .bool false, .bool false, .bool false, .bool false, .bool false]) 84)
                  have N1 := At.new u0 (#[.bool false, .bool false, .bool false, .bool false, .bool false, .bool false, .bool false, .bool false]) 84
                  have hle := S0.size
                  rw [← hu1] at S1 N1
                  rw [← hGA] at N1 hle
                  refine op_value (v := .pointer (some ⟨GA, 0, none⟩)) (w' := u1) rfl rfl (by rw [hu1, hGA]; kernel_rfl) ⟨S1, ?_⟩
                  clear hu1 hGA
                  refine wpAnyH_all (rs := [7]) (by kernel_rfl) (by simp) fun i9 hi9 => ?_
                  obtain rfl := one_of hi9
                  refine op_call (f := 50) (args := #[.pointer (some ⟨G, k * 3, none⟩), .int .i64 u]) rfl rfl (by kernel_rfl) ((KP.out u1 S1).mono ?_)
                  rintro e u2 ⟨rfl, hb1⟩
                  have S2 := bthen S1 hb1
                  have N2 := N1.step hb1
                  refine ⟨_, rfl, S2, ?_⟩
                  refine wpAnyH_all (rs := [8]) (by kernel_rfl) (by simp) fun i9 hi9 => ?_
                  obtain rfl := one_of hi9
                  refine op_call (f := 49) (args := #[.pointer (some ⟨G, k * 3, none⟩), .int .i64 c0]) rfl rfl (by kernel_rfl) ((KA.out u2 S2).mono ?_)
                  rintro e u3 ⟨rfl, hb2⟩
                  have S3 := bthen S2 hb2
                  have N3 := N2.step hb2
                  refine ⟨_, rfl, S3, ?_⟩
                  refine wpAnyH_take (i := 9) (v := .tuple #[.agg (bl rw8), .int .i64 lf]) rfl (by kernel_rfl) (by kernel_rfl) (by kernel_rfl) (fun _ _ _ h => h) (yif rfl fun w2 hw2 => by kernel_rfl) (by assumption) ?_
                  refine wpAnyH_take (i := 10) (v := .agg (bl rw8)) rfl (by kernel_rfl) (by kernel_rfl) (by kernel_rfl) (fun _ _ _ h => h) (yif rfl fun w2 hw2 => by kernel_rfl) (by assumption) ?_
                  refine wpAnyH_take (i := 11) (v := .int .i64 lf) rfl (by kernel_rfl) (by kernel_rfl) (by kernel_rfl) (fun _ _ _ h => h) (yif rfl fun w2 hw2 => by kernel_rfl) (by assumption) ?_
                  refine wpAnyH_all (rs := [13]) (by kernel_rfl) (by simp) fun i9 hi9 => ?_
                  obtain rfl := one_of hi9
                  obtain ⟨u4, hu4⟩ : ∃ u, u = u3.setRow GA (bl rw8) := ⟨_, rfl⟩
                  have S4 := bset S3 (g := GA) hle (bl rw8)
                  have N4 := N3.setRow (bl rw8)
                  rw [← hu4] at S4 N4
                  refine op_skip (w' := u4) rfl rfl (by rw [hu4]; exact store_fresh rfl 8 SZV rfl (by kernel_rfl) (bl_one _) _ _ _ (by kernel_rfl) (by kernel_rfl) N3) ⟨S4, ?_⟩
                  clear hu4
                  refine wpAnyH_take (i := 14) (v := .int .i64 lf) rfl (by kernel_rfl) (by kernel_rfl) (by kernel_rfl) (fun _ _ _ h => h) (yif rfl fun w2 hw2 => by kernel_rfl) (by assumption) ?_
                  refine wpAnyH_done (by kernel_rfl) ?_ _
                  go_simp
                  have ct := N4.cell (bl_get (bs := rw8) (k := m) (by have := SZV; rw [bl_size] at this; omega))
                  have B5 := Lib.hid (bthen B1.out S4)
                  clear B1 P1 KP KA
                  go_wp2_with fail
                  exact ⟨⟨k + 1, u, bn rw8 m, by omega, rfl, rfl, by go_num, ⟨by omega, by omega⟩, hu2, Lib.hid hnx.out.symm, B5⟩, by simp [intOf]; omega⟩
            · obtain rfl : n = k := by omega
              have kd9 : ¬ (n : Int) < (n : Int) := by omega
              have hq : b2 = true := by rw [← HB.out, ← HN.out]; exact hall.out
              subst hq
              have hq : c' = c + 1 := by simpa using hnx2
              clear hnx2
              subst hq
              go_wp2_with fail
              exact ⟨⟨i + 1, by omega, by go_num, by rw [hnc.out]; go_num, B1⟩, by simp [intOf]; omega⟩
      · obtain rfl : cn = i := by omega
        have kd : ¬ (cn : Int) < (cn : Int) := by omega
        go_wp2_with fail
        go_ret2
        exact ⟨by rw [HV.out]; rfl, B4.out⟩
  · have hv := Lib.hid (vWid_no hc)
    have e1 : (rowC ps ts mv != 0) = true := by simpa using hc
    have e2 : decide (rowC ps ts mv = 0) = false := decide_eq_false hc
    generalize rowC ps ts mv = c at *
    clear P0 H0 hW
    go_enter Try.func19, Try.ntmps19
    go_wp2_with fail
    refine KR.mono ?_
    rintro e w1 ⟨rfl, hb1⟩
    go_wp2_with fail
    go_ret2
    exact ⟨by rw [hv.out]; rfl, hb1⟩

end Go.Proofs.Ytkaghfoaicbngab
