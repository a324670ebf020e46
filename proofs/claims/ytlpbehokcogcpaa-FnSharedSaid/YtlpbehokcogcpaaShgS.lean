/-
  CONTRACTS: shared green: the model.
-/
import Derived.Test.YtlpbehokcogcpaaShgH
import Derived.Test.YtlpbehokcogcpaaG4
import Derived.Test.YtlpbehokcogcpaaG6
import Derived.Test.YtlpbehokcogcpaaTake2
namespace Go.Proofs.Ytlpbehokcogcpaa
open Go Go.ChangeShapes Go.WideShapes Go.ChangeAt Go.RowKit Go.Deep
set_option maxRecDepth 100000

set_option maxHeartbeats 4000000 in
theorem sShareGreen_any (G : Nat) (ps : List P8) (hn : ps.length ≤ 1048576) (ds : List Nat) (hl : ds.length = 8) (hx : ∀ x ∈ ds, x < 4294967296) (cy bt : Int) (T : TypeId) (w : World) (A0 : At w G (fm f8 ps) T) :
    Calls Try.prog 6 #[(.slice (some ⟨G, 0, none⟩) ps.length ps.length), .agg (fl ds), .int .i64 cy, .int .i64 bt] w fun e w' => PR w w' (vShg ps ds cy bt).1 (vShg ps ds cy bt).2.1 (vShg ps ds cy bt).2.2.1 (vShg ps ds cy bt).2.2.2 e := by
  obtain ⟨n, hnn⟩ : ∃ n, n = ps.length := ⟨_, rfl⟩
  rw [← hnn]
  have HN := Lib.hid hnn
  rw [← hnn] at hn
  clear hnn
  have D0 : At ((w.alloc (.cells (fl ds) 24)).alloc (.cells (#[.slice none 0 0, .int .i64 0, .int .i64 0]) 28)) w.heap.size (fl ds) 24 := (At.new w _ _).alloc _
  have Z0 : At ((w.alloc (.cells (fl ds) 24)).alloc (.cells (#[.slice none 0 0, .int .i64 0, .int .i64 0]) 28)) (w.heap.size + 1) (plC (.slice none 0 0) 0 0) 28 := At.last1 w _ _ _
  have A1 := (A0.alloc (.cells (fl ds) 24)).alloc (.cells (#[.slice none 0 0, .int .i64 0, .int .i64 0]) 28)
  have B0 := Lib.hid (bnew (b0 w (.cells (fl ds) 24)) (.cells (#[.slice none 0 0, .int .i64 0, .int .i64 0]) 28))
  have hGw := A0.lt
  have hsz2 : (((w.alloc (.cells (fl ds) 24)).alloc (.cells (#[.slice none 0 0, .int .i64 0, .int .i64 0]) 28))).heap.size = w.heap.size + 1 + 1 := by simp
  obtain ⟨w1, hw1⟩ : ∃ w1, w1 = ((w.alloc (.cells (fl ds) 24)).alloc (.cells (#[.slice none 0 0, .int .i64 0, .int .i64 0]) 28)) := ⟨_, rfl⟩
  rw [← hw1] at D0 Z0 A1 B0 hsz2
  have KN := l00In_b (n : Int) 1 8 w1
  cases e1 : inB 1 8 (n : Int)
  · have hv := Lib.hid (vShg_no (ps := ps) (ds := ds) (cy := cy) (bt := bt) (fun h => by have hnn := HN.out; unfold inB at e1; have := h.1; have := h.2.1; simp at e1; omega))
    rw [e1] at KN
    go_enter Try.func6, Try.ntmps6
    rw [hw1] at KN
    go_wp2_with fail
    refine KN.mono ?_
    rintro e w2 ⟨rfl, m1, rfl⟩
    rw [← hw1]
    have Z1 := Z0.drewN m1
    have B1 := Lib.hid (bdrew B0.out m1)
    generalize World.drewN w1 m1 = w2 at Z1 B1 ⊢
    clear KN D0 Z0 A1 B0 hw1 A0
    go_wp2_with fail
    go_loopw [11, 12] (fun o i wr => ∃ k : Nat, k ≤ 8 ∧ i = .int .i64 (k : Int) ∧ o = .bool false ∧ wr = w2) (fun _ i _ => 8 - (intOf i).toNat)
    case atStart => exact ⟨0, by omega, rfl, rfl, rfl⟩
    case round =>
      obtain ⟨k, hk, rfl, rfl, rfl⟩ := hrel
      by_cases hlt : k < 8
      · have s2 : IntKind.i64.wrap ((k : Int) + 1) = (k : Int) + 1 := IntWalk.i64_in _ (by omega)
        have kd : (k : Int) < 8 := by omega
        go_wp2_with fail
        exact ⟨⟨k + 1, by omega, by go_num, rfl, by trivial⟩, by simp [intOf]; omega⟩
      · obtain rfl : k = 8 := by omega
        have R9 := Z1.setRow (plC (.slice none 0 0) 0 0)
        have B9 := Lib.hid (bset B1.out (g := w.heap.size + 1) (by omega) (plC (.slice none 0 0) 0 0))
        go_wp2_with (((with_reducible refine is_store 28 _ _ rfl ?_); refine wpList_store_at rfl 28 _ _ rfl _ rfl (plC (.slice none 0 0) 0 0) rfl (plC (.slice none 0 0) 0 0) _ (by with_reducible assumption) 3 (plC_size _ _ _) (plC_size _ _ _) (by kernel_rfl) (pl_one _ rfl _ _) ?_))
        exact bodyPost_ret (v := .tuple #[.agg (plC (.slice none 0 0) 0 0), .int .i64 2]) (results_at_tmp (p := 8) (ty := 28) rfl _ _ _ (plC (.slice none 0 0) 0 0) _ (.int .i64 2) rfl rfl R9 _ Try.underlying28 rfl 3 (plC_size _ _ _) (by kernel_rfl)) rfl ⟨⟨_, by rw [hv.out], by rw [hv.out]; exact OwnSl.nil _ _⟩, B9.out⟩
  · rw [e1] at KN
    have KB := fun w => l00In_b bt 0 240 w
    cases e2 : inB 0 240 bt
    · have hv := Lib.hid (vShg_no (ps := ps) (ds := ds) (cy := cy) (bt := bt) (fun h => by unfold inB at e2; have := h.2.2.2.1; have := h.2.2.2.2.1; simp at e2; omega))
      rw [e2] at KB
      go_enter Try.func6, Try.ntmps6
      rw [hw1] at KN
      go_wp2_with fail
      refine KN.mono ?_
      rintro e w2 ⟨rfl, m1, rfl⟩
      go_wp2_with fail
      refine (KB _).mono ?_
      rintro e w3 ⟨rfl, m2, rfl⟩
      rw [← hw1]
      have Z1 := (Z0.drewN m1).drewN m2
      have B1 := Lib.hid (bdrew (bdrew B0.out m1) m2)
      generalize World.drewN (World.drewN w1 m1) m2 = w2 at Z1 B1 ⊢
      clear KN KB D0 Z0 A1 B0 hw1 A0
      go_wp2_with fail
      go_loopw [11, 12] (fun o i wr => ∃ k : Nat, k ≤ 8 ∧ i = .int .i64 (k : Int) ∧ o = .bool false ∧ wr = w2) (fun _ i _ => 8 - (intOf i).toNat)
      case atStart => exact ⟨0, by omega, rfl, rfl, rfl⟩
      case round =>
        obtain ⟨k, hk, rfl, rfl, rfl⟩ := hrel
        by_cases hlt : k < 8
        · have s2 : IntKind.i64.wrap ((k : Int) + 1) = (k : Int) + 1 := IntWalk.i64_in _ (by omega)
          have kd : (k : Int) < 8 := by omega
          go_wp2_with fail
          exact ⟨⟨k + 1, by omega, by go_num, rfl, by trivial⟩, by simp [intOf]; omega⟩
        · obtain rfl : k = 8 := by omega
          have R9 := Z1.setRow (plC (.slice none 0 0) 0 0)
          have B9 := Lib.hid (bset B1.out (g := w.heap.size + 1) (by omega) (plC (.slice none 0 0) 0 0))
          go_wp2_with (((with_reducible refine is_store 28 _ _ rfl ?_); refine wpList_store_at rfl 28 _ _ rfl _ rfl (plC (.slice none 0 0) 0 0) rfl (plC (.slice none 0 0) 0 0) _ (by with_reducible assumption) 3 (plC_size _ _ _) (plC_size _ _ _) (by kernel_rfl) (pl_one _ rfl _ _) ?_))
          exact bodyPost_ret (v := .tuple #[.agg (plC (.slice none 0 0) 0 0), .int .i64 2]) (results_at_tmp (p := 8) (ty := 28) rfl _ _ _ (plC (.slice none 0 0) 0 0) _ (.int .i64 2) rfl rfl R9 _ Try.underlying28 rfl 3 (plC_size _ _ _) (by kernel_rfl)) rfl ⟨⟨_, by rw [hv.out], by rw [hv.out]; exact OwnSl.nil _ _⟩, B9.out⟩
    · rw [e2] at KB
      have KC := fun w => l00In_b cy 0 240 w
      cases e3 : inB 0 240 cy
      · have hv := Lib.hid (vShg_no (ps := ps) (ds := ds) (cy := cy) (bt := bt) (fun h => by
          have h1 := g_mul h.2.1 h.2.2.2.1 h.2.2.2.2.1
          unfold inB at e3; have := h.2.2.2.2.2.1; have := h.2.2.2.2.2.2; simp at e3; omega))
        rw [e3] at KC
        go_enter Try.func6, Try.ntmps6
        rw [hw1] at KN
        go_wp2_with fail
        refine KN.mono ?_
        rintro e w2 ⟨rfl, m1, rfl⟩
        go_wp2_with fail
        refine (KB _).mono ?_
        rintro e w3 ⟨rfl, m2, rfl⟩
        go_wp2_with fail
        refine (KC _).mono ?_
        rintro e w4 ⟨rfl, m3, rfl⟩
        rw [← hw1]
        have Z1 := (Z0.drewN (m1 + m2)).drewN m3
        have B1 := Lib.hid (bdrew (bdrew B0.out (m1 + m2)) m3)
        generalize World.drewN (World.drewN w1 (m1 + m2)) m3 = w2 at Z1 B1 ⊢
        clear KN KB KC D0 Z0 A1 B0 hw1 A0
        go_wp2_with fail
        go_loopw [11, 12] (fun o i wr => ∃ k : Nat, k ≤ 8 ∧ i = .int .i64 (k : Int) ∧ o = .bool false ∧ wr = w2) (fun _ i _ => 8 - (intOf i).toNat)
        case atStart => exact ⟨0, by omega, rfl, rfl, rfl⟩
        case round =>
          obtain ⟨k, hk, rfl, rfl, rfl⟩ := hrel
          by_cases hlt : k < 8
          · have s2 : IntKind.i64.wrap ((k : Int) + 1) = (k : Int) + 1 := IntWalk.i64_in _ (by omega)
            have kd : (k : Int) < 8 := by omega
            go_wp2_with fail
            exact ⟨⟨k + 1, by omega, by go_num, rfl, by trivial⟩, by simp [intOf]; omega⟩
          · obtain rfl : k = 8 := by omega
            have R9 := Z1.setRow (plC (.slice none 0 0) 0 0)
            have B9 := Lib.hid (bset B1.out (g := w.heap.size + 1) (by omega) (plC (.slice none 0 0) 0 0))
            go_wp2_with (((with_reducible refine is_store 28 _ _ rfl ?_); refine wpList_store_at rfl 28 _ _ rfl _ rfl (plC (.slice none 0 0) 0 0) rfl (plC (.slice none 0 0) 0 0) _ (by with_reducible assumption) 3 (plC_size _ _ _) (plC_size _ _ _) (by kernel_rfl) (pl_one _ rfl _ _) ?_))
            exact bodyPost_ret (v := .tuple #[.agg (plC (.slice none 0 0) 0 0), .int .i64 2]) (results_at_tmp (p := 8) (ty := 28) rfl _ _ _ (plC (.slice none 0 0) 0 0) _ (.int .i64 2) rfl rfl R9 _ Try.underlying28 rfl 3 (plC_size _ _ _) (by kernel_rfl)) rfl ⟨⟨_, by rw [hv.out], by rw [hv.out]; exact OwnSl.nil _ _⟩, B9.out⟩
      · rw [e3] at KC
        go_enter Try.func6, Try.ntmps6
        rw [hw1] at KN
        go_wp2_with fail
        refine KN.mono ?_
        rintro e w2 ⟨rfl, m1, rfl⟩
        go_wp2_with fail
        refine (KB _).mono ?_
        rintro e w3 ⟨rfl, m2, rfl⟩
        go_wp2_with fail
        refine (KC _).mono ?_
        rintro e w4 ⟨rfl, m3, rfl⟩
        rw [← hw1]
        have Z1 := (Z0.drewN (m1 + m2)).drewN m3
        have D1 := (D0.drewN (m1 + m2)).drewN m3
        have A2 := (A1.drewN (m1 + m2)).drewN m3
        have B1 := Lib.hid (bdrew (bdrew B0.out (m1 + m2)) m3)
        have hsz3 : (World.drewN (World.drewN w1 (m1 + m2)) m3).heap.size = w.heap.size + 1 + 1 := hsz2
        generalize World.drewN (World.drewN w1 (m1 + m2)) m3 = w2 at Z1 D1 A2 B1 hsz3 ⊢
        clear KN KB KC D0 Z0 A1 B0 hw1 A0 hsz2
        have hn8 : 1 ≤ n ∧ n ≤ 8 := by unfold inB at e1; simp at e1; omega
        have hb240 : 0 ≤ bt ∧ bt ≤ 240 := by unfold inB at e2; simpa using e2
        have hc240 : 0 ≤ cy ∧ cy ≤ 240 := by unfold inB at e3; simpa using e3
        clear e1 e2 e3
        go_wp2_with fail
        go_loopw [11, 12] (fun o i wr => ∃ (k m : Nat) (q : Bool), k ≤ 8 ∧ i = .int .i64 (k : Int) ∧ o = .bool q ∧ Hid (q = (ds.take k).all amtB) ∧ wr = w2.drewN m) (fun _ i _ => 8 - (intOf i).toNat)
        case atStart => exact ⟨0, 0, true, by omega, rfl, rfl, Lib.hid rfl, rfl⟩
        case round =>
          obtain ⟨k, m, q, hk, rfl, rfl, hq, rfl⟩ := hrel
          by_cases hlt : k < 8
          · have s2 : IntKind.i64.wrap ((k : Int) + 1) = (k : Int) + 1 := IntWalk.i64_in _ (by omega)
            have kd : (k : Int) < 8 := by omega
            cases q
            · have hq2 := Lib.hid (all_tk_no hq.out.symm)
              go_wp2_with fail
              exact ⟨⟨k + 1, m, false, by omega, by go_num, rfl, Lib.hid hq2.out.symm, by trivial⟩, by simp [intOf]; omega⟩
            · have hq2 := Lib.hid (all_tk_yes (by omega) hq.out.symm)
              have c1 : (w2.drewN m).cell? ⟨w.heap.size, k, none⟩ = some (.float .f32 (nth ds k)) := (D1.drewN m).cell (fl_get (by omega))
              have hw : nth ds k < 4294967296 := by
                refine hx _ ?_
                show (ds[k]?).getD 0 ∈ ds
                rw [List.getElem?_eq_getElem (by omega), Option.getD_some]; exact List.getElem_mem (by omega)
              have KA := l01Amount_any (nth ds k) hw (w2.drewN m)
              go_wp2_with fail
              refine KA.mono ?_
              rintro e w3 ⟨rfl, m2, rfl⟩
              go_wp2_with fail
              exact ⟨⟨k + 1, m + m2, amtB (nth ds k), by omega, by go_num, rfl, Lib.hid hq2.out.symm, rfl⟩, by simp [intOf]; omega⟩
          · obtain rfl : k = 8 := by omega
            rw [← hl, List.take_length] at hq
            have hm := g_mul hn8.2 hb240.1 hb240.2
            have Z3 := Z1.drewN m
            have D3 := D1.drewN m
            have A3 := A2.drewN m
            have B3 := Lib.hid (bdrew B1.out m)
            have hsz4 : (w2.drewN m).heap.size = w.heap.size + 1 + 1 := hsz3
            generalize World.drewN w2 m = w3 at Z3 D3 A3 B3 hsz4 ⊢
            clear Z1 D1 A2 B1 hsz3
            cases q
            · have hv := Lib.hid (vShg_no (ps := ps) (ds := ds) (cy := cy) (bt := bt) (fun h => by
                have := h.2.2.1
                rw [← hq.out] at this
                cases this))
              have R9 := Z3.setRow (plC (.slice none 0 0) 0 0)
              have B9 := Lib.hid (bset B3.out (g := w.heap.size + 1) (by omega) (plC (.slice none 0 0) 0 0))
              go_wp2_with (((with_reducible refine is_store 28 _ _ rfl ?_); refine wpList_store_at rfl 28 _ _ rfl _ rfl (plC (.slice none 0 0) 0 0) rfl (plC (.slice none 0 0) 0 0) _ (by with_reducible assumption) 3 (plC_size _ _ _) (plC_size _ _ _) (by kernel_rfl) (pl_one _ rfl _ _) ?_))
              exact bodyPost_ret (v := .tuple #[.agg (plC (.slice none 0 0) 0 0), .int .i64 2]) (results_at_tmp (p := 8) (ty := 28) rfl _ _ _ (plC (.slice none 0 0) 0 0) _ (.int .i64 2) rfl rfl R9 _ Try.underlying28 rfl 3 (plC_size _ _ _) (by kernel_rfl)) rfl ⟨⟨_, by rw [hv.out], by rw [hv.out]; exact OwnSl.nil _ _⟩, B9.out⟩
            · have hall := hq.out.symm
              have s11 : IntKind.i64.wrap (1 + bt) = 1 + bt := IntWalk.i64_in _ (by omega)
              have s12 : IntKind.i64.wrap ((n : Int) * (1 + bt)) = (n : Int) * (1 + bt) := IntWalk.i64_in _ (by omega)
              by_cases h6 : cy < (n : Int) * (1 + bt)
              · have hv := Lib.hid (vShg_no (ps := ps) (ds := ds) (cy := cy) (bt := bt) (fun h => by have := h.2.2.2.2.2.1; rw [← HN.out] at this; omega))
                clear hall hq
                have R9 := Z3.setRow (plC (.slice none 0 0) 0 0)
                have B9 := Lib.hid (bset B3.out (g := w.heap.size + 1) (by omega) (plC (.slice none 0 0) 0 0))
                go_wp2_with (((with_reducible refine is_store 28 _ _ rfl ?_); refine wpList_store_at rfl 28 _ _ rfl _ rfl (plC (.slice none 0 0) 0 0) rfl (plC (.slice none 0 0) 0 0) _ (by with_reducible assumption) 3 (plC_size _ _ _) (plC_size _ _ _) (by kernel_rfl) (pl_one _ rfl _ _) ?_))
                exact bodyPost_ret (v := .tuple #[.agg (plC (.slice none 0 0) 0 0), .int .i64 2]) (results_at_tmp (p := 8) (ty := 28) rfl _ _ _ (plC (.slice none 0 0) 0 0) _ (.int .i64 2) rfl rfl R9 _ Try.underlying28 rfl 3 (plC_size _ _ _) (by kernel_rfl)) rfl ⟨⟨_, by rw [hv.out], by rw [hv.out]; exact OwnSl.nil _ _⟩, B9.out⟩
              · have hv := Lib.hid (vShg_yes (ps := ps) (ds := ds) (cy := cy) (bt := bt) ⟨by have := HN.out; omega, by have := HN.out; omega, hall, hb240.1, hb240.2, by rw [← HN.out]; omega, hc240.2⟩)
                have hd := amts_nth hall
                have HZ := Lib.hid (show ps.length ≠ 0 by have := HN.out; omega)
                clear hall hq
                obtain ⟨l, hll⟩ : ∃ l : Nat, (l : Int) = cy - (n : Int) * (1 + bt) := ⟨(cy - (n : Int) * (1 + bt)).toNat, by omega⟩
                have hv2 := Lib.hid (show vShg ps ds cy bt = (shr ds (ones ps) l, bt, 0, 0) from by rw [hv.out, ← HN.out, ← hll, Int.toNat_natCast])
                have s13 : IntKind.i64.wrap (cy - (n : Int) * (1 + bt)) = (l : Int) := by rw [← hll]; exact IntWalk.i64_in _ (by omega)
                have hl240 : l ≤ 240 := by omega
                obtain ⟨i0, hi, hz0, hz1, hz2⟩ := info_float
                obtain ⟨i1, hi1, hy0, hy1, hy2⟩ := info_slot
                clear hv hll
                have N3 : At (w3.alloc (.cells (#[.slice none 0 0, .int .i64 0, .int .i64 0]) 28)) w3.heap.size (plC (.slice none 0 0) 0 0) 28 := At.new w3 (#[.slice none 0 0, .int .i64 0, .int .i64 0]) 28
                have P5 := (N3.setRow (plC (.slice none 0 0) bt 0)).alloc (.cells #[] 23)
                have D5 := ((D3.alloc (.cells (#[.slice none 0 0, .int .i64 0, .int .i64 0]) 28)).setRow_other (k := w3.heap.size) (by omega) (plC (.slice none 0 0) bt 0)).alloc (.cells #[] 23)
                have Z5 := ((Z3.alloc (.cells (#[.slice none 0 0, .int .i64 0, .int .i64 0]) 28)).setRow_other (k := w3.heap.size) (by omega) (plC (.slice none 0 0) bt 0)).alloc (.cells #[] 23)
                have A5 := ((A3.alloc (.cells (#[.slice none 0 0, .int .i64 0, .int .i64 0]) 28)).setRow_other (k := w3.heap.size) (by omega) (plC (.slice none 0 0) bt 0)).alloc (.cells #[] 23)
                have B5 := Lib.hid (bnew (bset (bnew B3.out (.cells (#[.slice none 0 0, .int .i64 0, .int .i64 0]) 28)) (g := w3.heap.size) (by omega) (plC (.slice none 0 0) bt 0)) (.cells #[] 23))
                have F5 := OwnF.empty (w := ((w3.alloc (.cells (#[.slice none 0 0, .int .i64 0, .int .i64 0]) 28)).setRow w3.heap.size (plC (.slice none 0 0) bt 0))) (s := w3.heap.size + 1) (lo := w3.heap.size + 1) (by simp) (Nat.le_refl _)
                have h6' : decide (cy < (n : Int) * (1 + bt)) = false := decide_eq_false h6
                have HS4 := Lib.hid hsz4
                clear hsz4
                go_wp2_with (first
                  | ((with_reducible refine is_bld 28 _ rfl ?_); refine wpList_bld rfl 28 _ rfl #[(1, .int .i64 bt)] (by kernel_rfl) (plC (.slice none 0 0) bt 0) (by kernel_rfl) ?_)
                  | ((with_reducible refine is_store 28 _ _ rfl ?_); refine wpList_store_at rfl 28 _ _ rfl _ rfl (plC (.slice none 0 0) bt 0) rfl (plC (.slice none 0 0) 0 0) _ N3 3 (plC_size _ _ _) (plC_size _ _ _) (by kernel_rfl) (pl_one _ rfl _ _) ?_)
                  | ((with_reducible refine is_bslice 47 0 _ rfl ?_); refine wpList_bslice rfl 47 0 _ rfl #[] (by simp) _ (run_noF _) ?_))
                clear N3 D3 Z3 A3 B3 h6 h6'
                have hsz4 := HS4.out
                obtain ⟨P, hP⟩ : ∃ P, P = w3.heap.size := ⟨_, rfl⟩
                rw [← hP] at hsz4
                rw [← hP] at P5 D5 Z5 A5 B5 F5 ⊢
                clear hP
                have HS4 := Lib.hid hsz4
                have hPw : w.heap.size + 1 < P := by omega
                clear hsz4
                obtain ⟨B, hB⟩ : ∃ B, B = P + 1 := ⟨_, rfl⟩
                rw [← hB] at F5 ⊢
                have hPB : P < B := by omega
                have hBP : B ≤ P + 1 := by omega
                clear hB
                generalize World.alloc (World.setRow _ P _) (.cells #[] 23) = w5 at P5 D5 Z5 A5 B5 F5 ⊢
                have S5 : OwnSl w5 B (.slice none 0 0) (ones (ps.take 0)) := OwnSl.nil _ _
                have F5 : OwnF w5 B _ (wtL ds ps 0) := F5
                go_loopw [14, 15] (fun v i wr => ∃ (k : Nat) (sv : Value), k ≤ n ∧ i = .int .i64 (k : Int) ∧ OwnF wr B v (wtL ds ps k) ∧ OwnSl wr B sv (ones (ps.take k)) ∧ At wr P (plC sv bt 0) 28 ∧ At wr w.heap.size (fl ds) 24 ∧ At wr (w.heap.size + 1) (plC (.slice none 0 0) 0 0) 28 ∧ At wr G (fm f8 ps) T ∧ Hid (Below w.heap.size w wr)) (fun _ i _ => n - (intOf i).toNat)
                case atStart => exact ⟨0, _, by omega, rfl, F5, S5, P5, D5, Z5, A5, B5⟩
                case round =>
                  clear P5 D5 Z5 A5 B5 F5 S5
                  obtain ⟨k, sv, hk, rfl, F1, S1, P1, D1, Z1, A1, B1⟩ := hrel
                  by_cases hlt : k < n
                  · have s2 : IntKind.i64.wrap ((k : Int) + 1) = (k : Int) + 1 := IntWalk.i64_in _ (by omega)
                    have kd : (k : Int) < (n : Int) := by omega
                    have hkl : k < ps.length := by rw [← HN.out]; exact hlt
                    obtain ⟨fa, fc, hvF⟩ := F1.any
                    rw [wtL_len] at hvF
                    subst hvF
                    obtain ⟨va, vc, hvS⟩ := S1.any
                    rw [ones_tlen (Nat.le_of_lt hkl)] at hvS
                    subst hvS
                    have hle : k * 8 + 8 ≤ (fm f8 ps).size := by rw [fm_size f8_size]; omega
                    have hsl := fm_at (d := z8) f8_size hkl (k := k * 8) rfl
                    have hb8 := (fe z8 ps k).2
                    have hT := Lib.hid (ones_take hkl)
                    have hWn := Lib.hid (wtL_next ds ps k)
                    have hrow := Lib.hid (fun q (hq : q < 8) => show (fm f8 ps)[k * 8 + q]? = some (.bool (bn (fe z8 ps k).1 q)) from by rw [fm_get f8_size hkl hq]; exact f8_get _ hq)
                    change (fm f8 ps).extract (k * 8) (k * 8 + 8) = bl (fe z8 ps k).1 at hsl
                    generalize (fe z8 ps k).1 = row at hb8 hsl hT hWn hrow
                    have hbs := built_slot row hb8 1
                    have HL := Lib.hid (fun (w' : World) (h : At w' G (fm f8 ps) T) => show (Instr.loadAt 43 (.pointer (some ⟨G, k * 8, none⟩))).run Try.prog w' = .ok (.agg (bl row)) w' from by
                      have := run_loadAt_part (P := Try.prog) w' G (k * 8) 8 43 (fm f8 ps) T (0, 0) _ h Try.underlying43 rfl (by kernel_rfl) hle
                      rwa [hsl] at this)
                    have HI := Lib.hid (fun (w' : World) => show (Instr.indexAt 31 (.slice (some ⟨G, 0, none⟩) n n) (.int .i64 (k : Int))).run Try.prog w' = .ok (.pointer (some ⟨G, k * 8, none⟩)) w' from by
                      have := run_indexS (P := Try.prog) w' 31 43 G 0 n n k 8 Try.underlying31 (by kernel_rfl) hlt
                      rwa [Nat.zero_add] at this)
                    clear hsl hle
                    have hBw : P < wr.heap.size := P1.lt
                    have hGB : G < B := by omega
                    go_wp2_with fail
                    go_loopw [16, 17] (fun x i wq => ∃ (q x0 : Nat), q ≤ 8 ∧ i = .int .i64 (q : Int) ∧ x = .float .f32 x0 ∧ Hid (x0 = wtK ds row q) ∧ wq = wr) (fun _ i _ => 8 - (intOf i).toNat)
                    case atStart => exact ⟨0, 0, by omega, rfl, rfl, Lib.hid rfl, rfl⟩
                    case round =>
                      obtain ⟨q, x0, hq, rfl, rfl, hx0, rfl⟩ := hrel
                      have hx1 : x0 < 2139095040 := by rw [hx0.out]; exact wtK_lt hd row q
                      by_cases hlq : q < 8
                      · have s3 : IntKind.i64.wrap ((q : Int) + 1) = (q : Int) + 1 := IntWalk.i64_in _ (by omega)
                        have qd : (q : Int) < 8 := by omega
                        have c0 := A1.cell (hrow.out q hlq)
                        have c1 : wr.cell? ⟨w.heap.size, q, none⟩ = some (.float .f32 (nth ds q)) := D1.cell (fl_get (by omega))
                        have hgt := gt_amt (x := nth ds q) (y := x0) (Nat.le_of_lt (hd q)) (Nat.le_of_lt hx1)
                        cases hbq : bn row q
                        · rw [hbq] at c0
                          have hx2 := Lib.hid (show x0 = wtK ds row (q + 1) from by rw [wtK_no hbq]; exact hx0.out)
                          clear hbq hgt
                          go_wp2_with fail
                          exact ⟨⟨q + 1, x0, by omega, by go_num, rfl, hx2, by trivial⟩, by simp [intOf]; omega⟩
                        · rw [hbq] at c0
                          by_cases hc : x0 < nth ds q
                          · have hx2 := Lib.hid (show nth ds q = wtK ds row (q + 1) from by rw [wtK_yes hbq, ← hx0.out]; omega)
                            rw [decide_eq_true hc] at hgt
                            clear hbq hc
                            go_wp2_with fail
                            exact ⟨⟨q + 1, _, by omega, by go_num, rfl, hx2, by trivial⟩, by simp [intOf]; omega⟩
                          · have hx2 := Lib.hid (show x0 = wtK ds row (q + 1) from by rw [wtK_yes hbq, ← hx0.out]; omega)
                            rw [decide_eq_false hc] at hgt
                            clear hbq hc
                            go_wp2_with fail
                            exact ⟨⟨q + 1, x0, by omega, by go_num, rfl, hx2, by trivial⟩, by simp [intOf]; omega⟩
                      · obtain rfl : q = 8 := by omega
                        rw [← hx0.out] at hWn
                        clear hx0 hx1
                        go_wp2_with (first | ((with_reducible refine is_bslice 47 1 _ rfl ?_); refine wpList_bslice rfl 47 1 _ rfl #[(0, .float .f32 (x0))] (by kernel_rfl) _ (run_oneF _ (x0)) ?_) | (at_builtin; go_loud (refine wpList_append_own _ rfl _ _ 47 rfl B 23 i0 (.float .f32 0) 1 4 Try.underlying47 hi hz0 hz1 hz2 rfl (by decide) _ (wtL ds ps k).length _ rfl (F1.step (b0 _ _)) ⟨wr.heap.size, 0, none⟩ 1 1 [.float .f32 (x0)] rfl rfl (one_cellsF wr (x0)) (fun u hu => by simp at hu; subst hu; rfl) (by rw [wtL_len]; unfold maxLen; omega) (by rw [wtL_len]; omega) (by rw [World.size_alloc]; omega) ?_)))
                        intro v' w5 hown hgrow _
                        have F5 : OwnF w5 B v' (wtL ds ps (k + 1)) := by
                          rw [← hWn.out]
                          exact OwnF.grown hown
                        have S5 := (S1.step (b0 _ (.cells #[.float .f32 x0] 23))).keepG hgrow (fun q hq e => own_apart S1 F1 q hq e)
                        have P5 := (P1.alloc (.cells #[.float .f32 x0] 23)).keepF hgrow (fun q hq e => by have := (F1.block q hq).1; omega)
                        have D5 := (D1.alloc (.cells #[.float .f32 x0] 23)).keepF hgrow (fun q hq e => by have := (F1.block q hq).1; omega)
                        have Z5 := (Z1.alloc (.cells #[.float .f32 x0] 23)).keepF hgrow (fun q hq e => by have := (F1.block q hq).1; omega)
                        have A5 := (A1.alloc (.cells #[.float .f32 x0] 23)).keepF hgrow (fun q hq e => by have := (F1.block q hq).1; omega)
                        have B5 := Lib.hid ((bnew B1.out (.cells #[.float .f32 x0] 23)).trans (Below.grownBy hgrow (by rw [World.size_alloc]; omega) (fun q hq => by have := (F1.block q hq).1; omega)))
                        clear hown hgrow F1 S1 P1 D1 Z1 A1 B1
                        go_wp2_with fail
                        refine wp_region_held (S := fun w' => At w' G (fm f8 ps) T) (by kernel_rfl) ?_
                        show wpAnyH _ _ _ _ _ 11 (Array.replicate 11 false) _ _
                        obtain ⟨w6, hw6⟩ : ∃ w6 : World, w6 = { w5 with drawn := w5.drawn + 1 } := ⟨_, rfl⟩
                        have hb6 : Below w5.heap.size w5 w6 := by rw [hw6]; exact bdrew (Below.refl _ w5) 1
                        have SS6 := A5.step hb6
                        have P6 := P5.step hb6
                        have D6 := D5.step hb6
                        have Z6 := Z5.step hb6
                        have F6 := F5.step hb6
                        have S6 := S5.step hb6
                        have B6 := Lib.hid (bthen B5.out hb6)
                        rw [← hw6]
                        clear A5 P5 D5 Z5 F5 S5 B5 hb6 hw6
                        have hB6 : B ≤ w6.heap.size := by have := P6.lt; omega
                        refine wpAnyH_take (i := 0) (v := .pointer (some ⟨P, 0, none⟩)) rfl (by kernel_rfl) (by kernel_rfl) (by kernel_rfl) (fun _ _ _ h => h) (yif rfl fun w2 hw2 => by kernel_rfl) (by assumption) ?_
                        refine wpAnyH_take (i := 2) (v := .slice (some ⟨G, 0, none⟩) n n) rfl (by kernel_rfl) (by kernel_rfl) (by kernel_rfl) (fun _ _ _ h => h) (yif rfl fun w2 hw2 => by kernel_rfl) (by assumption) ?_
                        refine wpAnyH_take (i := 3) (v := .int .i64 (k : Int)) rfl (by kernel_rfl) (by kernel_rfl) (by kernel_rfl) (fun _ _ _ h => h) (yif rfl fun w2 hw2 => by kernel_rfl) (by assumption) ?_
                        refine wpAnyH_take (i := 4) (v := .pointer (some ⟨G, k * 8, none⟩)) rfl (by kernel_rfl) (by kernel_rfl) (by kernel_rfl) (fun _ _ _ h => h) (yif rfl fun w' hw' => x_index 31 (.tmp 90) (.tmp 91) rfl _ _ (by kernel_rfl) (by kernel_rfl) (HI.out w')) (by assumption) ?_
                        refine wpAnyH_take (i := 5) (v := .agg (bl row)) rfl (by kernel_rfl) (by kernel_rfl) (by kernel_rfl) (fun _ _ _ h => h) (yif rfl fun w' hw' => x_load 43 (.tmp 92) rfl ⟨G, k * 8, none⟩ (by kernel_rfl) (HL.out w' hw')) (by assumption) ?_
                        refine wpAnyH_take (i := 6) (v := .agg (sl1 row 1)) rfl (by kernel_rfl) (by kernel_rfl) (by kernel_rfl) (fun _ _ _ h => h) (yif rfl fun w' hw' => x_bld 49 _ rfl #[(0, .agg (bl row)), (1, .int .i64 1)] (by kernel_rfl) (sl1 row 1) hbs) (by assumption) ?_
                        refine wpAnyH_all (rs := [1, 7]) (by kernel_rfl) (by simp) fun i9 hi9 => ?_
                        rcases two_of8 hi9 with rfl | rfl
                        · refine op_value (v := .slice va k vc) (w' := w6) rfl rfl (x_cell 26 (.tmp 88) rfl ⟨P, 0, none⟩ (by kernel_rfl) _ Try.underlying26 rfl (P6.cell (plC_0 _ _ _))) ⟨SS6, ?_⟩
                          refine wpAnyH_all (rs := [7]) (by kernel_rfl) (by simp) fun _ hi8 => ?_
                          obtain rfl := one_of hi8
                          refine op_value (v := .slice (some ⟨w6.heap.size, 0, none⟩) 1 1) (w' := w6.alloc (.cells (sl1 row 1) 49)) rfl rfl (x_bslice 26 1 _ rfl #[(0, .agg (sl1 row 1))] (by kernel_rfl) (run_oneSl _ row hb8 1)) ⟨SS6.alloc _, ?_⟩
                          have hcell := one_cellsSl w6 (row, 1)
                          obtain ⟨gn, hgn⟩ : ∃ gn, gn = w6.heap.size := ⟨_, rfl⟩
                          rw [← hgn]
                          rw [← hgn] at hcell
                          obtain ⟨w7, hw7⟩ : ∃ w7, w7 = w6.alloc (.cells (sl1 row 1) 49) := ⟨_, rfl⟩
                          change ∀ j u, _ → (w6.alloc (.cells (sl1 row 1) 49)).cell? _ = _ at hcell
                          have SS7 := SS6.alloc (.cells (sl1 row 1) 49)
                          have P7 := P6.alloc (.cells (sl1 row 1) 49)
                          have D7 := D6.alloc (.cells (sl1 row 1) 49)
                          have Z7 := Z6.alloc (.cells (sl1 row 1) 49)
                          have F7 := F6.step (b0 w6 (.cells (sl1 row 1) 49))
                          have S7 := S6.step (b0 w6 (.cells (sl1 row 1) 49))
                          have B7 := Lib.hid (bnew B6.out (.cells (sl1 row 1) 49))
                          have hs7 : (w6.alloc (.cells (sl1 row 1) 49)).heap.size = w6.heap.size + 1 := by simp
                          rw [← hw7] at hcell SS7 P7 D7 Z7 F7 S7 B7 hs7 ⊢
                          have S7' := Lib.hid S7
                          clear SS6 P6 D6 Z6 F6 S6 B6 hw7 hgn
                          refine wpAnyH_all (rs := [8]) (by kernel_rfl) (by simp) fun _ hi8 => ?_
                          obtain rfl := one_of hi8
                          refine op_wp rfl rfl fun Q' => wp_append_own _ (.tmp 89) (.tmp 95) 26 rfl B 49 i1 (.agg #[.bool false, .bool false, .bool false, .bool false, .bool false, .bool false, .bool false, .bool false, .int .i64 0]) 9 16 Try.underlying26 hi1 hy0 hy1 hy2 rfl (by decide) (.slice va k vc) (ones (ps.take k)).length _ (by kernel_rfl) S7 ⟨gn, 0, none⟩ 1 1 (sll (row, 1)) (by kernel_rfl) (sll_len (s := (row, 1)) hb8) hcell (sll_one _) (by rw [ones_tlen (Nat.le_of_lt hkl)]; unfold maxLen; omega) (by rw [ones_tlen (Nat.le_of_lt hkl)]; omega) (by omega) ?_
                          intro v' w9 hown hgrow _
                          have O9 : OwnSl w9 B v' (ones (ps.take (k + 1))) := by
                            rw [← hT.out]
                            exact OwnSl.grown hown
                          have S7' : OwnSl w7 B (.slice va k vc) (ones (ps.take k)) := S7'.out
                          have F9 := F7.keepG hgrow (fun q hq e => own_apart S7' F7 q e hq)
                          have P9 := P7.keepF hgrow (fun q hq e => by have := (S7'.block q hq).1; omega)
                          have SS9 := SS7.keepF hgrow (fun q hq e => by have := (S7'.block q hq).1; omega)
                          have D9 := D7.keepF hgrow (fun q hq e => by have := (S7'.block q hq).1; omega)
                          have Z9 := Z7.keepF hgrow (fun q hq e => by have := (S7'.block q hq).1; omega)
                          have B9 := Lib.hid (B7.out.trans (Below.grownBy hgrow (by omega) (fun q hq => by have := (S7'.block q hq).1; omega)))
                          clear F7 S7 S7' P7 D7 Z7 B7 SS7 hown hgrow hcell
                          refine ⟨SS9, ?_⟩
                          obtain ⟨xa, xc, rfl⟩ := O9.any
                          refine wpAnyH_take (i := 9) (v := .pointer (some ⟨P, 0, none⟩)) rfl (by kernel_rfl) (by kernel_rfl) (by kernel_rfl) (fun _ _ _ h => h) (yif rfl fun w2 hw2 => by kernel_rfl) (by assumption) ?_
                          have hst : (Instr.storeAt 26 (.pointer (some ⟨P, 0, none⟩)) (.slice xa (ones (ps.take (k + 1))).length xc)).run Try.prog w9 = .ok () (w9.setRow P (plC (.slice xa (ones (ps.take (k + 1))).length xc) bt 0)) := by
                            have := run_storeAt_one (P := Try.prog) w9 P 0 28 26 (plC (.slice va k vc) bt 0) (.slice xa (ones (ps.take (k + 1))).length xc) P9 (by kernel_rfl) (by rw [plC_size]; omega) rfl
                            rwa [plC_s0] at this
                          have SS10 := SS9.setRow_other (k := P) (by omega) (plC (.slice xa (ones (ps.take (k + 1))).length xc) bt 0)
                          refine wpAnyH_all (rs := [10]) (by kernel_rfl) (by simp) fun _ hi8 => ?_
                          obtain rfl := one_of hi8
                          refine op_skip (w' := w9.setRow P (plC (.slice xa (ones (ps.take (k + 1))).length xc) bt 0)) rfl rfl (hx_store 26 (.tmp 97) (.tmp 96) rfl (.pointer (some ⟨P, 0, none⟩)) (.slice xa (ones (ps.take (k + 1))).length xc) (by kernel_rfl) (by kernel_rfl) hst) ⟨SS10, ?_⟩
                          refine wpAnyH_done (by kernel_rfl) ?_ _
                          have P10 := P9.setRow (plC (.slice xa (ones (ps.take (k + 1))).length xc) bt 0)
                          have D10 := D9.setRow_other (k := P) (by omega) (plC (.slice xa (ones (ps.take (k + 1))).length xc) bt 0)
                          have Z10 := Z9.setRow_other (k := P) (by omega) (plC (.slice xa (ones (ps.take (k + 1))).length xc) bt 0)
                          have F10 := F9.setRow_other (g := P) (fun q hq => by have := (F9.block q hq).1; omega) (plC (.slice xa (ones (ps.take (k + 1))).length xc) bt 0)
                          have O10 := O9.setRow_other (g := P) (fun q hq => by have := (O9.block q hq).1; omega) (plC (.slice xa (ones (ps.take (k + 1))).length xc) bt 0)
                          have B10 := Lib.hid (bset B9.out (g := P) (by omega) (plC (.slice xa (ones (ps.take (k + 1))).length xc) bt 0))
                          clear SS9 P9 D9 Z9 F9 O9 B9 hst
                          generalize World.setRow w9 P _ = w10 at SS10 P10 D10 Z10 F10 O10 B10 ⊢
                          go_simp
                          go_wp2_with fail
                          exact ⟨⟨k + 1, _, by omega, by go_num, F10, O10, P10, D10, Z10, SS10, B10⟩, by simp [intOf]; omega⟩
                        · refine op_value (v := .slice (some ⟨w6.heap.size, 0, none⟩) 1 1) (w' := w6.alloc (.cells (sl1 row 1) 49)) rfl rfl (x_bslice 26 1 _ rfl #[(0, .agg (sl1 row 1))] (by kernel_rfl) (run_oneSl _ row hb8 1)) ⟨SS6.alloc _, ?_⟩
                          have hcell := one_cellsSl w6 (row, 1)
                          obtain ⟨gn, hgn⟩ : ∃ gn, gn = w6.heap.size := ⟨_, rfl⟩
                          rw [← hgn]
                          rw [← hgn] at hcell
                          obtain ⟨w7, hw7⟩ : ∃ w7, w7 = w6.alloc (.cells (sl1 row 1) 49) := ⟨_, rfl⟩
                          change ∀ j u, _ → (w6.alloc (.cells (sl1 row 1) 49)).cell? _ = _ at hcell
                          have SS7 := SS6.alloc (.cells (sl1 row 1) 49)
                          have P7 := P6.alloc (.cells (sl1 row 1) 49)
                          have D7 := D6.alloc (.cells (sl1 row 1) 49)
                          have Z7 := Z6.alloc (.cells (sl1 row 1) 49)
                          have F7 := F6.step (b0 w6 (.cells (sl1 row 1) 49))
                          have S7 := S6.step (b0 w6 (.cells (sl1 row 1) 49))
                          have B7 := Lib.hid (bnew B6.out (.cells (sl1 row 1) 49))
                          have hs7 : (w6.alloc (.cells (sl1 row 1) 49)).heap.size = w6.heap.size + 1 := by simp
                          rw [← hw7] at hcell SS7 P7 D7 Z7 F7 S7 B7 hs7 ⊢
                          have S7' := Lib.hid S7
                          clear SS6 P6 D6 Z6 F6 S6 B6 hw7 hgn
                          refine wpAnyH_all (rs := [1]) (by kernel_rfl) (by simp) fun _ hi8 => ?_
                          obtain rfl := one_of hi8
                          refine op_value (v := .slice va k vc) (w' := w7) rfl rfl (x_cell 26 (.tmp 88) rfl ⟨P, 0, none⟩ (by kernel_rfl) _ Try.underlying26 rfl (P7.cell (plC_0 _ _ _))) ⟨SS7, ?_⟩
                          refine wpAnyH_all (rs := [8]) (by kernel_rfl) (by simp) fun _ hi8 => ?_
                          obtain rfl := one_of hi8
                          refine op_wp rfl rfl fun Q' => wp_append_own _ (.tmp 89) (.tmp 95) 26 rfl B 49 i1 (.agg #[.bool false, .bool false, .bool false, .bool false, .bool false, .bool false, .bool false, .bool false, .int .i64 0]) 9 16 Try.underlying26 hi1 hy0 hy1 hy2 rfl (by decide) (.slice va k vc) (ones (ps.take k)).length _ (by kernel_rfl) S7 ⟨gn, 0, none⟩ 1 1 (sll (row, 1)) (by kernel_rfl) (sll_len (s := (row, 1)) hb8) hcell (sll_one _) (by rw [ones_tlen (Nat.le_of_lt hkl)]; unfold maxLen; omega) (by rw [ones_tlen (Nat.le_of_lt hkl)]; omega) (by omega) ?_
                          intro v' w9 hown hgrow _
                          have O9 : OwnSl w9 B v' (ones (ps.take (k + 1))) := by
                            rw [← hT.out]
                            exact OwnSl.grown hown
                          have S7' : OwnSl w7 B (.slice va k vc) (ones (ps.take k)) := S7'.out
                          have F9 := F7.keepG hgrow (fun q hq e => own_apart S7' F7 q e hq)
                          have P9 := P7.keepF hgrow (fun q hq e => by have := (S7'.block q hq).1; omega)
                          have SS9 := SS7.keepF hgrow (fun q hq e => by have := (S7'.block q hq).1; omega)
                          have D9 := D7.keepF hgrow (fun q hq e => by have := (S7'.block q hq).1; omega)
                          have Z9 := Z7.keepF hgrow (fun q hq e => by have := (S7'.block q hq).1; omega)
                          have B9 := Lib.hid (B7.out.trans (Below.grownBy hgrow (by omega) (fun q hq => by have := (S7'.block q hq).1; omega)))
                          clear F7 S7 S7' P7 D7 Z7 B7 SS7 hown hgrow hcell
                          refine ⟨SS9, ?_⟩
                          obtain ⟨xa, xc, rfl⟩ := O9.any
                          refine wpAnyH_take (i := 9) (v := .pointer (some ⟨P, 0, none⟩)) rfl (by kernel_rfl) (by kernel_rfl) (by kernel_rfl) (fun _ _ _ h => h) (yif rfl fun w2 hw2 => by kernel_rfl) (by assumption) ?_
                          have hst : (Instr.storeAt 26 (.pointer (some ⟨P, 0, none⟩)) (.slice xa (ones (ps.take (k + 1))).length xc)).run Try.prog w9 = .ok () (w9.setRow P (plC (.slice xa (ones (ps.take (k + 1))).length xc) bt 0)) := by
                            have := run_storeAt_one (P := Try.prog) w9 P 0 28 26 (plC (.slice va k vc) bt 0) (.slice xa (ones (ps.take (k + 1))).length xc) P9 (by kernel_rfl) (by rw [plC_size]; omega) rfl
                            rwa [plC_s0] at this
                          have SS10 := SS9.setRow_other (k := P) (by omega) (plC (.slice xa (ones (ps.take (k + 1))).length xc) bt 0)
                          refine wpAnyH_all (rs := [10]) (by kernel_rfl) (by simp) fun _ hi8 => ?_
                          obtain rfl := one_of hi8
                          refine op_skip (w' := w9.setRow P (plC (.slice xa (ones (ps.take (k + 1))).length xc) bt 0)) rfl rfl (hx_store 26 (.tmp 97) (.tmp 96) rfl (.pointer (some ⟨P, 0, none⟩)) (.slice xa (ones (ps.take (k + 1))).length xc) (by kernel_rfl) (by kernel_rfl) hst) ⟨SS10, ?_⟩
                          refine wpAnyH_done (by kernel_rfl) ?_ _
                          have P10 := P9.setRow (plC (.slice xa (ones (ps.take (k + 1))).length xc) bt 0)
                          have D10 := D9.setRow_other (k := P) (by omega) (plC (.slice xa (ones (ps.take (k + 1))).length xc) bt 0)
                          have Z10 := Z9.setRow_other (k := P) (by omega) (plC (.slice xa (ones (ps.take (k + 1))).length xc) bt 0)
                          have F10 := F9.setRow_other (g := P) (fun q hq => by have := (F9.block q hq).1; omega) (plC (.slice xa (ones (ps.take (k + 1))).length xc) bt 0)
                          have O10 := O9.setRow_other (g := P) (fun q hq => by have := (O9.block q hq).1; omega) (plC (.slice xa (ones (ps.take (k + 1))).length xc) bt 0)
                          have B10 := Lib.hid (bset B9.out (g := P) (by omega) (plC (.slice xa (ones (ps.take (k + 1))).length xc) bt 0))
                          clear SS9 P9 D9 Z9 F9 O9 B9 hst
                          generalize World.setRow w9 P _ = w10 at SS10 P10 D10 Z10 F10 O10 B10 ⊢
                          go_simp
                          go_wp2_with fail
                          exact ⟨⟨k + 1, _, by omega, by go_num, F10, O10, P10, D10, Z10, SS10, B10⟩, by simp [intOf]; omega⟩
                  · obtain rfl : n = k := by omega
                    have hnl : ps.length = n := HN.out.symm
                    have hn1 : 1 ≤ n := by omega
                    rw [← hnl, List.take_length] at S1
                    obtain ⟨g, cap, zs, rfl, hBg, Y1, hy3, hy4, hy5⟩ := S1.atY (by rw [ones_len]; omega) (ones_w ps)
                    obtain ⟨gw, capw, cw, rfl, hBw, W1, -, -, hcw⟩ := F1.at (by rw [wtL_len]; omega)
                    rw [wtL_len] at hcw ⊢
                    rw [ones_len, hnl] at P1 hy3
                    have hgw : g ≠ gw := fun e => by
                      subst e
                      have a1 : wr.heap[g]? = some (.cells (slY (ones ps) zs) 49) := Y1
                      have a2 : wr.heap[g]? = some (.cells cw 23) := W1
                      rw [a1] at a2
                      simp at a2
                    have HYZ := Lib.hid (fun (X : Slots) (hX : SlW X) (hl : X.length = n) => show (slY X zs).size = cap * 9 from by
                      have h1 := slC_size (ones_w ps)
                      have h2 := slC_size hX
                      rw [ones_len, hnl] at h1
                      unfold slY at hy5 ⊢
                      rw [Array.size_append] at hy5 ⊢
                      rw [h2, hl]
                      omega)
                    have HCW := Lib.hid hcw
                    have hgP : g ≠ P := by omega
                    have hgwP : gw ≠ P := by omega
                    have hyn := hy3
                    clear S1 F1 hy5 hcw A1 D1
                    go_wp2_with fail
                    go_loopw [18] (fun i wr => ∃ j : Nat, j ≤ l ∧ i = .int .i64 ((l : Int) - (j : Int)) ∧ At wr g (slY (shr ds (ones ps) j) zs) 49 ∧ At wr gw cw 23 ∧ At wr P (plC (.slice (some ⟨g, 0, none⟩) n cap) bt 0) 28 ∧ At wr (w.heap.size + 1) (plC (.slice none 0 0) 0 0) 28 ∧ Hid (Below w.heap.size w wr)) (fun i _ => (intOf i).toNat)
                    case atStart => exact ⟨0, by omega, by simp, Y1, W1, P1, Z1, B1⟩
                    case round =>
                      clear Y1 W1 P1 Z1 B1
                      obtain ⟨j, hj, rfl, Y1, W1, P1, Z1, B1⟩ := hrel
                      by_cases hlt : j < l
                      · have kd : 0 < (l : Int) - (j : Int) := by omega
                        have s4 : IntKind.i64.wrap ((l : Int) - (j : Int) - 1) = (l : Int) - ((j + 1 : Nat) : Int) := by rw [IntWalk.i64_in _ (by omega)]; omega
                        have hX := shr_facts ds (ps := ps) HZ.out j (by omega)
                        have hXl : (shr ds (ones ps) j).length = n := by rw [shr_len, ones_len]; exact hnl
                        have hb := bst_lt (ds := ds) (xs := shr ds (ones ps) j) n (by omega)
                        have hE := Lib.hid (show inc (shr ds (ones ps) j) (bst ds (shr ds (ones ps) j) n) = shr ds (ones ps) (j + 1) from by
                          show _ = inc _ (bst ds _ (ones ps).length)
                          rw [ones_len, hnl])
                        have HT := Lib.hid (fun (i : Nat) (hi : i < n) => show ∃ m : Nat, st (shr ds (ones ps) j) i = (m : Int) ∧ (1 ≤ m ∧ m ≤ 1048576) ∧ nth (wtL ds ps n) i = wtK ds (sb (shr ds (ones ps) j) i) 8 from by
                          have h := hX.2 i (by omega)
                          refine ⟨(st (shr ds (ones ps) j) i).toNat, by omega, by omega, ?_⟩
                          rw [h.1]
                          exact wtL_nth ds ps hi)
                        have hW := hX.1
                        clear hX
                        generalize shr ds (ones ps) j = X at Y1 hXl hb hE HT hW
                        have HC := Lib.hid (fun (i : Nat) (hi : i < n) => show (slY X zs)[i * 9 + 8]? = some (.int .i64 (st X i)) from by rw [slY_get hW (by omega)]; exact slC_ticks hW (by omega) rfl)
                        have b1 := bst_one ds X
                        go_wp2_with fail
                        go_loopw [19, 20] (fun b i wq => ∃ (k b0 : Nat), 1 ≤ k ∧ k ≤ n ∧ i = .int .i64 (k : Int) ∧ b = .int .i64 (b0 : Int) ∧ Hid (b0 = bst ds X k) ∧ b0 < n ∧ Hid (Below wr.heap.size wr wq)) (fun _ i _ => n - (intOf i).toNat)
                        case atStart => exact ⟨1, 0, by omega, by omega, rfl, rfl, Lib.hid b1.symm, by omega, Lib.hid (Below.refl _ _)⟩
                        case round =>
                          clear b1
                          obtain ⟨k, b0, hk1, hk, rfl, rfl, hb0, hbn, C1⟩ := hrel
                          have Y2 := Y1.step C1.out
                          have W2 := W1.step C1.out
                          have P2 := P1.step C1.out
                          by_cases hlk : k < n
                          · have s2 : IntKind.i64.wrap ((k : Int) + 1) = (k : Int) + 1 := IntWalk.i64_in _ (by omega)
                            have kn : (k : Int) < (n : Int) := by omega
                            have bn0 : (b0 : Int) < (n : Int) := by omega
                            obtain ⟨ma, ha, hma, hwa⟩ := HT.out k hlk
                            obtain ⟨mb, hb', hmb, hwb⟩ := HT.out b0 hbn
                            have ck := HCW.out k hlk
                            have cb := HCW.out b0 hbn
                            have yk := HC.out k hlk
                            have yb := HC.out b0 hbn
                            have q1 := qB_fits hd (sb X k) hma
                            have q2 := qB_fits hd (sb X b0) hmb
                            rw [← ha] at q1
                            rw [← hb'] at q2
                            change _ = some (qt ds X k) ∧ qt ds X k ≤ _ at q1
                            change _ = some (qt ds X b0) ∧ qt ds X b0 ≤ _ at q2
                            rw [← hwa] at q1
                            rw [← hwb] at q2
                            rw [ha] at yk
                            rw [hb'] at yb
                            have hgt := gt_amt (x := qt ds X k) (y := qt ds X b0) q1.2 q2.2
                            have f1 := floatOfInt_nat ma
                            have f2 := floatOfInt_nat mb
                            have r1 := fun t w => run_float_arith (P := Try.prog) w .quo t .f32 _ _ _ q1.1
                            have r2 := fun t w => run_float_arith (P := Try.prog) w .quo t .f32 _ _ _ q2.1
                            have HB1 := Lib.hid (fun (h : qt ds X b0 < qt ds X k) => show k = bst ds X (k + 1) from by rw [hb0.out] at h; rw [bst_yes h])
                            have HB2 := Lib.hid (fun (h : ¬ qt ds X b0 < qt ds X k) => show b0 = bst ds X (k + 1) from by rw [hb0.out] at h; rw [bst_no h]; exact hb0.out)
                            clear q1 q2 ha hb' hwa hwb hma hmb
                            generalize qt ds X k = y1 at *
                            generalize qt ds X b0 = y2 at *
                            generalize nth (wtL ds ps n) k = u1 at *
                            generalize nth (wtL ds ps n) b0 = u2 at *
                            generalize fN ma = v1 at *
                            generalize fN mb = v2 at *
                            have hC := Cb.const wr
                            go_wp2_with fail
                            refine wp_region_cb (by kernel_rfl) (by kernel_rfl) ?_
                            repeat (first
                              | go_big_quiet_skip
                              | (go_big_quiet_want; first
                                | (refine q_oneG 26 _ rfl _ Try.underlying26 rfl 0 rfl P2 _ (plC_0 _ _ _) ?_; go_simp; go_big_quiet_on)
                                | (refine q_oneG 23 _ rfl _ Try.underlying23 rfl k rfl W2 _ ck ?_; go_simp; go_big_quiet_on)
                                | (refine q_oneG 23 _ rfl _ Try.underlying23 rfl b0 rfl W2 _ cb ?_; go_simp; go_big_quiet_on)
                                | (refine q_oneG 2 _ rfl _ Try.underlying2 rfl (k * 9 + 8) rfl Y2 _ yk ?_; go_simp; go_big_quiet_on)
                                | (refine q_oneG 2 _ rfl _ Try.underlying2 rfl (b0 * 9 + 8) rfl Y2 _ yb ?_; go_simp; go_big_quiet_on)
                                | (go_big_quiet_op; go_big_quiet_on)))
                            refine wpQuiet_nil ?_
                            intro w5 hw5
                            have C5 := Lib.hid (bthen C1.out hw5)
                            clear Y2 W2 P2 hC hw5 C1 r1 r2 f1 f2 yk yb ck cb
                            by_cases hc : y2 < y1
                            · have hx5 := Lib.hid (HB1.out hc)
                              clear hgt HB1 HB2
                              go_wp2_with fail
                              exact ⟨⟨k + 1, k, by omega, by omega, by go_num, rfl, hx5, by omega, C5⟩, by simp [intOf]; omega⟩
                            · have hx5 := Lib.hid (HB2.out hc)
                              clear hgt HB1 HB2
                              go_wp2_with fail
                              exact ⟨⟨k + 1, b0, by omega, by omega, by go_num, rfl, hx5, by omega, C5⟩, by simp [intOf]; omega⟩
                          · obtain rfl : n = k := by omega
                            have Z2 := Z1.step C1.out
                            have B2 := Lib.hid (bthen B1.out C1.out)
                            clear Y1 W1 P1 Z1 B1 C1
                            obtain rfl := hb0.out
                            have hbX : bst ds X n < X.length := by omega
                            obtain ⟨ma, ha, hma, -⟩ := HT.out (bst ds X n) hbn
                            have c0 : wr.cell? ⟨P, 0, none⟩ = some (.slice (some ⟨g, 0, none⟩) n cap) := P2.cell (plC_0 _ _ _)
                            have c1 : wr.cell? ⟨g, bst ds X n * 9 + 8, none⟩ = some (.int .i64 (st X (bst ds X n))) := Y2.cell (HC.out _ hbn)
                            have s3 : IntKind.i64.wrap (st X (bst ds X n) + 1) = st X (bst ds X n) + 1 := IntWalk.i64_in _ (by omega)
                            have e4' := slY_inc (zs := zs) hW hbX (by unfold I64; omega)
                            rw [hE.out] at e4'
                            have e4 := Lib.hid e4'
                            have hsz := HYZ.out X hW hXl
                            have hbI : ((bst ds X n : Nat) : Int) < (n : Int) := by omega
                            have Y5 := Y2.setRow (slY (shr ds (ones ps) (j + 1)) zs)
                            have W5 := W2.setRow_other (k := g) (by omega) (slY (shr ds (ones ps) (j + 1)) zs)
                            have P5 := P2.setRow_other (k := g) (by omega) (slY (shr ds (ones ps) (j + 1)) zs)
                            have Z5 := Z2.setRow_other (k := g) (by omega) (slY (shr ds (ones ps) (j + 1)) zs)
                            have B5 := Lib.hid (bset B2.out (g := g) (by omega) (slY (shr ds (ones ps) (j + 1)) zs))
                            clear hE e4' ha hma HT HC
                            generalize hY : slY (shr ds (ones ps) (j + 1)) zs = Y at *
                            have HY := Lib.hid hY
                            clear hY hb0
                            generalize bst ds X n = q at *
                            go_wp2_with (((with_reducible refine is_store 2 _ _ rfl ?_); refine wpList_store_cell rfl 2 _ _ rfl _ (q * 9 + 8) rfl (.int .i64 (st X q + 1)) rfl (slY X zs) _ Y2 (by rw [hsz]; omega) (by kernel_rfl) rfl Y e4.out ?_))
                            exact ⟨⟨j + 1, by omega, by go_num, by rw [HY.out]; exact Y5, W5, P5, Z5, B5⟩, by simp [intOf]; omega⟩
                      · obtain rfl : l = j := by omega
                        have kd : ¬ 0 < (l : Int) - (l : Int) := by omega
                        have hX := (shr_facts ds (ps := ps) HZ.out l (by omega)).1
                        have hXl : (shr ds (ones ps) l).length = n := by rw [shr_len, ones_len]; exact hnl
                        have O1 := OwnSl.of_atY (lo := w.heap.size) Y1 hX (by omega) (by rw [hXl]; exact hyn) hy4 (HYZ.out _ hX hXl)
                        rw [hXl] at O1
                        have R9 := Z1.setRow (plC (.slice (some ⟨g, 0, none⟩) n cap) bt 0)
                        have O9 := O1.setRow_other (g := (w.heap.size + 1)) (fun q hq => by have : g = q := (by simpa [Value.ownBlock] using hq); omega) (plC (.slice (some ⟨g, 0, none⟩) n cap) bt 0)
                        have B9 := Lib.hid (bset B1.out (g := (w.heap.size + 1)) (by omega) (plC (.slice (some ⟨g, 0, none⟩) n cap) bt 0))
                        clear O1
                        go_wp2_with (first | ((with_reducible refine is_load 28 _ rfl ?_); refine wpList_load_at rfl 28 _ rfl _ rfl (plC (.slice (some ⟨g, 0, none⟩) n cap) bt 0) _ P1 3 (plC_size _ _ _) _ Try.underlying28 rfl (by kernel_rfl) ?_) | ((with_reducible refine is_store 28 _ _ rfl ?_); refine wpList_store_at rfl 28 _ _ rfl _ rfl (plC (.slice (some ⟨g, 0, none⟩) n cap) bt 0) rfl (plC (.slice none 0 0) 0 0) _ Z1 3 (plC_size _ _ _) (plC_size _ _ _) (by kernel_rfl) (pl_one _ (sl_one _ _ _) _ _) ?_))
                        exact bodyPost_ret (v := .tuple #[.agg (plC (.slice (some ⟨g, 0, none⟩) n cap) bt 0), .int .i64 0]) (results_at_tmp (p := 8) (ty := 28) rfl _ _ _ (plC (.slice (some ⟨g, 0, none⟩) n cap) bt 0) _ (.int .i64 0) rfl rfl R9 _ Try.underlying28 rfl 3 (plC_size _ _ _) (by kernel_rfl)) rfl ⟨⟨_, by rw [hv2.out], by rw [hv2.out]; exact O9⟩, B9.out⟩

end Go.Proofs.Ytlpbehokcogcpaa
