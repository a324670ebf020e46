/-
  CONTRACTS: pairsOf, at tallies with a capacity.
-/
import Derived.Test.YtejbaoakpkpciaaG12
import Derived.Test.YtejbaoakpkpciaaPairsT
namespace Go.Proofs.Ytejbaoakpkpciaa
open Go Go.ChangeShapes Go.WideShapes Go.ChangeAt Go.RowKit
set_option maxRecDepth 100000

set_option maxHeartbeats 2000000 in
theorem pairsOf_anyY (zx zy : Array Value) (G : Nat) (xs : Ts) (cap : Nat) (T : TypeId) (G2 : Nat) (ys : Ts) (cap2 : Nat) (T2 : TypeId) (hx : xs.length ≤ 96) (hy : ys.length ≤ 96) (hok : okT ys = true) (w : World) (h0 : At w G (tY xs zx) T) (h02 : At w G2 (tY ys zy) T2) :
    Calls Try.prog 22 #[(.slice (some ⟨G, 0, none⟩) xs.length cap), (.slice (some ⟨G2, 0, none⟩) ys.length cap2)] w fun e w' => (∃ v, e = .returned v ∧ OwnP w' w.heap.size v xs ys (prsN xs ys 0 xs.length)) ∧ Below w.heap.size w w' := by
  obtain ⟨i0, hi, hz0, hz1, hz2⟩ := info_pair
  have HX := Lib.hid h0
  have HY := Lib.hid h02
  have HO := Lib.hid hok
  have HG := Lib.hid (show ∀ q, w.heap.size ≤ q → q ≠ G ∧ q ≠ G2 from fun q hq => by have := h0.lt; have := h02.lt; omega)
  obtain ⟨n, hnn⟩ : ∃ n, n = xs.length := ⟨_, rfl⟩
  obtain ⟨n2, hnn2⟩ : ∃ n2, n2 = ys.length := ⟨_, rfl⟩
  rw [← hnn] at hx ⊢
  rw [← hnn2] at hy ⊢
  have HN := Lib.hid hnn
  have HN2 := Lib.hid hnn2
  have HL := Lib.hid (show (prsN xs ys 0 n).length ≤ 96 from Nat.le_trans (prsN_len _ _) hx)
  clear hnn hnn2 h0 h02 hok
  go_enter Try.func22, Try.ntmps22
  go_wp2
  go_step3
  go_wp2
  go_step3
  go_wp2
  go_loopg [5, 12] n (fun g v u wx => ∃ (k : Nat) (L : List (Nat × Nat)), k + g = n ∧ u = .int .i64 (k : Int) ∧ Hid (L ++ prsN xs ys k g = prsN xs ys 0 n) ∧ OwnP wx w.heap.size v xs ys L ∧ At wx G (tY xs zx) T ∧ At wx G2 (tY ys zy) T2 ∧ Hid (Below w.heap.size w wx))
  case atStart => exact ⟨0, [], by omega, rfl, Lib.hid rfl, OwnP.nil _ _ _ _, HX.out, HY.out, Lib.hid (Below.refl _ _)⟩
  case round =>
    obtain ⟨k, L, hkg, rfl, hL, O1, A1, C1, B1⟩ := hrel
    cases gk with
    | zero =>
      have hkz : ¬ ((k : Int) < (n : Int)) := by omega
      have hL2 : L = prsN xs ys 0 n := by have := hL.out; rw [show prsN xs ys k 0 = [] from rfl, List.append_nil] at this; exact this
      subst hL2
      go_wp2_with fail
      try rw [Exit.noGoto_ret]
      go_ret
      exact ⟨⟨_, rfl, O1⟩, B1.out⟩
    | succ g =>
      have hkz : (k : Int) < (n : Int) := by omega
      have s2 : IntKind.i64.wrap ((k : Int) + 1) = (k : Int) + 1 := IntWalk.i64_in _ (by omega)
      have hkl : k < xs.length := by rw [← HN.out]; omega
      have hL1 := Lib.hid (show L ++ ((inn ys (tn xs k) 0 n2).map (fun j => (k, j)) ++ prsN xs ys (k + 1) g) = prsN xs ys 0 n from by
        rw [← hL.out, prsN_inn HO.out, HN2.out])
      have hsl := tY_tally zx hkl (k := k * 3) rfl
      have SS := tY_size xs zx
      have hle : k * 3 + 3 ≤ (tY xs zx).size := by omega
      have N0 := At.new wr #[.int .i64 0, .int .i16 0, .int .i16 0] 32
      have N1 := N0.setRow (t1 (tn xs k) (tc xs k) (tf xs k))
      have A2 := (A1.alloc (.cells #[.int .i64 0, .int .i16 0, .int .i16 0] 32)).setRow_other (k := wr.heap.size) (Nat.ne_of_lt A1.lt) (t1 (tn xs k) (tc xs k) (tf xs k))
      have C2 := (C1.alloc (.cells #[.int .i64 0, .int .i16 0, .int .i16 0] 32)).setRow_other (k := wr.heap.size) (Nat.ne_of_lt C1.lt) (t1 (tn xs k) (tc xs k) (tf xs k))
      have B2 := Lib.hid (bset (bnew B1.out (.cells #[.int .i64 0, .int .i16 0, .int .i16 0] 32)) (g := wr.heap.size) B1.out.size (t1 (tn xs k) (tc xs k) (tf xs k)))
      have O2 := (O1.step (b0 wr (.cells #[.int .i64 0, .int .i16 0, .int .i16 0] 32))).setRow_other (g := wr.heap.size) (fun q hq => by have := (O1.block q hq).2; omega) (t1 (tn xs k) (tc xs k) (tf xs k))
      have hgw : w.heap.size ≤ wr.heap.size := B1.out.size
      clear B1 SS hkl hL
      go_wp2_with (first | ((with_reducible refine is_load 32 _ rfl ?_); refine wpList_load_part rfl 32 _ rfl _ (k * 3) rfl (tY xs zx) _ (by with_reducible assumption) 3 (hle) _ Try.underlying32 rfl (by kernel_rfl) ((t1 (tn xs k) (tc xs k) (tf xs k))) (hsl) ?_) | ((with_reducible refine is_store 32 _ _ rfl ?_); refine wpList_store_at rfl 32 _ _ rfl _ rfl ((t1 (tn xs k) (tc xs k) (tf xs k))) rfl (#[.int .i64 0, .int .i16 0, .int .i16 0]) _ (by with_reducible assumption) 3 (t1_size _ _ _) (rfl) (by kernel_rfl) (t1_one _ _ _) ?_))
      clear N0 A1 C1 O1 hsl hle
      generalize (wr.alloc (.cells #[.int .i64 0, .int .i16 0, .int .i16 0] 32)).setRow wr.heap.size (t1 (tn xs k) (tc xs k) (tf xs k)) = w2 at N1 A2 C2 B2 O2 ⊢
      generalize wr.heap.size = gh at N1 hgw ⊢
      go_loopg [5, 18] n2 (fun g2 v u wy => ∃ (i : Nat) (L : List (Nat × Nat)), i + g2 = n2 ∧ u = .int .i64 (i : Int) ∧ Hid (L ++ ((inn ys (tn xs k) i g2).map (fun j => (k, j)) ++ prsN xs ys (k + 1) g) = prsN xs ys 0 n) ∧ OwnP wy w.heap.size v xs ys L ∧ At wy gh (t1 (tn xs k) (tc xs k) (tf xs k)) 32 ∧ At wy G (tY xs zx) T ∧ At wy G2 (tY ys zy) T2 ∧ Hid (Below w.heap.size w wy))
      case atStart => exact ⟨0, L, by omega, rfl, hL1, O2, N1, A2, C2, B2⟩
      case round =>
        clear N1 A2 C2 B2 O2 hL1
        clear L
        obtain ⟨i, L, hig, rfl, hL, O1, N1, A1, C1, B1⟩ := hrel
        cases gk with
        | zero =>
          have hjz : ¬ ((i : Int) < (n2 : Int)) := by omega
          go_wp2_with fail
          go_roundg g
          case measure => omega
          case rel => exact ⟨k + 1, L, by omega, by go_num, hL, O1, A1, C1, B1⟩
        | succ g2 =>
          have hjz : (i : Int) < (n2 : Int) := by omega
          have s3 : IntKind.i64.wrap ((i : Int) + 1) = (i : Int) + 1 := IntWalk.i64_in _ (by omega)
          have hil : i < ys.length := by rw [← HN2.out]; omega
          have hsl := tY_tally zy hil (k := i * 3) rfl
          have SS := tY_size ys zy
          have hle : i * 3 + 3 ≤ (tY ys zy).size := by omega
          have M0 := At.new wr #[.int .i64 0, .int .i16 0, .int .i16 0] 32
          have M1 := M0.setRow (t1 (tn ys i) (tc ys i) (tf ys i))
          have N2 := (N1.alloc (.cells #[.int .i64 0, .int .i16 0, .int .i16 0] 32)).setRow_other (k := wr.heap.size) (Nat.ne_of_lt N1.lt) (t1 (tn ys i) (tc ys i) (tf ys i))
          have A2 := (A1.alloc (.cells #[.int .i64 0, .int .i16 0, .int .i16 0] 32)).setRow_other (k := wr.heap.size) (Nat.ne_of_lt A1.lt) (t1 (tn ys i) (tc ys i) (tf ys i))
          have C2 := (C1.alloc (.cells #[.int .i64 0, .int .i16 0, .int .i16 0] 32)).setRow_other (k := wr.heap.size) (Nat.ne_of_lt C1.lt) (t1 (tn ys i) (tc ys i) (tf ys i))
          have B2 := Lib.hid (bset (bnew B1.out (.cells #[.int .i64 0, .int .i16 0, .int .i16 0] 32)) (g := wr.heap.size) B1.out.size (t1 (tn ys i) (tc ys i) (tf ys i)))
          have O2 := (O1.step (b0 wr (.cells #[.int .i64 0, .int .i16 0, .int .i16 0] 32))).setRow_other (g := wr.heap.size) (fun q hq => by have := (O1.block q hq).2; omega) (t1 (tn ys i) (tc ys i) (tf ys i))
          have c0 := M1.cell (t1_0 _ _ _)
          have d0 := N2.cell (t1_0 _ _ _)
          have hwr : w.heap.size ≤ wr.heap.size := B1.out.size
          clear SS hil B1
          by_cases p1 : tn xs k < tn ys i
          · have hL2 := Lib.hid (show L ++ prsN xs ys (k + 1) g = prsN xs ys 0 n from by rw [← hL.out, inn_gt p1]; rfl)
            have d1 : decide (tn xs k < tn ys i) = true := decide_eq_true p1
            clear hL p1
            go_wp2_with (first | ((with_reducible refine is_load 32 _ rfl ?_); refine wpList_load_part rfl 32 _ rfl _ (i * 3) rfl (tY ys zy) _ (by with_reducible assumption) 3 (hle) _ Try.underlying32 rfl (by kernel_rfl) ((t1 (tn ys i) (tc ys i) (tf ys i))) (hsl) ?_) | ((with_reducible refine is_store 32 _ _ rfl ?_); refine wpList_store_at rfl 32 _ _ rfl _ rfl ((t1 (tn ys i) (tc ys i) (tf ys i))) rfl (#[.int .i64 0, .int .i16 0, .int .i16 0]) _ (by with_reducible assumption) 3 (t1_size _ _ _) (rfl) (by kernel_rfl) (t1_one _ _ _) ?_))
            go_roundg g
            case measure => omega
            case rel => exact ⟨k + 1, L, by omega, by go_num, hL2, O2, A2, C2, B2⟩
          · have d1 : decide (tn xs k < tn ys i) = false := decide_eq_false p1
            by_cases p2 : tn ys i = tn xs k
            · have hL2 := Lib.hid (show (L ++ [(k, i)]) ++ ((inn ys (tn xs k) (i + 1) g2).map (fun j => (k, j)) ++ prsN xs ys (k + 1) g) = prsN xs ys 0 n from by rw [← hL.out, inn_hit p2]; simp)
              have hLl : L.length ≤ 96 := by have h1 := HL.out; rw [← hL2.out] at h1; simp at h1; omega
              have d2 : (tn ys i == tn xs k) = true := by simpa using p2
              clear hL p1 p2
              have O3 := O2
              have hws : w.heap.size ≤ ((wr.alloc (.cells #[.int .i64 0, .int .i16 0, .int .i16 0] 32)).setRow wr.heap.size (t1 (tn ys i) (tc ys i) (tf ys i))).heap.size := B2.out.size
              go_wp2_with (first | ((with_reducible refine is_load 32 _ rfl ?_); refine wpList_load_part rfl 32 _ rfl _ (i * 3) rfl (tY ys zy) _ (by with_reducible assumption) 3 (hle) _ Try.underlying32 rfl (by kernel_rfl) ((t1 (tn ys i) (tc ys i) (tf ys i))) (hsl) ?_) | ((with_reducible refine is_store 32 _ _ rfl ?_); refine wpList_store_at rfl 32 _ _ rfl _ rfl ((t1 (tn ys i) (tc ys i) (tf ys i))) rfl (#[.int .i64 0, .int .i16 0, .int .i16 0]) _ (by with_reducible assumption) 3 (t1_size _ _ _) (rfl) (by kernel_rfl) (t1_one _ _ _) ?_) | ((with_reducible refine is_load 32 _ rfl ?_); refine wpList_load_at rfl 32 _ rfl _ rfl ((t1 (tn xs k) (tc xs k) (tf xs k))) _ (by with_reducible assumption) 3 (t1_size _ _ _) _ Try.underlying32 rfl (by kernel_rfl) ?_) | ((with_reducible refine is_load 32 _ rfl ?_); refine wpList_load_at rfl 32 _ rfl _ rfl ((t1 (tn ys i) (tc ys i) (tf ys i))) _ (by with_reducible assumption) 3 (t1_size _ _ _) _ Try.underlying32 rfl (by kernel_rfl) ?_) | ((with_reducible refine is_build 51 _ rfl ?_); refine wpList_build2 rfl 51 0 1 _ _ rfl _ _ rfl rfl _ (built_pair _ _ _ _ _ _) ?_) | ((with_reducible refine is_bslice 48 1 _ rfl ?_); refine wpList_bslice rfl 48 1 _ rfl #[(0, .agg (pr xs ys k i))] (by kernel_rfl) _ (run_oneP _ _ _ _ _ _ _) ?_) | (at_builtin; go_loud (refine wpList_append_own _ rfl _ _ 48 rfl w.heap.size 51 i0 (.agg #[.int .i64 0, .int .i16 0, .int .i16 0, .int .i64 0, .int .i16 0, .int .i16 0]) 6 32 Try.underlying48 hi hz0 hz1 hz2 rfl (by decide) _ L.length _ rfl (O3.step (b0 _ _)) ⟨((wr.alloc (.cells #[.int .i64 0, .int .i16 0, .int .i16 0] 32)).setRow wr.heap.size (t1 (tn ys i) (tc ys i) (tf ys i))).heap.size, 0, none⟩ 1 1 (pll xs ys (k, i)) rfl rfl (one_cellsP ((wr.alloc (.cells #[.int .i64 0, .int .i16 0, .int .i16 0] 32)).setRow wr.heap.size (t1 (tn ys i) (tc ys i) (tf ys i))) xs ys k i) (pll_one _ _ _) (by unfold maxLen; omega) (by omega) (by simp; omega) ?_)))
              intro v' w5 hown hgrow _
              have O5 := OwnP.grown hown
              have hb5 : Below w.heap.size (((wr.alloc (.cells #[.int .i64 0, .int .i16 0, .int .i16 0] 32)).setRow wr.heap.size (t1 (tn ys i) (tc ys i) (tf ys i))).alloc (.cells (pr xs ys k i) 51)) w5 := Below.grownBy hgrow (by rw [World.size_alloc]; have := B2.out.size; omega) (fun q hq => (O3.block q hq).1)
              have B5 := Lib.hid ((bnew B2.out (.cells (pr xs ys k i) 51)).trans hb5)
              have A5 : At w5 G (tY xs zx) T := (A2.alloc (.cells (pr xs ys k i) 51)).keepP hgrow (fun q hq => (HG.out q ((O3.block q hq).1)).1)
              have C5 : At w5 G2 (tY ys zy) T2 := (C2.alloc (.cells (pr xs ys k i) 51)).keepP hgrow (fun q hq => (HG.out q ((O3.block q hq).1)).2)
              have N5 : At w5 gh (t1 (tn xs k) (tc xs k) (tf xs k)) 32 := (N2.alloc (.cells (pr xs ys k i) 51)).keepP hgrow (O3.ne N2)
              clear hown hgrow hb5
              go_wp2_with fail
              go_roundg g2
              case measure => omega
              case rel => exact ⟨i + 1, L ++ [(k, i)], by omega, by go_num, hL2, O5, N5, A5, C5, B5⟩
            · have hL2 := Lib.hid (show L ++ ((inn ys (tn xs k) (i + 1) g2).map (fun j => (k, j)) ++ prsN xs ys (k + 1) g) = prsN xs ys 0 n from by rw [← hL.out, inn_miss (by omega)])
              have d2 : (tn ys i == tn xs k) = false := by simpa using p2
              have d2' : decide (tn ys i = tn xs k) = false := decide_eq_false p2
              clear hL p1 p2
              go_wp2_with (first | ((with_reducible refine is_load 32 _ rfl ?_); refine wpList_load_part rfl 32 _ rfl _ (i * 3) rfl (tY ys zy) _ (by with_reducible assumption) 3 (hle) _ Try.underlying32 rfl (by kernel_rfl) ((t1 (tn ys i) (tc ys i) (tf ys i))) (hsl) ?_) | ((with_reducible refine is_store 32 _ _ rfl ?_); refine wpList_store_at rfl 32 _ _ rfl _ rfl ((t1 (tn ys i) (tc ys i) (tf ys i))) rfl (#[.int .i64 0, .int .i16 0, .int .i16 0]) _ (by with_reducible assumption) 3 (t1_size _ _ _) (rfl) (by kernel_rfl) (t1_one _ _ _) ?_))
              go_roundg g2
              case measure => omega
              case rel => exact ⟨i + 1, L, by omega, by go_num, hL2, O2, N2, A2, C2, B2⟩


end Go.Proofs.Ytejbaoakpkpciaa
