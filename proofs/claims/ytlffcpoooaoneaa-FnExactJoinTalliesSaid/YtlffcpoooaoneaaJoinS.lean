/-
  CONTRACTS: two lists of tallies joined, as the model has it.
-/
import Derived.Test.YtlffcpoooaoneaaVTlI
import Derived.Test.YtlffcpoooaoneaaOwnT
import Derived.Test.YtlffcpoooaoneaaJoin
import Derived.BigQuiet
namespace Go.Proofs.Ytlffcpoooaoneaa
open Go Go.ChangeShapes Go.WideShapes Go.ChangeAt Go.RowKit
set_option maxRecDepth 100000

theorem At.keepF {w w' : World} {g : Nat} {c : Array Value} {T : TypeId} {r : Option Nat} (h : At w g c T) (hg : w.grownBy w' r) (hne : ∀ q, r = some q → q ≠ g) : At w' g c T :=
  (hg.block g h.lt (fun e => hne g e.symm rfl)).trans h
theorem q_oneJ {P : Program} {W : World} {o : Oper} {a : Act} {K : Act → Prop} {g : Nat} {c : Array Value} {T : TypeId} (ty : TypeId) (x : Operand) (ho : o.op = .load ty x) (d : TypeDesc) (hu : P.underlying ty = some d) (hd : (match d with | .struct _ | .array _ _ => true | _ => false) = false) (k : Nat) (hx : a.eval x = .pointer (some ⟨g, k, none⟩)) (hA : At W g c T) (v : Value) (hk : c[k]? = some v) (hK : K (a.put o.dst v)) : o.quiet P a (Cb W) K :=
  q_load ty x ho _ hx v (fun w hw => run_load_one w ty d hu hd _ v (At.cell (At.step hA hw) hk)) hK
set_option maxHeartbeats 4000000 in
theorem sJoinTallies_any (G : Nat) (xs : Ts) (cap : Nat) (hW : TW xs) (hn : xs.length ≤ 1048576) (T : TypeId) (G2 : Nat) (ys : Ts) (cap2 : Nat) (hW2 : TW ys) (hn2 : ys.length ≤ 1048576) (T2 : TypeId) (w : World) (h0 : At w G (tC xs) T) (h02 : At w G2 (tC ys) T2) :
    Calls Try.prog 16 #[(.slice (some ⟨G, 0, none⟩) xs.length cap), (.slice (some ⟨G2, 0, none⟩) ys.length cap2)] w fun e w' => TR w w' (vJoin xs ys).1 (vJoin xs ys).2 e := by
  have KV := l05List_any G xs cap hW hn T w h0
  have KV2 := l05List_any G2 ys cap2 hW2 hn2 T2
  cases h : okT xs
  · rw [vJoin_1a h]
    rw [h] at KV
    generalize xs.length = n at KV
    generalize ys.length = n2 at KV2
    go_enter Try.func16, Try.ntmps16
    go_wp2_with fail
    refine (KV).mono ?_
    rintro e w1 ⟨rfl, hb1⟩
    go_wp2_with (((with_reducible refine is_bslice 24 0 _ rfl ?_); refine wpList_bslice rfl 24 0 _ rfl #[] (by simp) _ (run_noT _) ?_))
    go_ret2
    exact ⟨⟨_, rfl, OwnT.empty rfl hb1.size⟩, bnew hb1 _⟩
  · rw [h] at KV
    cases h' : okT ys
    · rw [vJoin_1b h']
      rw [h'] at KV2
      generalize xs.length = n at KV
      generalize ys.length = n2 at KV2
      go_enter Try.func16, Try.ntmps16
      go_wp2_with fail
      refine (KV).mono ?_
      rintro e w1 ⟨rfl, hb1⟩
      go_wp2_with fail
      refine (KV2 w1 (h02.step hb1)).mono ?_
      rintro e w2 ⟨rfl, hb2⟩
      have hb2 := bthen hb1 hb2
      go_wp2_with (((with_reducible refine is_bslice 24 0 _ rfl ?_); refine wpList_bslice rfl 24 0 _ rfl #[] (by simp) _ (run_noT _) ?_))
      go_ret2
      exact ⟨⟨_, rfl, OwnT.empty rfl hb2.size⟩, bnew hb2 _⟩
    · rw [h'] at KV2
      have h96 := okT_len h
      have h96' := okT_len h'
      have HX := Lib.hid h0
      have HY := Lib.hid h02
      have HV := Lib.hid (And.intro (vJoin_0 h h') (vJoin_3 h h'))
      have HG := Lib.hid (show ∀ q, w.heap.size ≤ q → q ≠ G ∧ q ≠ G2 from fun q hq => by have := h0.lt; have := h02.lt; omega)
      have HJ := Lib.hid (show (join xs ys).length ≤ 192 from Nat.le_trans (join_len xs ys) (by omega))
      obtain ⟨vj, hvj⟩ : ∃ vj, vj = vJoin xs ys := ⟨_, rfl⟩
      rw [← hvj] at HV ⊢
      obtain ⟨n, hnn⟩ : ∃ n, n = xs.length := ⟨_, rfl⟩
      obtain ⟨n2, hnn2⟩ : ∃ n2, n2 = ys.length := ⟨_, rfl⟩
      rw [← hnn] at h96 KV ⊢
      rw [← hnn2] at h96' KV2 ⊢
      have HN := Lib.hid hnn
      have HN2 := Lib.hid hnn2
      clear hnn hnn2 hvj h0 h h' hn hn2 hW hW2
      go_enter Try.func16, Try.ntmps16
      go_wp2_with fail
      refine (KV).mono ?_
      rintro e w1 ⟨rfl, hb1⟩
      go_wp2_with fail
      refine (KV2 w1 (HY.out.step hb1)).mono ?_
      rintro e w2 ⟨rfl, hb2⟩
      have hb2 := bthen hb1 hb2
      have A1 := HX.out.step hb2
      have C1 := HY.out.step hb2
      have B1 := Lib.hid hb2
      have A1 := A1.alloc (.cells #[] 111)
      have C1 := C1.alloc (.cells #[] 111)
      have B1 := Lib.hid (bnew hb2 (.cells #[] 111))
      have O1 := OwnT.empty (w := w2) (lo := w.heap.size) rfl hb2.size
      clear hb1 hb2 KV KV2
      go_wp2_with (((with_reducible refine is_bslice 24 0 _ rfl ?_); refine wpList_bslice rfl 24 0 _ rfl #[] (by simp) _ (run_noT _) ?_))
      go_loopw [6, 7, 8] (fun v iv kv wr => ∃ (i k : Nat) (L : Ts), i ≤ n ∧ k ≤ n2 ∧ iv = .int .i64 (i : Int) ∧ kv = .int .i64 (k : Int) ∧ Hid (L ++ join (xs.drop i) (ys.drop k) = join xs ys) ∧ OwnT wr w.heap.size v L ∧ At wr G (tC xs) T ∧ At wr G2 (tC ys) T2 ∧ Hid (Below w.heap.size w wr)) (fun _ iv kv _ => (n - (intOf iv).toNat) + (n2 - (intOf kv).toNat))
      case atStart => exact ⟨0, 0, [], by omega, by omega, rfl, rfl, Lib.hid rfl, O1, A1, C1, B1⟩
      case round =>
        clear A1 C1 B1 O1
        obtain ⟨i, k, L, hii, hkk, rfl, rfl, hL, O1, A1, C1, B1⟩ := hrel
        have hLl : L.length ≤ 192 := by have h1 := HJ.out; rw [← hL.out, List.length_append] at h1; omega
        obtain ⟨i0, hi0, hz0, hz1, hz2⟩ := info_tally
        obtain ⟨va, vc, rfl⟩ := O1.any
        have hi := hi0
        by_cases hlt : i < n
        · have id : (i : Int) < (n : Int) := by omega
          have hxl : i < xs.length := by rw [← HN.out]; exact hlt
          by_cases hlk : k < n2
          · have kd : (k : Int) < (n2 : Int) := by omega
            have hyl : k < ys.length := by rw [← HN2.out]; exact hlk
            have ke : ((k : Int) == (n2 : Int)) = false := by simp; omega
            have ke' : decide ((k : Int) = (n2 : Int)) = false := decide_eq_false (by omega)
            have ie : ((i : Int) == (n : Int)) = false := by simp; omega
            have ie' : decide ((i : Int) = (n : Int)) = false := decide_eq_false (by omega)
            by_cases p1 : tn xs i < tn ys k
            · have e1 : decide (tn xs i < tn ys k) = true := decide_eq_true p1
              have hL2 := Lib.hid (show (L ++ [tr3 xs i]) ++ join (xs.drop (i + 1)) (ys.drop k) = join xs ys from by rw [← hL.out, jLt hxl hyl p1]; simp)
              have s2 : IntKind.i64.wrap ((i : Int) + 1) = (i : Int) + 1 := IntWalk.i64_in _ (by omega)
              have c0 := A1.cell (tC_turn hxl (k := i * 3) rfl)
              have d0 := C1.cell (tC_turn hyl (k := k * 3) rfl)
              have HH := Lib.hid (And.intro A1 (And.intro C1 O1))
              clear A1 C1 O1
              go_wp2
              go_quiet (fail)
              generalize hd : World.drewN wr _ = w2
              have A2 : At w2 G (tC xs) T := by rw [← hd]; exact HH.out.1.drewN _
              have C2 : At w2 G2 (tC ys) T2 := by rw [← hd]; exact HH.out.2.1.drewN _
              have O2 : OwnT w2 w.heap.size (.slice va L.length vc) L := by rw [← hd]; exact HH.out.2.2.step (bdrew (Below.refl _ _) _)
              have B2 := Lib.hid (show Below w.heap.size w w2 from by rw [← hd]; exact bdrew B1.out _)
              clear hd HH B1
              have hsl := tC_tally hxl (k := i * 3) rfl
              have SS := tC_size xs
              have hle : i * 3 + 3 ≤ (tC xs).size := by rw [SS]; omega
              clear SS
              have hws : w.heap.size ≤ w2.heap.size := B2.out.size
              go_wp2_with (first | ((with_reducible refine is_load 111 _ rfl ?_); refine wpList_load_part rfl 111 _ rfl _ (i * 3) rfl (tC xs) _ (by with_reducible assumption) 3 (hle) _ Try.underlying111 rfl (by kernel_rfl) ((t1 (tn xs i) (tc xs i) (tf xs i))) (hsl) ?_) | ((with_reducible refine is_bslice 24 1 _ rfl ?_); refine wpList_bslice rfl 24 1 _ rfl #[(0, .agg (t1 (tn xs i) (tc xs i) (tf xs i)))] (by kernel_rfl) _ (run_oneT _ (tn xs i) (tc xs i) (tf xs i)) ?_) | (at_builtin; go_loud (refine wpList_append_own _ rfl _ _ 24 rfl w.heap.size 111 i0 (.agg #[.int .i64 0, .int .i16 0, .int .i16 0]) 3 16 Try.underlying24 hi hz0 hz1 hz2 rfl (by decide) _ (L).length _ rfl (O2.step (b0 _ _)) ⟨w2.heap.size, 0, none⟩ 1 1 (tll (tr3 xs i)) rfl rfl (one_cellsT w2 (tn xs i) (tc xs i) (tf xs i)) (tll_one _) (by unfold maxLen; omega) (by omega) (by simp; omega) ?_)))
              intro v' w5 hown hgrow _
              have O5 := OwnT.grown hown
              have hb5 : Below w.heap.size (w2.alloc (.cells (t1 (tn xs i) (tc xs i) (tf xs i)) 111)) w5 := Below.grownBy hgrow (by rw [World.size_alloc]; have := B2.out.size; omega) (fun q hq => (O2.block q hq).1)
              have B5 := Lib.hid ((bnew B2.out (.cells (t1 (tn xs i) (tc xs i) (tf xs i)) 111)).trans hb5)
              have A5 : At w5 G (tC xs) T := (A2.alloc (.cells (t1 (tn xs i) (tc xs i) (tf xs i)) 111)).keepF hgrow (fun q hq => (HG.out q ((O2.block q hq).1)).1)
              have C5 : At w5 G2 (tC ys) T2 := (C2.alloc (.cells (t1 (tn xs i) (tc xs i) (tf xs i)) 111)).keepF hgrow (fun q hq => (HG.out q ((O2.block q hq).1)).2)
              clear hown hgrow hb5
              go_wp2_with fail
              exact ⟨⟨i + 1, k, L ++ [tr3 xs i], by omega, by omega, by go_num, rfl, hL2, O5, A5, C5, B5⟩, by simp [intOf]; omega⟩
            · by_cases p2 : tn ys k < tn xs i
              · have e1 : decide (tn xs i < tn ys k) = false := decide_eq_false p1
                have e2 : decide (tn ys k < tn xs i) = true := decide_eq_true p2
                have hL2 := Lib.hid (show (L ++ [tr3 ys k]) ++ join (xs.drop i) (ys.drop (k + 1)) = join xs ys from by rw [← hL.out, jGt hxl hyl p2]; simp)
                have s2 : IntKind.i64.wrap ((k : Int) + 1) = (k : Int) + 1 := IntWalk.i64_in _ (by omega)
                have c0 := A1.cell (tC_turn hxl (k := i * 3) rfl)
                have d0 := C1.cell (tC_turn hyl (k := k * 3) rfl)
                have HH := Lib.hid (And.intro A1 (And.intro C1 O1))
                clear A1 C1 O1
                go_wp2
                go_quiet (fail)
                generalize hd : World.drewN wr _ = w2
                have A2 : At w2 G (tC xs) T := by rw [← hd]; exact HH.out.1.drewN _
                have C2 : At w2 G2 (tC ys) T2 := by rw [← hd]; exact HH.out.2.1.drewN _
                have O2 : OwnT w2 w.heap.size (.slice va L.length vc) L := by rw [← hd]; exact HH.out.2.2.step (bdrew (Below.refl _ _) _)
                have B2 := Lib.hid (show Below w.heap.size w w2 from by rw [← hd]; exact bdrew B1.out _)
                clear hd HH B1
                have c0 := A2.cell (tC_turn hxl (k := i * 3) rfl)
                have d0 := C2.cell (tC_turn hyl (k := k * 3) rfl)
                have HH := Lib.hid (And.intro A2 (And.intro C2 O2))
                clear A2 C2 O2
                go_wp2
                go_quiet (fail)
                generalize hd : World.drewN w2 _ = w3
                have A3 : At w3 G (tC xs) T := by rw [← hd]; exact HH.out.1.drewN _
                have C3 : At w3 G2 (tC ys) T2 := by rw [← hd]; exact HH.out.2.1.drewN _
                have O3 : OwnT w3 w.heap.size (.slice va L.length vc) L := by rw [← hd]; exact HH.out.2.2.step (bdrew (Below.refl _ _) _)
                have B3 := Lib.hid (show Below w.heap.size w w3 from by rw [← hd]; exact bdrew B2.out _)
                clear hd HH B2
                have hsl := tC_tally hyl (k := k * 3) rfl
                have SS := tC_size ys
                have hle : k * 3 + 3 ≤ (tC ys).size := by rw [SS]; omega
                clear SS
                have hws : w.heap.size ≤ w3.heap.size := B3.out.size
                go_wp2_with (first | ((with_reducible refine is_load 111 _ rfl ?_); refine wpList_load_part rfl 111 _ rfl _ (k * 3) rfl (tC ys) _ (by with_reducible assumption) 3 (hle) _ Try.underlying111 rfl (by kernel_rfl) ((t1 (tn ys k) (tc ys k) (tf ys k))) (hsl) ?_) | ((with_reducible refine is_bslice 24 1 _ rfl ?_); refine wpList_bslice rfl 24 1 _ rfl #[(0, .agg (t1 (tn ys k) (tc ys k) (tf ys k)))] (by kernel_rfl) _ (run_oneT _ (tn ys k) (tc ys k) (tf ys k)) ?_) | (at_builtin; go_loud (refine wpList_append_own _ rfl _ _ 24 rfl w.heap.size 111 i0 (.agg #[.int .i64 0, .int .i16 0, .int .i16 0]) 3 16 Try.underlying24 hi hz0 hz1 hz2 rfl (by decide) _ (L).length _ rfl (O3.step (b0 _ _)) ⟨w3.heap.size, 0, none⟩ 1 1 (tll (tr3 ys k)) rfl rfl (one_cellsT w3 (tn ys k) (tc ys k) (tf ys k)) (tll_one _) (by unfold maxLen; omega) (by omega) (by simp; omega) ?_)))
                intro v' w5 hown hgrow _
                have O5 := OwnT.grown hown
                have hb5 : Below w.heap.size (w3.alloc (.cells (t1 (tn ys k) (tc ys k) (tf ys k)) 111)) w5 := Below.grownBy hgrow (by rw [World.size_alloc]; have := B3.out.size; omega) (fun q hq => (O3.block q hq).1)
                have B5 := Lib.hid ((bnew B3.out (.cells (t1 (tn ys k) (tc ys k) (tf ys k)) 111)).trans hb5)
                have A5 : At w5 G (tC xs) T := (A3.alloc (.cells (t1 (tn ys k) (tc ys k) (tf ys k)) 111)).keepF hgrow (fun q hq => (HG.out q ((O3.block q hq).1)).1)
                have C5 : At w5 G2 (tC ys) T2 := (C3.alloc (.cells (t1 (tn ys k) (tc ys k) (tf ys k)) 111)).keepF hgrow (fun q hq => (HG.out q ((O3.block q hq).1)).2)
                clear hown hgrow hb5
                go_wp2_with fail
                exact ⟨⟨i, k + 1, L ++ [tr3 ys k], by omega, by omega, rfl, by go_num, hL2, O5, A5, C5, B5⟩, by simp [intOf]; omega⟩
              · skip
                have hj := Lib.hid (jEq hxl hyl p1 p2)
                have s2 : IntKind.i64.wrap ((i : Int) + 1) = (i : Int) + 1 := IntWalk.i64_in _ (by omega)
                have s3 : IntKind.i64.wrap ((k : Int) + 1) = (k : Int) + 1 := IntWalk.i64_in _ (by omega)
                have c0 := A1.cell (tC_turn hxl (k := i * 3) rfl)
                have d0 := C1.cell (tC_turn hyl (k := k * 3) rfl)
                have e1 : decide (tn xs i < tn ys k) = false := decide_eq_false p1
                have e2 : decide (tn ys k < tn xs i) = false := decide_eq_false p2
                have HH := Lib.hid (And.intro A1 (And.intro C1 O1))
                clear A1 C1 O1
                go_wp2
                go_quiet (fail)
                generalize hd : World.drewN wr _ = w2
                have A2 : At w2 G (tC xs) T := by rw [← hd]; exact HH.out.1.drewN _
                have C2 : At w2 G2 (tC ys) T2 := by rw [← hd]; exact HH.out.2.1.drewN _
                have O2 : OwnT w2 w.heap.size (.slice va L.length vc) L := by rw [← hd]; exact HH.out.2.2.step (bdrew (Below.refl _ _) _)
                have B2 := Lib.hid (show Below w.heap.size w w2 from by rw [← hd]; exact bdrew B1.out _)
                clear hd HH B1
                have c0 := A2.cell (tC_turn hxl (k := i * 3) rfl)
                have d0 := C2.cell (tC_turn hyl (k := k * 3) rfl)
                have HH := Lib.hid (And.intro A2 (And.intro C2 O2))
                clear A2 C2 O2
                go_wp2
                go_quiet (fail)
                generalize hd : World.drewN w2 _ = w3
                have A3 : At w3 G (tC xs) T := by rw [← hd]; exact HH.out.1.drewN _
                have C3 : At w3 G2 (tC ys) T2 := by rw [← hd]; exact HH.out.2.1.drewN _
                have O3 : OwnT w3 w.heap.size (.slice va L.length vc) L := by rw [← hd]; exact HH.out.2.2.step (bdrew (Below.refl _ _) _)
                have B3 := Lib.hid (show Below w.heap.size w w3 from by rw [← hd]; exact bdrew B2.out _)
                clear hd HH B2
                have hsl := tC_tally hxl (k := i * 3) rfl
                have SS := tC_size xs
                have hle : i * 3 + 3 ≤ (tC xs).size := by rw [SS]; omega
                clear SS
                have N0 := At.new w3 #[.int .i64 0, .int .i16 0, .int .i16 0] 111
                have N4 := N0.setRow (t1 (tn xs i) (tc xs i) (tf xs i))
                have A4 := (A3.alloc (.cells #[.int .i64 0, .int .i16 0, .int .i16 0] 111)).setRow_other (k := w3.heap.size) (Nat.ne_of_lt A3.lt) (t1 (tn xs i) (tc xs i) (tf xs i))
                have C4 := (C3.alloc (.cells #[.int .i64 0, .int .i16 0, .int .i16 0] 111)).setRow_other (k := w3.heap.size) (Nat.ne_of_lt C3.lt) (t1 (tn xs i) (tc xs i) (tf xs i))
                have B4 := Lib.hid (bset (bnew B3.out (.cells #[.int .i64 0, .int .i16 0, .int .i16 0] 111)) (g := w3.heap.size) B3.out.size (t1 (tn xs i) (tc xs i) (tf xs i)))
                have HOB := Lib.hid (fun q hq => Nat.ne_of_lt (O3.block q hq).2)
                have O4 := (O3.step (b0 w3 (.cells #[.int .i64 0, .int .i16 0, .int .i16 0] 111))).setRow_other (g := w3.heap.size) (fun q hq => by have := (O3.block q hq).2; omega) (t1 (tn xs i) (tc xs i) (tf xs i))
                have HGB := Lib.hid (And.intro B3.out.size (show G < w3.heap.size ∧ G2 < w3.heap.size from ⟨A3.lt, C3.lt⟩))
                have M4 := N4
                have e4a := tC_count hyl (k := k * 3 + 1) rfl
                have e4b := tC_full hyl (k := k * 3 + 2) rfl
                have e4c := t1_1 (tn xs i) (tc xs i) (tf xs i)
                have e4d := t1_2 (tn xs i) (tc xs i) (tf xs i)
                clear e1 e2
                go_wp2_with (first | ((with_reducible refine is_load 111 _ rfl ?_); refine wpList_load_part rfl 111 _ rfl _ (i * 3) rfl (tC xs) _ (by with_reducible assumption) 3 (hle) _ Try.underlying111 rfl (by kernel_rfl) ((t1 (tn xs i) (tc xs i) (tf xs i))) (hsl) ?_) | ((with_reducible refine is_store 111 _ _ rfl ?_); refine wpList_store_at rfl 111 _ _ rfl _ rfl ((t1 (tn xs i) (tc xs i) (tf xs i))) rfl (#[.int .i64 0, .int .i16 0, .int .i16 0]) _ (by with_reducible assumption) 3 (t1_size _ _ _) (rfl) (by kernel_rfl) (t1_one _ _ _) ?_))
                clear N0 N4 hsl hle A3 C3 O3 B3 c0 d0
                generalize hw4 : (w3.alloc (.cells #[.int .i64 0, .int .i16 0, .int .i16 0] 111)).setRow w3.heap.size (t1 (tn xs i) (tc xs i) (tf xs i)) = w4 at *
                generalize w3.heap.size = gb at *
                clear hw4
                by_cases r1 : tc xs i < tc ys k
                · have f1 : decide (tc xs i < tc ys k) = true := decide_eq_true r1
                  have hb := bst_yes (x := tr3 xs i) (y := tr3 ys k) (.inl r1)
                  clear r1
                  have hL2 := Lib.hid (show (L ++ [tr3 ys k]) ++ join (xs.drop (i + 1)) (ys.drop (k + 1)) = join xs ys from by rw [← hL.out, hj.out, hb]; simp)
                  have hC := Cb.const w4
                  try go_simp
                  refine wp_region_cb (by kernel_rfl) (by kernel_rfl) ?_
                  repeat (first
                    | go_big_quiet_skip
                    | (go_big_quiet_want; first
                      | (refine q_oneJ 34 _ rfl _ Try.underlying34 rfl (k * 3 + 1) rfl C4 _ e4a ?_; go_simp; go_big_quiet_on)
                      | (refine q_oneJ 34 _ rfl _ Try.underlying34 rfl (k * 3 + 2) rfl C4 _ e4b ?_; go_simp; go_big_quiet_on)
                      | (refine q_oneJ 34 _ rfl _ Try.underlying34 rfl 1 rfl M4 _ e4c ?_; go_simp; go_big_quiet_on)
                      | (refine q_oneJ 34 _ rfl _ Try.underlying34 rfl 2 rfl M4 _ e4d ?_; go_simp; go_big_quiet_on)
                      | (go_big_quiet_op; go_big_quiet_on)))
                  refine wpQuiet_nil ?_
                  intro w6 hw6
                  have A6 := A4.step hw6
                  have C6 := C4.step hw6
                  have O6 := O4.step hw6
                  have M6 := M4.step hw6
                  have B6 := Lib.hid (bthen B4.out hw6)
                  clear A4 C4 O4 M4 B4 hw6 hC e4a e4b e4c e4d
                  have hsl := tC_tally hyl (k := k * 3) rfl
                  have SS := tC_size ys
                  have hle : k * 3 + 3 ≤ (tC ys).size := by rw [SS]; omega
                  clear SS
                  have hgb : w.heap.size ≤ gb := HGB.out.1
                  have M7 := M6.setRow (t1 (tn ys k) (tc ys k) (tf ys k))
                  have A7 := A6.setRow_other (k := gb) (by have := HGB.out.2; omega) (t1 (tn ys k) (tc ys k) (tf ys k))
                  have C7 := C6.setRow_other (k := gb) (by have := HGB.out.2; omega) (t1 (tn ys k) (tc ys k) (tf ys k))
                  have O7 := O6.setRow_other (g := gb) (fun q hq => HOB.out q hq) (t1 (tn ys k) (tc ys k) (tf ys k))
                  have B7 := Lib.hid (bset B6.out (g := gb) hgb (t1 (tn ys k) (tc ys k) (tf ys k)))
                  have hws : w.heap.size ≤ (w6.setRow gb (t1 (tn ys k) (tc ys k) (tf ys k))).heap.size := B7.out.size
                  have hw6s : w.heap.size ≤ w6.heap.size := B6.out.size
                  clear A6 O6 B6
                  go_wp2_with (first | ((with_reducible refine is_load 111 _ rfl ?_); refine wpList_load_part rfl 111 _ rfl _ (k * 3) rfl (tC ys) _ (by with_reducible assumption) 3 (hle) _ Try.underlying111 rfl (by kernel_rfl) ((t1 (tn ys k) (tc ys k) (tf ys k))) (hsl) ?_) | ((with_reducible refine is_store 111 _ _ rfl ?_); refine wpList_store_at rfl 111 _ _ rfl _ rfl ((t1 (tn ys k) (tc ys k) (tf ys k))) rfl ((t1 (tn xs i) (tc xs i) (tf xs i))) _ (by with_reducible assumption) 3 (t1_size _ _ _) (t1_size _ _ _) (by kernel_rfl) (t1_one _ _ _) ?_) | ((with_reducible refine is_load 111 _ rfl ?_); refine wpList_load_at rfl 111 _ rfl _ rfl ((t1 (tn ys k) (tc ys k) (tf ys k))) _ (by with_reducible assumption) 3 (t1_size _ _ _) _ Try.underlying111 rfl (by kernel_rfl) ?_) | ((with_reducible refine is_bslice 24 1 _ rfl ?_); refine wpList_bslice rfl 24 1 _ rfl #[(0, .agg (t1 (tn ys k) (tc ys k) (tf ys k)))] (by kernel_rfl) _ (run_oneT _ (tn ys k) (tc ys k) (tf ys k)) ?_) | (at_builtin; go_loud (refine wpList_append_own _ rfl _ _ 24 rfl w.heap.size 111 i0 (.agg #[.int .i64 0, .int .i16 0, .int .i16 0]) 3 16 Try.underlying24 hi hz0 hz1 hz2 rfl (by decide) _ (L).length _ rfl (O7.step (b0 _ _)) ⟨(w6.setRow gb (t1 (tn ys k) (tc ys k) (tf ys k))).heap.size, 0, none⟩ 1 1 (tll (tr3 ys k)) rfl rfl (one_cellsT (w6.setRow gb (t1 (tn ys k) (tc ys k) (tf ys k))) (tn ys k) (tc ys k) (tf ys k)) (tll_one _) (by unfold maxLen; omega) (by omega) (by simp; omega) ?_)))
                  intro v' w5 hown hgrow _
                  have O5 := OwnT.grown hown
                  have hb5 : Below w.heap.size ((w6.setRow gb (t1 (tn ys k) (tc ys k) (tf ys k))).alloc (.cells (t1 (tn ys k) (tc ys k) (tf ys k)) 111)) w5 := Below.grownBy hgrow (by rw [World.size_alloc]; have := B7.out.size; omega) (fun q hq => (O7.block q hq).1)
                  have B5 := Lib.hid ((bnew B7.out (.cells (t1 (tn ys k) (tc ys k) (tf ys k)) 111)).trans hb5)
                  have A5 : At w5 G (tC xs) T := (A7.alloc (.cells (t1 (tn ys k) (tc ys k) (tf ys k)) 111)).keepF hgrow (fun q hq => (HG.out q ((O7.block q hq).1)).1)
                  have C5 : At w5 G2 (tC ys) T2 := (C7.alloc (.cells (t1 (tn ys k) (tc ys k) (tf ys k)) 111)).keepF hgrow (fun q hq => (HG.out q ((O7.block q hq).1)).2)
                  clear hown hgrow hb5
                  go_wp2_with fail
                  exact ⟨⟨i + 1, k + 1, L ++ [tr3 ys k], by omega, by omega, by go_num, by go_num, hL2, O5, A5, C5, B5⟩, by simp [intOf]; omega⟩
                · have f1 : decide (tc xs i < tc ys k) = false := decide_eq_false r1
                  by_cases r2 : tc ys k = tc xs i
                  · have f2 : (tc ys k == tc xs i) = true := by simpa using r2
                    by_cases r3 : tf xs i < tf ys k
                    · have f3 : decide (tf xs i < tf ys k) = true := decide_eq_true r3
                      have hb := bst_yes (x := tr3 xs i) (y := tr3 ys k) (.inr ⟨r2.symm, r3⟩)
                      clear r1 r2 r3
                      have hL2 := Lib.hid (show (L ++ [tr3 ys k]) ++ join (xs.drop (i + 1)) (ys.drop (k + 1)) = join xs ys from by rw [← hL.out, hj.out, hb]; simp)
                      have hC := Cb.const w4
                      try go_simp
                      refine wp_region_cb (by kernel_rfl) (by kernel_rfl) ?_
                      repeat (first
                        | go_big_quiet_skip
                        | (go_big_quiet_want; first
                          | (refine q_oneJ 34 _ rfl _ Try.underlying34 rfl (k * 3 + 1) rfl C4 _ e4a ?_; go_simp; go_big_quiet_on)
                          | (refine q_oneJ 34 _ rfl _ Try.underlying34 rfl (k * 3 + 2) rfl C4 _ e4b ?_; go_simp; go_big_quiet_on)
                          | (refine q_oneJ 34 _ rfl _ Try.underlying34 rfl 1 rfl M4 _ e4c ?_; go_simp; go_big_quiet_on)
                          | (refine q_oneJ 34 _ rfl _ Try.underlying34 rfl 2 rfl M4 _ e4d ?_; go_simp; go_big_quiet_on)
                          | (go_big_quiet_op; go_big_quiet_on)))
                      refine wpQuiet_nil ?_
                      intro w6 hw6
                      have A6 := A4.step hw6
                      have C6 := C4.step hw6
                      have O6 := O4.step hw6
                      have M6 := M4.step hw6
                      have B6 := Lib.hid (bthen B4.out hw6)
                      clear A4 C4 O4 M4 B4 hw6 hC e4a e4b e4c e4d
                      have hsl := tC_tally hyl (k := k * 3) rfl
                      have SS := tC_size ys
                      have hle : k * 3 + 3 ≤ (tC ys).size := by rw [SS]; omega
                      clear SS
                      have hgb : w.heap.size ≤ gb := HGB.out.1
                      have M7 := M6.setRow (t1 (tn ys k) (tc ys k) (tf ys k))
                      have A7 := A6.setRow_other (k := gb) (by have := HGB.out.2; omega) (t1 (tn ys k) (tc ys k) (tf ys k))
                      have C7 := C6.setRow_other (k := gb) (by have := HGB.out.2; omega) (t1 (tn ys k) (tc ys k) (tf ys k))
                      have O7 := O6.setRow_other (g := gb) (fun q hq => HOB.out q hq) (t1 (tn ys k) (tc ys k) (tf ys k))
                      have B7 := Lib.hid (bset B6.out (g := gb) hgb (t1 (tn ys k) (tc ys k) (tf ys k)))
                      have hws : w.heap.size ≤ (w6.setRow gb (t1 (tn ys k) (tc ys k) (tf ys k))).heap.size := B7.out.size
                      have hw6s : w.heap.size ≤ w6.heap.size := B6.out.size
                      clear A6 O6 B6
                      go_wp2_with (first | ((with_reducible refine is_load 111 _ rfl ?_); refine wpList_load_part rfl 111 _ rfl _ (k * 3) rfl (tC ys) _ (by with_reducible assumption) 3 (hle) _ Try.underlying111 rfl (by kernel_rfl) ((t1 (tn ys k) (tc ys k) (tf ys k))) (hsl) ?_) | ((with_reducible refine is_store 111 _ _ rfl ?_); refine wpList_store_at rfl 111 _ _ rfl _ rfl ((t1 (tn ys k) (tc ys k) (tf ys k))) rfl ((t1 (tn xs i) (tc xs i) (tf xs i))) _ (by with_reducible assumption) 3 (t1_size _ _ _) (t1_size _ _ _) (by kernel_rfl) (t1_one _ _ _) ?_) | ((with_reducible refine is_load 111 _ rfl ?_); refine wpList_load_at rfl 111 _ rfl _ rfl ((t1 (tn ys k) (tc ys k) (tf ys k))) _ (by with_reducible assumption) 3 (t1_size _ _ _) _ Try.underlying111 rfl (by kernel_rfl) ?_) | ((with_reducible refine is_bslice 24 1 _ rfl ?_); refine wpList_bslice rfl 24 1 _ rfl #[(0, .agg (t1 (tn ys k) (tc ys k) (tf ys k)))] (by kernel_rfl) _ (run_oneT _ (tn ys k) (tc ys k) (tf ys k)) ?_) | (at_builtin; go_loud (refine wpList_append_own _ rfl _ _ 24 rfl w.heap.size 111 i0 (.agg #[.int .i64 0, .int .i16 0, .int .i16 0]) 3 16 Try.underlying24 hi hz0 hz1 hz2 rfl (by decide) _ (L).length _ rfl (O7.step (b0 _ _)) ⟨(w6.setRow gb (t1 (tn ys k) (tc ys k) (tf ys k))).heap.size, 0, none⟩ 1 1 (tll (tr3 ys k)) rfl rfl (one_cellsT (w6.setRow gb (t1 (tn ys k) (tc ys k) (tf ys k))) (tn ys k) (tc ys k) (tf ys k)) (tll_one _) (by unfold maxLen; omega) (by omega) (by simp; omega) ?_)))
                      intro v' w5 hown hgrow _
                      have O5 := OwnT.grown hown
                      have hb5 : Below w.heap.size ((w6.setRow gb (t1 (tn ys k) (tc ys k) (tf ys k))).alloc (.cells (t1 (tn ys k) (tc ys k) (tf ys k)) 111)) w5 := Below.grownBy hgrow (by rw [World.size_alloc]; have := B7.out.size; omega) (fun q hq => (O7.block q hq).1)
                      have B5 := Lib.hid ((bnew B7.out (.cells (t1 (tn ys k) (tc ys k) (tf ys k)) 111)).trans hb5)
                      have A5 : At w5 G (tC xs) T := (A7.alloc (.cells (t1 (tn ys k) (tc ys k) (tf ys k)) 111)).keepF hgrow (fun q hq => (HG.out q ((O7.block q hq).1)).1)
                      have C5 : At w5 G2 (tC ys) T2 := (C7.alloc (.cells (t1 (tn ys k) (tc ys k) (tf ys k)) 111)).keepF hgrow (fun q hq => (HG.out q ((O7.block q hq).1)).2)
                      clear hown hgrow hb5
                      go_wp2_with fail
                      exact ⟨⟨i + 1, k + 1, L ++ [tr3 ys k], by omega, by omega, by go_num, by go_num, hL2, O5, A5, C5, B5⟩, by simp [intOf]; omega⟩
                    · have f3 : decide (tf xs i < tf ys k) = false := decide_eq_false r3
                      have hb := bst_no (x := tr3 xs i) (y := tr3 ys k) (fun h => by rcases h with h | h; exact r1 h; exact r3 h.2)
                      clear r1 r2 r3
                      have hL2 := Lib.hid (show (L ++ [tr3 xs i]) ++ join (xs.drop (i + 1)) (ys.drop (k + 1)) = join xs ys from by rw [← hL.out, hj.out, hb]; simp)
                      have hC := Cb.const w4
                      try go_simp
                      refine wp_region_cb (by kernel_rfl) (by kernel_rfl) ?_
                      repeat (first
                        | go_big_quiet_skip
                        | (go_big_quiet_want; first
                          | (refine q_oneJ 34 _ rfl _ Try.underlying34 rfl (k * 3 + 1) rfl C4 _ e4a ?_; go_simp; go_big_quiet_on)
                          | (refine q_oneJ 34 _ rfl _ Try.underlying34 rfl (k * 3 + 2) rfl C4 _ e4b ?_; go_simp; go_big_quiet_on)
                          | (refine q_oneJ 34 _ rfl _ Try.underlying34 rfl 1 rfl M4 _ e4c ?_; go_simp; go_big_quiet_on)
                          | (refine q_oneJ 34 _ rfl _ Try.underlying34 rfl 2 rfl M4 _ e4d ?_; go_simp; go_big_quiet_on)
                          | (go_big_quiet_op; go_big_quiet_on)))
                      refine wpQuiet_nil ?_
                      intro w6 hw6
                      have A6 := A4.step hw6
                      have C6 := C4.step hw6
                      have O6 := O4.step hw6
                      have M6 := M4.step hw6
                      have B6 := Lib.hid (bthen B4.out hw6)
                      clear A4 C4 O4 M4 B4 hw6 hC e4a e4b e4c e4d
                      have hws : w.heap.size ≤ w6.heap.size := B6.out.size
                      skip
                      go_wp2_with (first | ((with_reducible refine is_load 111 _ rfl ?_); refine wpList_load_at rfl 111 _ rfl _ rfl ((t1 (tn xs i) (tc xs i) (tf xs i))) _ (by with_reducible assumption) 3 (t1_size _ _ _) _ Try.underlying111 rfl (by kernel_rfl) ?_) | ((with_reducible refine is_bslice 24 1 _ rfl ?_); refine wpList_bslice rfl 24 1 _ rfl #[(0, .agg (t1 (tn xs i) (tc xs i) (tf xs i)))] (by kernel_rfl) _ (run_oneT _ (tn xs i) (tc xs i) (tf xs i)) ?_) | (at_builtin; go_loud (refine wpList_append_own _ rfl _ _ 24 rfl w.heap.size 111 i0 (.agg #[.int .i64 0, .int .i16 0, .int .i16 0]) 3 16 Try.underlying24 hi hz0 hz1 hz2 rfl (by decide) _ (L).length _ rfl (O6.step (b0 _ _)) ⟨w6.heap.size, 0, none⟩ 1 1 (tll (tr3 xs i)) rfl rfl (one_cellsT w6 (tn xs i) (tc xs i) (tf xs i)) (tll_one _) (by unfold maxLen; omega) (by omega) (by simp; omega) ?_)))
                      intro v' w5 hown hgrow _
                      have O5 := OwnT.grown hown
                      have hb5 : Below w.heap.size (w6.alloc (.cells (t1 (tn xs i) (tc xs i) (tf xs i)) 111)) w5 := Below.grownBy hgrow (by rw [World.size_alloc]; have := B6.out.size; omega) (fun q hq => (O6.block q hq).1)
                      have B5 := Lib.hid ((bnew B6.out (.cells (t1 (tn xs i) (tc xs i) (tf xs i)) 111)).trans hb5)
                      have A5 : At w5 G (tC xs) T := (A6.alloc (.cells (t1 (tn xs i) (tc xs i) (tf xs i)) 111)).keepF hgrow (fun q hq => (HG.out q ((O6.block q hq).1)).1)
                      have C5 : At w5 G2 (tC ys) T2 := (C6.alloc (.cells (t1 (tn xs i) (tc xs i) (tf xs i)) 111)).keepF hgrow (fun q hq => (HG.out q ((O6.block q hq).1)).2)
                      clear hown hgrow hb5
                      go_wp2_with fail
                      exact ⟨⟨i + 1, k + 1, L ++ [tr3 xs i], by omega, by omega, by go_num, by go_num, hL2, O5, A5, C5, B5⟩, by simp [intOf]; omega⟩
                  · have f2 : (tc ys k == tc xs i) = false := by simpa using r2
                    have f2' : decide (tc ys k = tc xs i) = false := decide_eq_false r2
                    have hb := bst_no (x := tr3 xs i) (y := tr3 ys k) (fun h => by rcases h with h | h; exact r1 h; exact r2 h.1.symm)
                    clear r1 r2
                    have hL2 := Lib.hid (show (L ++ [tr3 xs i]) ++ join (xs.drop (i + 1)) (ys.drop (k + 1)) = join xs ys from by rw [← hL.out, hj.out, hb]; simp)
                    have hC := Cb.const w4
                    try go_simp
                    refine wp_region_cb (by kernel_rfl) (by kernel_rfl) ?_
                    repeat (first
                      | go_big_quiet_skip
                      | (go_big_quiet_want; first
                        | (refine q_oneJ 34 _ rfl _ Try.underlying34 rfl (k * 3 + 1) rfl C4 _ e4a ?_; go_simp; go_big_quiet_on)
                        | (refine q_oneJ 34 _ rfl _ Try.underlying34 rfl (k * 3 + 2) rfl C4 _ e4b ?_; go_simp; go_big_quiet_on)
                        | (refine q_oneJ 34 _ rfl _ Try.underlying34 rfl 1 rfl M4 _ e4c ?_; go_simp; go_big_quiet_on)
                        | (refine q_oneJ 34 _ rfl _ Try.underlying34 rfl 2 rfl M4 _ e4d ?_; go_simp; go_big_quiet_on)
                        | (go_big_quiet_op; go_big_quiet_on)))
                    refine wpQuiet_nil ?_
                    intro w6 hw6
                    have A6 := A4.step hw6
                    have C6 := C4.step hw6
                    have O6 := O4.step hw6
                    have M6 := M4.step hw6
                    have B6 := Lib.hid (bthen B4.out hw6)
                    clear A4 C4 O4 M4 B4 hw6 hC e4a e4b e4c e4d
                    have hws : w.heap.size ≤ w6.heap.size := B6.out.size
                    skip
                    go_wp2_with (first | ((with_reducible refine is_load 111 _ rfl ?_); refine wpList_load_at rfl 111 _ rfl _ rfl ((t1 (tn xs i) (tc xs i) (tf xs i))) _ (by with_reducible assumption) 3 (t1_size _ _ _) _ Try.underlying111 rfl (by kernel_rfl) ?_) | ((with_reducible refine is_bslice 24 1 _ rfl ?_); refine wpList_bslice rfl 24 1 _ rfl #[(0, .agg (t1 (tn xs i) (tc xs i) (tf xs i)))] (by kernel_rfl) _ (run_oneT _ (tn xs i) (tc xs i) (tf xs i)) ?_) | (at_builtin; go_loud (refine wpList_append_own _ rfl _ _ 24 rfl w.heap.size 111 i0 (.agg #[.int .i64 0, .int .i16 0, .int .i16 0]) 3 16 Try.underlying24 hi hz0 hz1 hz2 rfl (by decide) _ (L).length _ rfl (O6.step (b0 _ _)) ⟨w6.heap.size, 0, none⟩ 1 1 (tll (tr3 xs i)) rfl rfl (one_cellsT w6 (tn xs i) (tc xs i) (tf xs i)) (tll_one _) (by unfold maxLen; omega) (by omega) (by simp; omega) ?_)))
                    intro v' w5 hown hgrow _
                    have O5 := OwnT.grown hown
                    have hb5 : Below w.heap.size (w6.alloc (.cells (t1 (tn xs i) (tc xs i) (tf xs i)) 111)) w5 := Below.grownBy hgrow (by rw [World.size_alloc]; have := B6.out.size; omega) (fun q hq => (O6.block q hq).1)
                    have B5 := Lib.hid ((bnew B6.out (.cells (t1 (tn xs i) (tc xs i) (tf xs i)) 111)).trans hb5)
                    have A5 : At w5 G (tC xs) T := (A6.alloc (.cells (t1 (tn xs i) (tc xs i) (tf xs i)) 111)).keepF hgrow (fun q hq => (HG.out q ((O6.block q hq).1)).1)
                    have C5 : At w5 G2 (tC ys) T2 := (C6.alloc (.cells (t1 (tn xs i) (tc xs i) (tf xs i)) 111)).keepF hgrow (fun q hq => (HG.out q ((O6.block q hq).1)).2)
                    clear hown hgrow hb5
                    go_wp2_with fail
                    exact ⟨⟨i + 1, k + 1, L ++ [tr3 xs i], by omega, by omega, by go_num, by go_num, hL2, O5, A5, C5, B5⟩, by simp [intOf]; omega⟩
          · obtain rfl : k = n2 := by omega
            have hL2 := Lib.hid (show (L ++ [tr3 xs i]) ++ join (xs.drop (i + 1)) (ys.drop k) = join xs ys from by rw [← hL.out, jA hxl (by rw [← HN2.out]; exact Nat.le_refl _)]; simp)
            have s2 : IntKind.i64.wrap ((i : Int) + 1) = (i : Int) + 1 := IntWalk.i64_in _ (by omega)
            skip
            have HH := Lib.hid (And.intro A1 (And.intro C1 O1))
            clear A1 C1 O1
            go_wp2
            go_quiet (fail)
            generalize hd : World.drewN wr _ = w2
            have A2 : At w2 G (tC xs) T := by rw [← hd]; exact HH.out.1.drewN _
            have C2 : At w2 G2 (tC ys) T2 := by rw [← hd]; exact HH.out.2.1.drewN _
            have O2 : OwnT w2 w.heap.size (.slice va L.length vc) L := by rw [← hd]; exact HH.out.2.2.step (bdrew (Below.refl _ _) _)
            have B2 := Lib.hid (show Below w.heap.size w w2 from by rw [← hd]; exact bdrew B1.out _)
            clear hd HH B1
            have hsl := tC_tally hxl (k := i * 3) rfl
            have SS := tC_size xs
            have hle : i * 3 + 3 ≤ (tC xs).size := by rw [SS]; omega
            clear SS
            have hws : w.heap.size ≤ w2.heap.size := B2.out.size
            go_wp2_with (first | ((with_reducible refine is_load 111 _ rfl ?_); refine wpList_load_part rfl 111 _ rfl _ (i * 3) rfl (tC xs) _ (by with_reducible assumption) 3 (hle) _ Try.underlying111 rfl (by kernel_rfl) ((t1 (tn xs i) (tc xs i) (tf xs i))) (hsl) ?_) | ((with_reducible refine is_bslice 24 1 _ rfl ?_); refine wpList_bslice rfl 24 1 _ rfl #[(0, .agg (t1 (tn xs i) (tc xs i) (tf xs i)))] (by kernel_rfl) _ (run_oneT _ (tn xs i) (tc xs i) (tf xs i)) ?_) | (at_builtin; go_loud (refine wpList_append_own _ rfl _ _ 24 rfl w.heap.size 111 i0 (.agg #[.int .i64 0, .int .i16 0, .int .i16 0]) 3 16 Try.underlying24 hi hz0 hz1 hz2 rfl (by decide) _ (L).length _ rfl (O2.step (b0 _ _)) ⟨w2.heap.size, 0, none⟩ 1 1 (tll (tr3 xs i)) rfl rfl (one_cellsT w2 (tn xs i) (tc xs i) (tf xs i)) (tll_one _) (by unfold maxLen; omega) (by omega) (by simp; omega) ?_)))
            intro v' w5 hown hgrow _
            have O5 := OwnT.grown hown
            have hb5 : Below w.heap.size (w2.alloc (.cells (t1 (tn xs i) (tc xs i) (tf xs i)) 111)) w5 := Below.grownBy hgrow (by rw [World.size_alloc]; have := B2.out.size; omega) (fun q hq => (O2.block q hq).1)
            have B5 := Lib.hid ((bnew B2.out (.cells (t1 (tn xs i) (tc xs i) (tf xs i)) 111)).trans hb5)
            have A5 : At w5 G (tC xs) T := (A2.alloc (.cells (t1 (tn xs i) (tc xs i) (tf xs i)) 111)).keepF hgrow (fun q hq => (HG.out q ((O2.block q hq).1)).1)
            have C5 : At w5 G2 (tC ys) T2 := (C2.alloc (.cells (t1 (tn xs i) (tc xs i) (tf xs i)) 111)).keepF hgrow (fun q hq => (HG.out q ((O2.block q hq).1)).2)
            clear hown hgrow hb5
            go_wp2_with fail
            exact ⟨⟨i + 1, k, L ++ [tr3 xs i], by omega, by omega, by go_num, rfl, hL2, O5, A5, C5, B5⟩, by simp [intOf]; omega⟩
        · obtain rfl : i = n := by omega
          by_cases hlk : k < n2
          · have kd : (k : Int) < (n2 : Int) := by omega
            have hyl : k < ys.length := by rw [← HN2.out]; exact hlk
            have ke : ((k : Int) == (n2 : Int)) = false := by simp; omega
            have ke' : decide ((k : Int) = (n2 : Int)) = false := decide_eq_false (by omega)
            have hL2 := Lib.hid (show (L ++ [tr3 ys k]) ++ join (xs.drop i) (ys.drop (k + 1)) = join xs ys from by rw [← hL.out, jB (by rw [← HN.out]; exact Nat.le_refl _) hyl]; simp)
            have s2 : IntKind.i64.wrap ((k : Int) + 1) = (k : Int) + 1 := IntWalk.i64_in _ (by omega)
            skip
            have HH := Lib.hid (And.intro A1 (And.intro C1 O1))
            clear A1 C1 O1
            go_wp2
            go_quiet (fail)
            generalize hd : World.drewN wr _ = w2
            have A2 : At w2 G (tC xs) T := by rw [← hd]; exact HH.out.1.drewN _
            have C2 : At w2 G2 (tC ys) T2 := by rw [← hd]; exact HH.out.2.1.drewN _
            have O2 : OwnT w2 w.heap.size (.slice va L.length vc) L := by rw [← hd]; exact HH.out.2.2.step (bdrew (Below.refl _ _) _)
            have B2 := Lib.hid (show Below w.heap.size w w2 from by rw [← hd]; exact bdrew B1.out _)
            clear hd HH B1
            skip
            have HH := Lib.hid (And.intro A2 (And.intro C2 O2))
            clear A2 C2 O2
            go_wp2
            go_quiet (fail)
            generalize hd : World.drewN w2 _ = w3
            have A3 : At w3 G (tC xs) T := by rw [← hd]; exact HH.out.1.drewN _
            have C3 : At w3 G2 (tC ys) T2 := by rw [← hd]; exact HH.out.2.1.drewN _
            have O3 : OwnT w3 w.heap.size (.slice va L.length vc) L := by rw [← hd]; exact HH.out.2.2.step (bdrew (Below.refl _ _) _)
            have B3 := Lib.hid (show Below w.heap.size w w3 from by rw [← hd]; exact bdrew B2.out _)
            clear hd HH B2
            have hsl := tC_tally hyl (k := k * 3) rfl
            have SS := tC_size ys
            have hle : k * 3 + 3 ≤ (tC ys).size := by rw [SS]; omega
            clear SS
            have hws : w.heap.size ≤ w3.heap.size := B3.out.size
            go_wp2_with (first | ((with_reducible refine is_load 111 _ rfl ?_); refine wpList_load_part rfl 111 _ rfl _ (k * 3) rfl (tC ys) _ (by with_reducible assumption) 3 (hle) _ Try.underlying111 rfl (by kernel_rfl) ((t1 (tn ys k) (tc ys k) (tf ys k))) (hsl) ?_) | ((with_reducible refine is_bslice 24 1 _ rfl ?_); refine wpList_bslice rfl 24 1 _ rfl #[(0, .agg (t1 (tn ys k) (tc ys k) (tf ys k)))] (by kernel_rfl) _ (run_oneT _ (tn ys k) (tc ys k) (tf ys k)) ?_) | (at_builtin; go_loud (refine wpList_append_own _ rfl _ _ 24 rfl w.heap.size 111 i0 (.agg #[.int .i64 0, .int .i16 0, .int .i16 0]) 3 16 Try.underlying24 hi hz0 hz1 hz2 rfl (by decide) _ (L).length _ rfl (O3.step (b0 _ _)) ⟨w3.heap.size, 0, none⟩ 1 1 (tll (tr3 ys k)) rfl rfl (one_cellsT w3 (tn ys k) (tc ys k) (tf ys k)) (tll_one _) (by unfold maxLen; omega) (by omega) (by simp; omega) ?_)))
            intro v' w5 hown hgrow _
            have O5 := OwnT.grown hown
            have hb5 : Below w.heap.size (w3.alloc (.cells (t1 (tn ys k) (tc ys k) (tf ys k)) 111)) w5 := Below.grownBy hgrow (by rw [World.size_alloc]; have := B3.out.size; omega) (fun q hq => (O3.block q hq).1)
            have B5 := Lib.hid ((bnew B3.out (.cells (t1 (tn ys k) (tc ys k) (tf ys k)) 111)).trans hb5)
            have A5 : At w5 G (tC xs) T := (A3.alloc (.cells (t1 (tn ys k) (tc ys k) (tf ys k)) 111)).keepF hgrow (fun q hq => (HG.out q ((O3.block q hq).1)).1)
            have C5 : At w5 G2 (tC ys) T2 := (C3.alloc (.cells (t1 (tn ys k) (tc ys k) (tf ys k)) 111)).keepF hgrow (fun q hq => (HG.out q ((O3.block q hq).1)).2)
            clear hown hgrow hb5
            go_wp2_with fail
            exact ⟨⟨i, k + 1, L ++ [tr3 ys k], by omega, by omega, rfl, by go_num, hL2, O5, A5, C5, B5⟩, by simp [intOf]; omega⟩
          · obtain rfl : k = n2 := by omega
            have hL2 : L = join xs ys := by
              have h1 := hL.out
              rw [jEnd (by rw [← HN.out]; exact Nat.le_refl _) (by rw [← HN2.out]; exact Nat.le_refl _), List.append_nil] at h1
              exact h1
            by_cases q : L.length ≤ 96
            · have q' : ¬ (96 : Int) < (L.length : Int) := by omega
              have hv := Lib.hid (HV.out.1 (by rw [← hL2]; exact q))
              rw [← hL2] at hv
              clear hL hL2
              go_wp2_with fail
              go_ret2
              exact ⟨⟨_, by rw [hv.out]; rfl, by rw [hv.out]; exact O1⟩, B1.out⟩
            · have q' : (96 : Int) < (L.length : Int) := by omega
              have hv := Lib.hid (HV.out.2 (by rw [← hL2]; exact q))
              clear hL hL2
              go_wp2_with (((with_reducible refine is_bslice 24 0 _ rfl ?_); refine wpList_bslice rfl 24 0 _ rfl #[] (by simp) _ (run_noT _) ?_))
              go_ret2
              exact ⟨⟨_, by rw [hv.out]; rfl, by rw [hv.out]; exact OwnT.empty rfl B1.out.size⟩, bnew B1.out _⟩

end Go.Proofs.Ytlffcpoooaoneaa
