/-
  CONTRACTS: GreenIns, the model.
-/
import Derived.Test.YtboahhipobcabaaGreatGrI
import Derived.Test.YtboahhipobcabaaGreatG20
namespace Go.Proofs.YtboahhipobcabaaGreat
open Go Go.ChangeShapes Go.WideShapes Go.ChangeAt Go.RowKit
set_option maxRecDepth 100000

set_option maxHeartbeats 1000000 in
theorem l06Joint_own (T : Tn) (gt gr gf gj gp : Nat) (x : Int) (hN : TnN T) (hB : TnB T) (w : World) (hA : At w gt (tnR T (slN gr T.rs.length) (slN gf T.fs.length) (slN gj T.js.length) (slN gp T.ps.length)) 37) (hT : TOwn w gr gf gj gp T) :
    Calls Tryz.prog 25 #[.pointer (some ⟨gt, 0, none⟩), .int .i64 x] w fun e w' => e = .returned (.int .i64 (jcT T x)) ∧ Below w.heap.size w w' := by
  have KV := l06Ok_own T gt gr gf gj gp hN hB w hA hT
  rw [valid_same] at KV
  have A0 : At w gt (tnC (.slice (some ⟨gr, 0, none⟩) T.rs.length T.rs.length) (.slice (some ⟨gf, 0, none⟩) T.fs.length T.fs.length) (.slice (some ⟨gj, 0, none⟩) T.js.length T.js.length) (.slice (some ⟨gp, 0, none⟩) T.ps.length T.ps.length) T.tk T.ca T.we) 37 := hA
  have hnj := hN.j
  have s1 : IntKind.i64.wrap ((T.js.length : Int) - 1) = (T.js.length : Int) - 1 := IntWalk.i64_in _ (by omega)
  have KX := fun w' => l00In_b x 0 ((T.js.length : Int) - 1) w'
  rw [show inB 0 ((T.js.length : Int) - 1) x = ixB T.js.length x from by
    unfold inB ixB
    exact decide_eq_decide.2 ⟨fun h => ⟨h.1, by omega⟩, fun h => ⟨h.1, by omega⟩⟩] at KX
  unfold jcT
  clear hT hA
  cases hv : validT T
  · rw [hv] at KV
    go_enter Tryz.func25, Tryz.ntmps25
    go_wp2_with fail
    refine KV.mono ?_
    rintro e w1 ⟨rfl, hb1⟩
    go_wp2_with fail
    go_ret
    exact ⟨rfl, hb1⟩
  · rw [hv] at KV
    cases hx : ixB T.js.length x <;> rw [hx] at KX
    all_goals
      go_enter Tryz.func25, Tryz.ntmps25
      go_wp2_with fail
      refine KV.mono ?_
      rintro e w1 ⟨rfl, hb1⟩
      have A1 := A0.step hb1
      have B1 := Lib.hid hb1
      clear A0 hb1 KV
      go_wp2_with (((with_reducible refine is_load 34 _ rfl ?_); refine wpList_load_cell rfl 34 _ rfl _ 2 rfl (tnC (.slice (some ⟨gr, 0, none⟩) T.rs.length T.rs.length) (.slice (some ⟨gf, 0, none⟩) T.fs.length T.fs.length) (.slice (some ⟨gj, 0, none⟩) T.js.length T.js.length) (.slice (some ⟨gp, 0, none⟩) T.ps.length T.ps.length) T.tk T.ca T.we) _ (by with_reducible assumption) _ Tryz.underlying34 rfl (.slice (some ⟨gj, 0, none⟩) T.js.length T.js.length) (tnC_2 _ _ _ _ _ _ _) ?_))
      refine (KX _).mono ?_
      rintro e w2 ⟨rfl, m2, rfl⟩
      go_wp2_with fail
      go_ret
      exact ⟨rfl, bdrew B1.out _⟩

set_option maxHeartbeats 4000000 in
theorem l06Green_at (T : Tn) (gt gr gf gj gp : Nat) (hN : TnN T) (hB : TnB T) (w : World) (hA : At w gt (tnR T (slN gr T.rs.length) (slN gf T.fs.length) (slN gj T.js.length) (slN gp T.ps.length)) 37) (hT : TOwn w gr gf gj gp T) (k : Nat) (hk : k < T.js.length) (hF : JF T (fe zJ T.js k)) :
    Calls Tryz.prog 26 #[.pointer (some ⟨gt, 0, none⟩), .pointer (some ⟨gj, k * 25, none⟩)] w fun e w' => e = .returned (.agg (bl (goJ T k))) ∧ Below w.heap.size w w' := by
  obtain ⟨ys, hyl, hJ, hJk⟩ := hT.j
  obtain ⟨g, h, hy, -, -, -, -⟩ := hJk k (by rw [hyl]; exact hk)
  have hp24 : (fm jrC ys)[k * 25 + 24]? = some (.int .i64 (fe zJ T.js k).p) := by
    rw [fm_get (d := zJr) jrC_size (by rw [hyl]; exact hk) (by omega), hy]
    exact jrC_24 _
  have hn22 : (fm jrC ys)[k * 25 + 22]? = some (.slice (some ⟨g, 0, none⟩) (fe zJ T.js k).ns.length (fe zJ T.js k).ns.length) := by
    rw [fm_get (d := zJr) jrC_size (by rw [hyl]; exact hk) (by omega), hy]
    exact jrC_22 _
  have hg8 := grJ_len hB.hW hF
  have HG := Lib.hid (show goJ T k = cp4 (grJ T (fe zJ T.js k)) (fe zJ T.js k).ns.length from rfl)
  have A9 : At w gt (tnC (.slice (some ⟨gr, 0, none⟩) T.rs.length T.rs.length) (.slice (some ⟨gf, 0, none⟩) T.fs.length T.fs.length) (.slice (some ⟨gj, 0, none⟩) T.js.length T.js.length) (.slice (some ⟨gp, 0, none⟩) T.ps.length T.ps.length) T.tk T.ca T.we) 37 := hA
  obtain ⟨gs, hP, hPk⟩ := hT.p
  have hn4 := hF.h4
  have hnp := hN.p
  have htk := hF.ht
  have hjl := hJ.lt
  have hal := hA.lt
  generalize fm jrC ys = R at *
  have R0 := At.new w (#[.bool false, .bool false, .bool false, .bool false]) 30
  have O0 : At ((w.alloc (.cells (#[.bool false, .bool false, .bool false, .bool false]) 30)).alloc (.cells (#[.bool false, .bool false, .bool false, .bool false]) 30)) (w.heap.size + 1) (#[.bool false, .bool false, .bool false, .bool false]) 30 := At.last1 w _ _ _
  have O1 := O0.setRow (bl (noes 4))
  have R1 := (R0.alloc (.cells (#[.bool false, .bool false, .bool false, .bool false]) 30)).setRow_other (k := w.heap.size + 1) (by omega) (bl (noes 4))
  have B1 := Lib.hid (bset (bnew (b0 w (.cells (#[.bool false, .bool false, .bool false, .bool false]) 30)) (.cells (#[.bool false, .bool false, .bool false, .bool false]) 30)) (g := w.heap.size + 1) (by omega) (bl (noes 4)))
  have P1 : At ((((w.alloc (.cells (#[.bool false, .bool false, .bool false, .bool false]) 30)).alloc (.cells (#[.bool false, .bool false, .bool false, .bool false]) 30)).setRow (w.heap.size + 1) (bl (noes 4))).alloc (.cells (#[.bool false, .bool false, .bool false, .bool false, .bool false, .bool false, .bool false, .bool false]) 53)) (w.heap.size + 1 + 1) (#[.bool false, .bool false, .bool false, .bool false, .bool false, .bool false, .bool false, .bool false]) 53 := by
    have e := At.new (((w.alloc (.cells (#[.bool false, .bool false, .bool false, .bool false]) 30)).alloc (.cells (#[.bool false, .bool false, .bool false, .bool false]) 30)).setRow (w.heap.size + 1) (bl (noes 4))) (#[.bool false, .bool false, .bool false, .bool false, .bool false, .bool false, .bool false, .bool false]) 53
    have hz : ((((w.alloc (.cells (#[.bool false, .bool false, .bool false, .bool false]) 30)).alloc (.cells (#[.bool false, .bool false, .bool false, .bool false]) 30)).setRow (w.heap.size + 1) (bl (noes 4)))).heap.size = w.heap.size + 1 + 1 := by simp
    rwa [hz] at e
  have P2 := P1.setRow (bl [true, true, true, true, true, true, true, true])
  have R2 := (R1.alloc (.cells (#[.bool false, .bool false, .bool false, .bool false, .bool false, .bool false, .bool false, .bool false]) 53)).setRow_other (k := w.heap.size + 1 + 1) (by omega) (bl [true, true, true, true, true, true, true, true])
  have O2 := (O1.alloc (.cells (#[.bool false, .bool false, .bool false, .bool false, .bool false, .bool false, .bool false, .bool false]) 53)).setRow_other (k := w.heap.size + 1 + 1) (by omega) (bl [true, true, true, true, true, true, true, true])
  have B2 := Lib.hid (bset (bnew B1.out (.cells (#[.bool false, .bool false, .bool false, .bool false, .bool false, .bool false, .bool false, .bool false]) 53)) (g := w.heap.size + 1 + 1) (by omega) (bl [true, true, true, true, true, true, true, true]))
  have J2 := hJ.step B2.out
  have A2 := A9.step B2.out
  have hgj : gj ≠ w.heap.size + 1 := by omega
  generalize hpp : (fe zJ T.js k).p = p at *
  obtain ⟨n, hnn⟩ : ∃ n, n = (fe zJ T.js k).ns.length := ⟨_, rfl⟩
  rw [← hnn] at hn22 hn4 HG
  obtain ⟨gr_, hgr⟩ : ∃ x, x = grJ T (fe zJ T.js k) := ⟨_, rfl⟩
  rw [← hgr] at hg8 HG
  have HGR := Lib.hid hgr
  have hFp := hF.hp
  rw [hpp] at hFp
  clear hgr hnn hA hyl hJk hy hJ
  rcases hFp with hp | ⟨m, hp, hm, hok⟩
  · have hones : gr_ = [true, true, true, true, true, true, true, true] := by rw [HGR.out]; unfold grJ; rw [if_pos (by rw [hpp]; exact hp)]; rfl
    clear hF HGR hpp hT hP hPk A2 A9
    subst hp
    go_enter Tryz.func26, Tryz.ntmps26
    go_wp2_with (first | ((with_reducible refine is_bld 30 _ rfl ?_); refine wpList_bld rfl 30 _ rfl #[] (by kernel_rfl) (bl (noes 4)) (by kernel_rfl) ?_) | ((with_reducible refine is_bld 53 _ rfl ?_); refine wpList_bld rfl 53 _ rfl #[(0, .bool true), (1, .bool true), (2, .bool true), (3, .bool true), (4, .bool true), (5, .bool true), (6, .bool true), (7, .bool true)] (by kernel_rfl) (bl [true, true, true, true, true, true, true, true]) (by kernel_rfl) ?_) | ((with_reducible refine is_store 30 _ _ rfl ?_); refine wpList_store_at rfl 30 _ _ rfl _ rfl (bl (noes 4)) rfl (#[.bool false, .bool false, .bool false, .bool false]) _ (by with_reducible assumption) 4 (rfl) (rfl) (by kernel_rfl) (bl_one _) ?_) | ((with_reducible refine is_store 53 _ _ rfl ?_); refine wpList_store_at rfl 53 _ _ rfl _ rfl (bl [true, true, true, true, true, true, true, true]) rfl (#[.bool false, .bool false, .bool false, .bool false, .bool false, .bool false, .bool false, .bool false]) _ (by with_reducible assumption) 8 (rfl) (rfl) (by kernel_rfl) (bl_one _) ?_) | ((with_reducible refine is_load 2 _ rfl ?_); refine wpList_load_cell rfl 2 _ rfl _ (k * 25 + 24) rfl R _ (by with_reducible assumption) _ Tryz.underlying2 rfl (.int .i64 (-1)) hp24 ?_))
    generalize ((((w.alloc (.cells (#[.bool false, .bool false, .bool false, .bool false]) 30)).alloc (.cells (#[.bool false, .bool false, .bool false, .bool false]) 30)).setRow (w.heap.size + 1) (bl (noes 4))).alloc (.cells (#[.bool false, .bool false, .bool false, .bool false, .bool false, .bool false, .bool false, .bool false]) 53)).setRow (w.heap.size + 1 + 1) (bl [true, true, true, true, true, true, true, true]) = w4 at *
    have R4 := R2
    have O4 := O2
    have P4 : At w4 (w.heap.size + 1 + 1) (bl gr_) 53 := by rw [hones]; exact P2
    have J4 := J2
    have B4_ := B2
    clear R0 R1 R2 O0 O1 O2 P1 P2 J2 B1 B2 hones
    go_loopw [8] (fun i wr => ∃ m : Nat, m ≤ n ∧ i = .int .i64 (m : Int) ∧ At wr (w.heap.size + 1) (bl (cp4 gr_ m)) 30 ∧ Hid (ExG (w.heap.size + 1) w4 wr)) (fun i _ => n - (intOf i).toNat)
    case atStart => exact ⟨0, by omega, rfl, by rw [cp4_zero]; exact O4, Lib.hid (ExG.refl _ _)⟩
    case round =>
      obtain ⟨m, hm, rfl, O5, X5⟩ := hrel
      have J5 := X5.out.at J4 hgj
      by_cases hlt : m < n
      · have s2 : IntKind.i64.wrap ((m : Int) + 1) = (m : Int) + 1 := IntWalk.i64_in _ (by omega)
        have kd : (m : Int) < (n : Int) := by omega
        have P5 := X5.out.at P4 (by omega)
        have dg := bl_get (bs := gr_) (k := m) (by rw [hg8]; omega)
        have hO := cp4_len hg8 (k := m) (by omega)
        have hO4 : (bl (cp4 gr_ m)).size = 4 := by rw [bl_size, hO]
        have hset : (bl (cp4 gr_ m)).setIfInBounds m (.bool (bn gr_ m)) = bl (cp4 gr_ (m + 1)) := by rw [bl_set, cp4_set hg8 (by omega)]
        have O6 := O5.setRow (bl (cp4 gr_ (m + 1)))
        have X6 := Lib.hid (X5.out.set (bl (cp4 gr_ (m + 1))))
        generalize bn gr_ m = bv at *
        go_wp2_with (first | ((with_reducible refine is_load 71 _ rfl ?_); refine wpList_load_cell rfl 71 _ rfl _ (k * 25 + 22) rfl R _ (by with_reducible assumption) _ Tryz.underlying71 rfl (.slice (some ⟨g, 0, none⟩) n n) hn22 ?_) | ((with_reducible refine is_load 4 _ rfl ?_); refine wpList_load_cell rfl 4 _ rfl _ m rfl (bl gr_) _ (by with_reducible assumption) _ Tryz.underlying4 rfl (.bool bv) dg ?_) | ((with_reducible refine is_store 4 _ _ rfl ?_); refine wpList_store_cell rfl 4 _ _ rfl _ m rfl (.bool bv) rfl (bl (cp4 gr_ m)) _ (by with_reducible assumption) (by rw [hO4]; omega) (by kernel_rfl) rfl (bl (cp4 gr_ (m + 1))) hset ?_))
        exact ⟨⟨m + 1, by omega, by go_num, O6, X6⟩, by simp [intOf]; omega⟩
      · obtain rfl : n = m := by omega
        have R5 := X5.out.at R4 (by omega)
        have B5 := Lib.hid (X5.out.below B4_.out (by omega) (Nat.le_refl _) (Nat.le_refl _))
        have hO := cp4_len hg8 (k := n) (by omega)
        obtain ⟨ans, hans⟩ : ∃ x, x = cp4 gr_ n := ⟨_, rfl⟩
        have HA := Lib.hid hans
        rw [← hans] at O5 hO
        have hs4 : (bl ans).size = 4 := by rw [bl_size, hO]
        have R6 := R5.setRow (bl ans)
        have B6 := Lib.hid (bset B5.out (g := w.heap.size) (Nat.le_refl _) (bl ans))
        clear hans
        go_wp2_with (first | ((with_reducible refine is_load 71 _ rfl ?_); refine wpList_load_cell rfl 71 _ rfl _ (k * 25 + 22) rfl R _ (by with_reducible assumption) _ Tryz.underlying71 rfl (.slice (some ⟨g, 0, none⟩) n n) hn22 ?_) | ((with_reducible refine is_load 30 _ rfl ?_); refine wpList_load_at rfl 30 _ rfl _ rfl (bl ans) _ (by with_reducible assumption) 4 (hs4) _ Tryz.underlying30 rfl (by kernel_rfl) ?_) | ((with_reducible refine is_store 30 _ _ rfl ?_); refine wpList_store_at rfl 30 _ _ rfl _ rfl (bl ans) rfl (#[.bool false, .bool false, .bool false, .bool false]) _ (by with_reducible assumption) 4 (hs4) (rfl) (by kernel_rfl) (bl_one _) ?_))
        exact bodyPost_ret (v := .agg (bl ans)) (results_at (p := 4) (ty := 30) rfl _ _ _ (bl ans) _ rfl R6 _ Tryz.underlying30 rfl 4 hs4 (by kernel_rfl)) rfl ⟨by rw [HA.out, HG.out], B6.out⟩
  · have hgr : gr_ = (atS (pB T.ps m) (pS T.ps m) ((T.tk - pO T.ps m) % cyc (pS T.ps m) (pB T.ps m))).1 := by rw [HGR.out]; unfold grJ; rw [if_neg (by rw [hpp]; omega), hpp, hp, Int.toNat_natCast]
    obtain ⟨hl, hb, ht, hc, ho⟩ := okP_parts hok
    have hcr : 0 < cyc (pS T.ps m) (pB T.ps m) ∧ cyc (pS T.ps m) (pB T.ps m) ≤ 240 := by omega
    have hr1 := Int.emod_nonneg (T.tk - pO T.ps m) (show cyc (pS T.ps m) (pB T.ps m) ≠ 0 by omega)
    have hr2 := Int.emod_lt_of_pos (T.tk - pO T.ps m) hcr.1
    have KP := fun w' (hb' : Below w.heap.size w w') => l04PlaceO_any gp (m * 3) (gs m) (pS T.ps m) (pB T.ps m) (pO T.ps m) (hB.hW m hm) _ hok T.tk (by omega) w' (PlAt.of_row (hP.step hb') hm) ((hPk m hm).1.step hb')
    have KA := fun w' (hb' : Below w.heap.size w w') => l04AtO_any gp (m * 3) (gs m) (pS T.ps m) (pB T.ps m) (pO T.ps m) (hB.hW m hm) _ hl.2 hb ht ((T.tk - pO T.ps m) % cyc (pS T.ps m) (pB T.ps m)) (by omega) w' (PlAt.of_row (hP.step hb') hm) ((hPk m hm).1.step hb')
    rw [← hgr] at KA
    generalize (atS (pB T.ps m) (pS T.ps m) ((T.tk - pO T.ps m) % cyc (pS T.ps m) (pB T.ps m))).2 = lf at *
    generalize (T.tk - pO T.ps m) % cyc (pS T.ps m) (pB T.ps m) = c0 at *
    generalize T.ps.length = np at *
    have kd : (m : Int) < (np : Int) := by omega
    clear hF HGR hpp hT hP hPk A9 hgr hl hb ht hc ho hcr hr1 hr2 hok
    subst hp
    go_enter Tryz.func26, Tryz.ntmps26
    go_wp2_with (first | ((with_reducible refine is_bld 30 _ rfl ?_); refine wpList_bld rfl 30 _ rfl #[] (by kernel_rfl) (bl (noes 4)) (by kernel_rfl) ?_) | ((with_reducible refine is_bld 53 _ rfl ?_); refine wpList_bld rfl 53 _ rfl #[(0, .bool true), (1, .bool true), (2, .bool true), (3, .bool true), (4, .bool true), (5, .bool true), (6, .bool true), (7, .bool true)] (by kernel_rfl) (bl [true, true, true, true, true, true, true, true]) (by kernel_rfl) ?_) | ((with_reducible refine is_store 30 _ _ rfl ?_); refine wpList_store_at rfl 30 _ _ rfl _ rfl (bl (noes 4)) rfl (#[.bool false, .bool false, .bool false, .bool false]) _ (by with_reducible assumption) 4 (rfl) (rfl) (by kernel_rfl) (bl_one _) ?_) | ((with_reducible refine is_store 53 _ _ rfl ?_); refine wpList_store_at rfl 53 _ _ rfl _ rfl (bl [true, true, true, true, true, true, true, true]) rfl (#[.bool false, .bool false, .bool false, .bool false, .bool false, .bool false, .bool false, .bool false]) _ (by with_reducible assumption) 8 (rfl) (rfl) (by kernel_rfl) (bl_one _) ?_) | ((with_reducible refine is_load 2 _ rfl ?_); refine wpList_load_cell rfl 2 _ rfl _ (k * 25 + 24) rfl R _ (by with_reducible assumption) _ Tryz.underlying2 rfl (.int .i64 (m : Int)) hp24 ?_))
    generalize ((((w.alloc (.cells (#[.bool false, .bool false, .bool false, .bool false]) 30)).alloc (.cells (#[.bool false, .bool false, .bool false, .bool false]) 30)).setRow (w.heap.size + 1) (bl (noes 4))).alloc (.cells (#[.bool false, .bool false, .bool false, .bool false, .bool false, .bool false, .bool false, .bool false]) 53)).setRow (w.heap.size + 1 + 1) (bl [true, true, true, true, true, true, true, true]) = w3 at *
    clear R0 R1 O0 O1 P1 B1
    refine wp_region_cb (by kernel_rfl) (by kernel_rfl) ?_
    have hC := Cb.const w3
    repeat (first
      | go_big_quiet_skip
      | (go_big_quiet_want; first
        | (refine q_oneI 35 _ rfl _ Tryz.underlying35 rfl 3 rfl A2 _ (tnC_3 _ _ _ _ _ _ _) ?_; go_simp; go_big_quiet_on)
        | (refine q_oneI 2 _ rfl _ Tryz.underlying2 rfl (k * 25 + 24) rfl J2 _ hp24 ?_; go_simp; go_big_quiet_on)
        | (go_big_quiet_op; go_big_quiet_on)))
    refine wpQuiet_nil ?_
    intro w5 hw5
    have R3 := R2.step hw5
    have O3 := O2.step hw5
    have P3 := P2.step hw5
    have J3 := J2.step hw5
    have A3 := A2.step hw5
    have B3 := Lib.hid (bthen B2.out hw5)
    clear hC R2 O2 P2 J2 A2 B2 hw5
    go_wp2_with (((with_reducible refine is_load 2 _ rfl ?_); refine wpList_load_cell rfl 2 _ rfl _ 4 rfl (tnC (.slice (some ⟨gr, 0, none⟩) T.rs.length T.rs.length) (.slice (some ⟨gf, 0, none⟩) T.fs.length T.fs.length) (.slice (some ⟨gj, 0, none⟩) T.js.length T.js.length) (.slice (some ⟨gp, 0, none⟩) np np) T.tk T.ca T.we) _ (by with_reducible assumption) _ Tryz.underlying2 rfl (.int .i64 T.tk) (tnC_4 _ _ _ _ _ _ _) ?_))
    refine (KP _ B3.out).mono ?_
    rintro e w6 ⟨rfl, hb6⟩
    have R6 := R3.step hb6
    have O6 := O3.step hb6
    have P6 := P3.step hb6
    have J6 := J3.step hb6
    have B6 := Lib.hid (bthen B3.out hb6)
    clear R3 O3 P3 J3 A3 B3 hb6
    go_wp2_with fail
    refine (KA _ B6.out).mono ?_
    rintro e w7 ⟨rfl, hb7⟩
    have R7 := R6.step hb7
    have O7 := O6.step hb7
    have P7 := P6.step hb7
    have J7 := J6.step hb7
    have B7 := Lib.hid (bthen B6.out hb7)
    clear R6 O6 P6 J6 B6 hb7 KP KA
    have hsG : (bl gr_).size = 8 := by rw [bl_size, hg8]
    have P4 := P7.setRow (bl gr_)
    have R4 := R7.setRow_other (k := w.heap.size + 1 + 1) (by omega) (bl gr_)
    have O4 := O7.setRow_other (k := w.heap.size + 1 + 1) (by omega) (bl gr_)
    have J4 := J7.setRow_other (k := w.heap.size + 1 + 1) (by omega) (bl gr_)
    have B4_ := Lib.hid (bset B7.out (g := w.heap.size + 1 + 1) (by omega) (bl gr_))
    go_wp2_with (((with_reducible refine is_store 53 _ _ rfl ?_); refine wpList_store_at rfl 53 _ _ rfl _ rfl (bl gr_) rfl (bl [true, true, true, true, true, true, true, true]) _ (by with_reducible assumption) 8 (hsG) (rfl) (by kernel_rfl) (bl_one _) ?_))
    generalize w7.setRow (w.heap.size + 1 + 1) (bl gr_) = w4 at *
    clear R7 O7 P7 J7 B7
    go_loopw [8] (fun i wr => ∃ m : Nat, m ≤ n ∧ i = .int .i64 (m : Int) ∧ At wr (w.heap.size + 1) (bl (cp4 gr_ m)) 30 ∧ Hid (ExG (w.heap.size + 1) w4 wr)) (fun i _ => n - (intOf i).toNat)
    case atStart => exact ⟨0, by omega, rfl, by rw [cp4_zero]; exact O4, Lib.hid (ExG.refl _ _)⟩
    case round =>
      obtain ⟨m, hm, rfl, O5, X5⟩ := hrel
      have J5 := X5.out.at J4 hgj
      by_cases hlt : m < n
      · have s2 : IntKind.i64.wrap ((m : Int) + 1) = (m : Int) + 1 := IntWalk.i64_in _ (by omega)
        have kd : (m : Int) < (n : Int) := by omega
        have P5 := X5.out.at P4 (by omega)
        have dg := bl_get (bs := gr_) (k := m) (by rw [hg8]; omega)
        have hO := cp4_len hg8 (k := m) (by omega)
        have hO4 : (bl (cp4 gr_ m)).size = 4 := by rw [bl_size, hO]
        have hset : (bl (cp4 gr_ m)).setIfInBounds m (.bool (bn gr_ m)) = bl (cp4 gr_ (m + 1)) := by rw [bl_set, cp4_set hg8 (by omega)]
        have O6 := O5.setRow (bl (cp4 gr_ (m + 1)))
        have X6 := Lib.hid (X5.out.set (bl (cp4 gr_ (m + 1))))
        generalize bn gr_ m = bv at *
        go_wp2_with (first | ((with_reducible refine is_load 71 _ rfl ?_); refine wpList_load_cell rfl 71 _ rfl _ (k * 25 + 22) rfl R _ (by with_reducible assumption) _ Tryz.underlying71 rfl (.slice (some ⟨g, 0, none⟩) n n) hn22 ?_) | ((with_reducible refine is_load 4 _ rfl ?_); refine wpList_load_cell rfl 4 _ rfl _ m rfl (bl gr_) _ (by with_reducible assumption) _ Tryz.underlying4 rfl (.bool bv) dg ?_) | ((with_reducible refine is_store 4 _ _ rfl ?_); refine wpList_store_cell rfl 4 _ _ rfl _ m rfl (.bool bv) rfl (bl (cp4 gr_ m)) _ (by with_reducible assumption) (by rw [hO4]; omega) (by kernel_rfl) rfl (bl (cp4 gr_ (m + 1))) hset ?_))
        exact ⟨⟨m + 1, by omega, by go_num, O6, X6⟩, by simp [intOf]; omega⟩
      · obtain rfl : n = m := by omega
        have R5 := X5.out.at R4 (by omega)
        have B5 := Lib.hid (X5.out.below B4_.out (by omega) (Nat.le_refl _) (Nat.le_refl _))
        have hO := cp4_len hg8 (k := n) (by omega)
        obtain ⟨ans, hans⟩ : ∃ x, x = cp4 gr_ n := ⟨_, rfl⟩
        have HA := Lib.hid hans
        rw [← hans] at O5 hO
        have hs4 : (bl ans).size = 4 := by rw [bl_size, hO]
        have R6 := R5.setRow (bl ans)
        have B6 := Lib.hid (bset B5.out (g := w.heap.size) (Nat.le_refl _) (bl ans))
        clear hans
        go_wp2_with (first | ((with_reducible refine is_load 71 _ rfl ?_); refine wpList_load_cell rfl 71 _ rfl _ (k * 25 + 22) rfl R _ (by with_reducible assumption) _ Tryz.underlying71 rfl (.slice (some ⟨g, 0, none⟩) n n) hn22 ?_) | ((with_reducible refine is_load 30 _ rfl ?_); refine wpList_load_at rfl 30 _ rfl _ rfl (bl ans) _ (by with_reducible assumption) 4 (hs4) _ Tryz.underlying30 rfl (by kernel_rfl) ?_) | ((with_reducible refine is_store 30 _ _ rfl ?_); refine wpList_store_at rfl 30 _ _ rfl _ rfl (bl ans) rfl (#[.bool false, .bool false, .bool false, .bool false]) _ (by with_reducible assumption) 4 (hs4) (rfl) (by kernel_rfl) (bl_one _) ?_))
        exact bodyPost_ret (v := .agg (bl ans)) (results_at (p := 4) (ty := 30) rfl _ _ _ (bl ans) _ rfl R6 _ Tryz.underlying30 rfl 4 hs4 (by kernel_rfl)) rfl ⟨by rw [HA.out, HG.out], B6.out⟩

set_option maxHeartbeats 2000000 in
theorem sGreenIns_own (T : Tn) (gr gf gj gp : Nat) (x : Int) (hN : TnN T) (hB : TnB T) (w : World) (hT : TOwn w gr gf gj gp T) :
    Calls Tryz.prog 6 #[.agg (tnR T (slN gr T.rs.length) (slN gf T.fs.length) (slN gj T.js.length) (slN gp T.ps.length)), .int .i64 x] w fun e w' => e = .returned (.tuple #[.agg (bl (vGI T x).1), .int .i64 (vGI T x).2]) ∧ Below w.heap.size w w' := by
  show Calls Tryz.prog 6 #[.agg (tnC (.slice (some ⟨gr, 0, none⟩) T.rs.length T.rs.length) (.slice (some ⟨gf, 0, none⟩) T.fs.length T.fs.length) (.slice (some ⟨gj, 0, none⟩) T.js.length T.js.length) (.slice (some ⟨gp, 0, none⟩) T.ps.length T.ps.length) T.tk T.ca T.we), .int .i64 x] w _
  have A0 : At ((w.alloc (.cells (tnC (.slice (some ⟨gr, 0, none⟩) T.rs.length T.rs.length) (.slice (some ⟨gf, 0, none⟩) T.fs.length T.fs.length) (.slice (some ⟨gj, 0, none⟩) T.js.length T.js.length) (.slice (some ⟨gp, 0, none⟩) T.ps.length T.ps.length) T.tk T.ca T.we) 37)).alloc (.cells (#[.bool false, .bool false, .bool false, .bool false]) 30)) w.heap.size (tnC (.slice (some ⟨gr, 0, none⟩) T.rs.length T.rs.length) (.slice (some ⟨gf, 0, none⟩) T.fs.length T.fs.length) (.slice (some ⟨gj, 0, none⟩) T.js.length T.js.length) (.slice (some ⟨gp, 0, none⟩) T.ps.length T.ps.length) T.tk T.ca T.we) 37 := (At.new w _ _).alloc _
  have R0 : At ((w.alloc (.cells (tnC (.slice (some ⟨gr, 0, none⟩) T.rs.length T.rs.length) (.slice (some ⟨gf, 0, none⟩) T.fs.length T.fs.length) (.slice (some ⟨gj, 0, none⟩) T.js.length T.js.length) (.slice (some ⟨gp, 0, none⟩) T.ps.length T.ps.length) T.tk T.ca T.we) 37)).alloc (.cells (#[.bool false, .bool false, .bool false, .bool false]) 30)) (w.heap.size + 1) (#[.bool false, .bool false, .bool false, .bool false]) 30 := At.last1 w _ _ _
  have BB : Below w.heap.size w ((w.alloc (.cells (tnC (.slice (some ⟨gr, 0, none⟩) T.rs.length T.rs.length) (.slice (some ⟨gf, 0, none⟩) T.fs.length T.fs.length) (.slice (some ⟨gj, 0, none⟩) T.js.length T.js.length) (.slice (some ⟨gp, 0, none⟩) T.ps.length T.ps.length) T.tk T.ca T.we) 37)).alloc (.cells (#[.bool false, .bool false, .bool false, .bool false]) 30)) := bnew (b0 w (.cells (tnC (.slice (some ⟨gr, 0, none⟩) T.rs.length T.rs.length) (.slice (some ⟨gf, 0, none⟩) T.fs.length T.fs.length) (.slice (some ⟨gj, 0, none⟩) T.js.length T.js.length) (.slice (some ⟨gp, 0, none⟩) T.ps.length T.ps.length) T.tk T.ca T.we) 37)) (.cells (#[.bool false, .bool false, .bool false, .bool false]) 30)
  have B0 := Lib.hid BB
  have KR := l06Joint_own T w.heap.size gr gf gj gp x hN hB ((w.alloc (.cells (tnC (.slice (some ⟨gr, 0, none⟩) T.rs.length T.rs.length) (.slice (some ⟨gf, 0, none⟩) T.fs.length T.fs.length) (.slice (some ⟨gj, 0, none⟩) T.js.length T.js.length) (.slice (some ⟨gp, 0, none⟩) T.ps.length T.ps.length) T.tk T.ca T.we) 37)).alloc (.cells (#[.bool false, .bool false, .bool false, .bool false]) 30)) A0 (hT.step BB)
  by_cases hc : jcT T x = 0
  · have hv : validT T = true := by
      unfold jcT at hc
      cases h : validT T
      · rw [h] at hc; simp at hc
      · rfl
    have hx : ixB T.js.length x = true := by
      unfold jcT at hc
      rw [hv] at hc
      cases h : ixB T.js.length x
      · rw [h] at hc; simp at hc
      · rfl
    unfold ixB at hx
    simp only [decide_eq_true_eq] at hx
    obtain ⟨k, rfl⟩ : ∃ k : Nat, x = (k : Int) := ⟨x.toNat, by omega⟩
    have hk : k < T.js.length := by omega
    have kd : (k : Int) < (T.js.length : Int) := by omega
    have HV := Lib.hid (show vGI T (k : Int) = (goJ T k, 0) from by unfold vGI; rw [if_pos hc, Int.toNat_natCast])
    rw [hc] at KR
    have hF := JF.of hv hk
    have hga : (goJ T k).length = 4 := cp4_len (grJ_len hB.hW hF) hF.h4
    have KG := fun w' (hb : Below ((w.alloc (.cells (tnC (.slice (some ⟨gr, 0, none⟩) T.rs.length T.rs.length) (.slice (some ⟨gf, 0, none⟩) T.fs.length T.fs.length) (.slice (some ⟨gj, 0, none⟩) T.js.length T.js.length) (.slice (some ⟨gp, 0, none⟩) T.ps.length T.ps.length) T.tk T.ca T.we) 37)).alloc (.cells (#[.bool false, .bool false, .bool false, .bool false]) 30)).heap.size ((w.alloc (.cells (tnC (.slice (some ⟨gr, 0, none⟩) T.rs.length T.rs.length) (.slice (some ⟨gf, 0, none⟩) T.fs.length T.fs.length) (.slice (some ⟨gj, 0, none⟩) T.js.length T.js.length) (.slice (some ⟨gp, 0, none⟩) T.ps.length T.ps.length) T.tk T.ca T.we) 37)).alloc (.cells (#[.bool false, .bool false, .bool false, .bool false]) 30)) w') => l06Green_at T w.heap.size gr gf gj gp hN hB w' (A0.step hb) ((hT.step BB).step hb) k hk hF
    obtain ⟨ans, hans⟩ : ∃ a, a = goJ T k := ⟨_, rfl⟩
    rw [← hans] at HV KG hga
    have hs4 : (bl ans).size = 4 := by rw [bl_size, hga]
    clear hans hF hT hB hN hc hv hx BB
    go_enter Tryz.func6, Tryz.ntmps6
    go_wp2_with fail
    refine KR.mono ?_
    rintro e w1 ⟨rfl, hb1⟩
    have A1 := A0.step hb1
    have R1 := R0.step hb1
    have B1 := Lib.hid (bthen B0.out hb1)
    have KG1 := KG w1 hb1
    clear A0 R0 B0 hb1 KR KG
    go_wp2_with (((with_reducible refine is_load 34 _ rfl ?_); refine wpList_load_cell rfl 34 _ rfl _ 2 rfl (tnC (.slice (some ⟨gr, 0, none⟩) T.rs.length T.rs.length) (.slice (some ⟨gf, 0, none⟩) T.fs.length T.fs.length) (.slice (some ⟨gj, 0, none⟩) T.js.length T.js.length) (.slice (some ⟨gp, 0, none⟩) T.ps.length T.ps.length) T.tk T.ca T.we) _ (by with_reducible assumption) _ Tryz.underlying34 rfl (.slice (some ⟨gj, 0, none⟩) T.js.length T.js.length) (tnC_2 _ _ _ _ _ _ _) ?_))
    refine KG1.mono ?_
    rintro e w2 ⟨rfl, hb2⟩
    have R2 := R1.step hb2
    have B2 := Lib.hid (bthen B1.out hb2)
    have R3 := R2.setRow (bl ans)
    have B3 := Lib.hid (bset B2.out (g := w.heap.size + 1) (by omega) (bl ans))
    clear A1 R1 B1 KG1 hb2
    go_wp2_with (((with_reducible refine is_store 30 _ _ rfl ?_); refine wpList_store_at rfl 30 _ _ rfl _ rfl (bl ans) rfl (#[.bool false, .bool false, .bool false, .bool false]) _ (by with_reducible assumption) 4 (hs4) (rfl) (by kernel_rfl) (bl_one _) ?_))
    exact bodyPost_ret (v := .tuple #[.agg (bl ans), .int .i64 0]) (results_at_tmp (p := 4) (ty := 30) rfl _ _ _ (bl ans) _ (.int .i64 0) rfl rfl R3 _ Tryz.underlying30 rfl 4 hs4 (by kernel_rfl)) rfl ⟨by rw [HV.out], B3.out⟩
  · obtain ⟨cd, hcd⟩ : ∃ c, c = jcT T x := ⟨_, rfl⟩
    have HV := Lib.hid (show vGI T x = (noes 4, cd) from by unfold vGI; rw [if_neg hc, hcd])
    rw [← hcd] at KR hc
    have hb1 : (cd != 0) = true := by simpa using hc
    have hb2 : (cd == 0) = false := by simpa using hc
    clear hcd hT BB
    go_enter Tryz.func6, Tryz.ntmps6
    go_wp2_with fail
    refine KR.mono ?_
    rintro e w1 ⟨rfl, hb1⟩
    have R1 := R0.step hb1
    have B1 := Lib.hid (bthen B0.out hb1)
    clear A0 R0 B0 hb1 KR
    have R2 := R1.setRow (bl (noes 4))
    have B2 := Lib.hid (bset B1.out (g := w.heap.size + 1) (by omega) (bl (noes 4)))
    go_wp2_with (first | ((with_reducible refine is_bld 30 _ rfl ?_); refine wpList_bld rfl 30 _ rfl #[] (by kernel_rfl) (bl (noes 4)) (by kernel_rfl) ?_) | ((with_reducible refine is_store 30 _ _ rfl ?_); refine wpList_store_at rfl 30 _ _ rfl _ rfl (bl (noes 4)) rfl (#[.bool false, .bool false, .bool false, .bool false]) _ (by with_reducible assumption) 4 (rfl) (rfl) (by kernel_rfl) (bl_one _) ?_))
    exact bodyPost_ret (v := .tuple #[.agg (bl (noes 4)), .int .i64 cd]) (results_at_tmp (p := 4) (ty := 30) rfl _ _ _ (bl (noes 4)) _ (.int .i64 cd) rfl rfl R2 _ Tryz.underlying30 rfl 4 rfl (by kernel_rfl)) rfl ⟨by rw [HV.out], B2.out⟩

end Go.Proofs.YtboahhipobcabaaGreat
