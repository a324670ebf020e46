/-
  CONTRACTS: steps that are told by lists of which the blocks may hold more than the slices, the program's.
-/
import Derived.Test.YtapnkkbkhifmeaaStepList
namespace Go.Proofs.Ytapnkkbkhifmeaa
open Go Go.RowKit Go.Shelf
attribute [local go_sem] Oper.semAt_some
set_option maxRecDepth 100000

set_option maxHeartbeats 1000000 in
theorem stepsZ_seq (cs : List Nat) (p b l : Nat) (ok : OkR cs p b l) (oo mm : Nat → Nat) (N : Nat) (hN : N ≤ 400) (ho : ∀ k, k < N → oo k < 2139095040) (hm : ∀ k, k < N → mm k < 2139095040) (g1 g2 g3 go gm ca cb : Nat) (co cm : Array Value) (To Tm : TypeId)
    (hco : ∀ k, k < N → co[k]? = some (.float .f32 (oo k))) (hcm : ∀ k, k < N → cm[k]? = some (.float .f32 (mm k))) (w : World) (Ar : At w g1 (rd cs p b l) 28) (Ao : At w g2 #[.slice (some ⟨go, 0, none⟩) N ca] 41) (Am : At w g3 #[.slice (some ⟨gm, 0, none⟩) N cb] 41) (Co : At w go co To) (Cm : At w gm cm Tm) :
    SeqB Fence.wide 2 Try.prog 54 #[.pointer (some ⟨g1, 0, none⟩), .pointer (some ⟨g2, 0, none⟩), .pointer (some ⟨g3, 0, none⟩)] (fun k => #[.agg (stepRow p b l cs oo mm k)]) N w := by
  intro l' J Jx W hW hJ hJx hY h0
  have HX := Lib.hid (And.intro hJ (And.intro hJx hY))
  have HO := Lib.hid (And.intro ho (And.intro hm (And.intro hco hcm)))
  clear hJ hJx hY ho hm hco hcm
  have hl := ok.len
  have sz1 := Ar.lt; have sz2 := Ao.lt; have sz3 := Am.lt; have sz4 := Co.lt; have sz5 := Cm.lt
  have hs := hW.size
  have A0 : At (W.alloc (.cells (rd (zeros 16) 0 0 0) 28)) g1 (rd cs p b l) 28 := (Ar.step hW).alloc _
  have O0 : At (W.alloc (.cells (rd (zeros 16) 0 0 0) 28)) g2 #[.slice (some ⟨go, 0, none⟩) N ca] 41 := (Ao.step hW).alloc _
  have M0 : At (W.alloc (.cells (rd (zeros 16) 0 0 0) 28)) g3 #[.slice (some ⟨gm, 0, none⟩) N cb] 41 := (Am.step hW).alloc _
  have P0 : At (W.alloc (.cells (rd (zeros 16) 0 0 0) 28)) go co To := (Co.step hW).alloc _
  have Q0 : At (W.alloc (.cells (rd (zeros 16) 0 0 0) 28)) gm cm Tm := (Cm.step hW).alloc _
  have N0 := At.new W (rd (zeros 16) 0 0 0) 28
  have B0 := b0 W (.cells (rd (zeros 16) 0 0 0) 28)
  have AW := Ar.step hW
  have SZ0 : (rd cs p b l).size = 19 := rd_size hl p b l
  have hA1 := A0.setRow_other (k := W.heap.size) (by omega) (rd cs p b l)
  have hO1 := O0.setRow_other (k := W.heap.size) (by omega) (rd cs p b l)
  have hM1 := M0.setRow_other (k := W.heap.size) (by omega) (rd cs p b l)
  have hP1 := P0.setRow_other (k := W.heap.size) (by omega) (rd cs p b l)
  have hQ1 := Q0.setRow_other (k := W.heap.size) (by omega) (rd cs p b l)
  have hN1 := N0.setRow (rd cs p b l)
  have hB1 := bset B0 (g := W.heap.size) (Nat.le_refl _) (rd cs p b l)
  have hJ1 := Lib.hid (HX.out.1 0 W _ h0 hB1)
  have BW := Lib.hid hW
  have HA := Lib.hid (And.intro Ao (And.intro Am (And.intro Co Cm)))
  have hBB := Lib.hid (hW.trans (hB1.mono hs))
  clear A0 O0 M0 P0 Q0 B0 Ar Ao Am Co Cm h0 hW hA1 hM1 hP1 hQ1 hB1
  refine callsIn_wide.2 ?_
  simp only [List.append_toArray, List.cons_append, List.nil_append]
  go_enter Try.func54, Try.ntmps54
  go_wp2_with (first
    | ((with_reducible refine is_load 28 (.tmp 1) rfl ?_); refine wpList_load_at rfl 28 (.tmp 1) rfl _ rfl (rd cs p b l) _ (by first | exact AW | exact AW.alloc _) 19 SZ0 _ Try.underlying28 rfl (by kernel_rfl) ?_)
    | ((with_reducible refine is_store 28 (.tmp 5) (.tmp 8) rfl ?_); refine wpList_store_at rfl 28 (.tmp 5) (.tmp 8) rfl _ rfl (rd cs p b l) rfl (rd (zeros 16) 0 0 0) _ N0 19 SZ0 (rd_size (zeros_len 16) _ _ _) (by kernel_rfl) (fl_one _) ?_; refine Hid.out ?_))
  refine Lib.hid ?_
  clear AW SZ0 N0
  rw [show (rd (zeros 16) 0 0 0 : Array Value) = #[.float .f32 0, .float .f32 0, .float .f32 0, .float .f32 0, .float .f32 0, .float .f32 0, .float .f32 0, .float .f32 0, .float .f32 0, .float .f32 0, .float .f32 0, .float .f32 0, .float .f32 0, .float .f32 0, .float .f32 0, .float .f32 0, .float .f32 0, .float .f32 0, .float .f32 0] from rfl] at hO1 hN1 hJ1 hBB
  generalize hw1 : (W.alloc (.cells #[.float .f32 0, .float .f32 0, .float .f32 0, .float .f32 0, .float .f32 0, .float .f32 0, .float .f32 0, .float .f32 0, .float .f32 0, .float .f32 0, .float .f32 0, .float .f32 0, .float .f32 0, .float .f32 0, .float .f32 0, .float .f32 0, .float .f32 0, .float .f32 0, .float .f32 0] 28)).setRow W.heap.size (rd cs p b l) = W1 at hO1 hN1 hJ1 hBB ⊢
  clear hw1
  have c2 := hO1.cell (k := 0) (v := .slice (some ⟨go, 0, none⟩) N ca) rfl
  go_wp2
  clear c2
  have J1' := hJ1
  have BB' := hBB
  go_loopw [11] (fun i wr => ∃ k : Nat, k ≤ N ∧ i = .int .i64 k ∧ Hid (J k wr) ∧ At wr W.heap.size (rd (itL p b cs oo mm k) p b l) 28 ∧ Hid (Below w.heap.size w wr)) (fun i _ => N - (intOf i).toNat)
  case atStart => exact ⟨0, by omega, rfl, J1', hN1, BB'⟩
  case round =>
    obtain ⟨k, hk, rfl, J4, N4, B4⟩ := hrel
    clear hO1 hN1 hJ1 hBB J1' BB'
    have O4 := HA.out.1.step B4.out
    have M4 := HA.out.2.1.step B4.out
    have P4 := HA.out.2.2.1.step B4.out
    have Q4 := HA.out.2.2.2.step B4.out
    by_cases hlt : k < N
    · have hki : (k : Int) < (N : Int) := by omega
      have hk0 : (0 : Int) ≤ (k : Int) := by omega
      have s2 : IntKind.i64.wrap ((k : Int) + 1) = (k : Int) + 1 := IntWalk.i64_in _ (by omega)
      have okk := itL_ok ok oo mm k
      have SK : (rd (itL p b cs oo mm k) p b l).size = 19 := rd_size okk.len p b l
      have SK1 : (rd (itL p b cs oo mm (k + 1)) p b l).size = 19 := rd_size (itL_ok ok oo mm (k + 1)).len p b l
      have SZ5 := stepRow_size ok oo mm k
      have ON5 := Lib.hid (stepRow_one p b l cs oo mm k)
      have xC := stepRow_after ok oo mm k
      have dco := HO.out.2.2.1 k hlt
      have dcm := HO.out.2.2.2 k hlt
      have d0o : (#[.slice (some ⟨go, 0, none⟩) N ca] : Array Value)[0]? = some (.slice (some ⟨go, 0, none⟩) N ca) := rfl
      have d0m : (#[.slice (some ⟨gm, 0, none⟩) N cb] : Array Value)[0]? = some (.slice (some ⟨gm, 0, none⟩) N cb) := rfl
      have KS : ∀ W, Calls Try.prog 55 #[.agg (rd (itL p b cs oo mm k) p b l), .float .f32 (oo k), .float .f32 (mm k)] W fun e w' => e = .returned (.agg (stepRow p b l cs oo mm k)) ∧ Below W.heap.size W w' := fun W => stepOf_any _ p b l okk (oo k) (mm k) (HO.out.1 k hlt) (HO.out.2.1 k hlt) W
      clear okk
      go_wp2
      refine wp_region_alloc (n := 11) (ia := 10) (d := 7) (T := 82) (ZR := #[.float .f32 0, .float .f32 0, .float .f32 0, .float .f32 0, .float .f32 0, .float .f32 0, .float .f32 0, .float .f32 0, .float .f32 0, .float .f32 0, .float .f32 0, .float .f32 0, .float .f32 0, .float .f32 0, .float .f32 0, .float .f32 0, .float .f32 0, .float .f32 0, .float .f32 0, .float .f32 0, .float .f32 0, .float .f32 0, .float .f32 0, .float .f32 0, .float .f32 0, .float .f32 0, .float .f32 0, .float .f32 0, .float .f32 0, .float .f32 0, .float .f32 0, .float .f32 0, .float .f32 0, .float .f32 0, .float .f32 0, .float .f32 0, .float .f32 0, .float .f32 0, .float .f32 0, .float .f32 0, .float .f32 0, .float .f32 0, .float .f32 0, .float .f32 0, .float .f32 0, .float .f32 0, .float .f32 0, .float .f32 0, .float .f32 0, .float .f32 0, .float .f32 0, .float .f32 0, .float .f32 0, .float .f32 0, .float .f32 0]) (by kernel_rfl) (by kernel_rfl) (by kernel_rfl) ⟨rfl, rfl, by decide, by kernel_rfl, by kernel_rfl, by kernel_rfl⟩ (fun ev w' => by kernel_rfl) ?_
      intro W9 hW9
      have N9 := N4.step hW9
      have O9 := O4.step hW9
      have M9 := M4.step hW9
      have P9 := P4.step hW9
      have Q9 := Q4.step hW9
      have hC := Cb.const W9
      simp (config := { decide := true }) only [cutOut, nop, List.mapIdx_cons, List.mapIdx_nil, if_true, if_false, List.take, List.drop]
      repeat (first
        | go_big_quiet_skip
        | (go_big_quiet_want; first
          | (refine q_row 28 _ rfl rfl N9 19 SK _ Try.underlying28 rfl (by kernel_rfl) ?_; go_simp; go_big_quiet_on)
          | (refine q_slice 41 _ rfl _ Try.underlying41 _ rfl O9 _ d0o ?_; go_simp; go_big_quiet_on)
          | (refine q_slice 41 _ rfl _ Try.underlying41 _ rfl M9 _ d0m ?_; go_simp; go_big_quiet_on)
          | (refine q_cell 24 _ rfl _ Try.underlying24 _ rfl P9 _ dco ?_; go_simp; go_big_quiet_on)
          | (refine q_cell 24 _ rfl _ Try.underlying24 _ rfl Q9 _ dcm ?_; go_simp; go_big_quiet_on)
          | (go_big_quiet_op; go_big_quiet_on)
          | (go_big_quiet_op; apply Exists.intro; refine ⟨fun w' hw' => ?_, ?_⟩; (go_at_call 55; exact (KS _).mono fun _ _ h => ⟨h.1, hw'.step h.2⟩); go_big_quiet_on)))
      refine wpQuiet_nil ?_
      intro gf w5 hw5 hgf F5
      clear N9 O9 M9 P9 Q9 hC hW9 KS dco dcm d0o d0m
      simp only [Act.put, List.setIfInBounds_toArray, List.set_cons_succ, List.set_cons_zero]
      have gfn : W.heap.size ≠ gf := by have := N4.lt; omega
      have N6 := (N4.step hw5).setRow_other (k := gf) gfn (stepRow p b l cs oo mm k)
      have F6 := F5.setRow (stepRow p b l cs oo mm k)
      have hwW : W.heap.size ≤ wr.heap.size := Nat.le_of_lt N4.lt
      have hwf : W.heap.size ≤ gf := Nat.le_trans hwW hgf
      have E6 := bset (hw5.mono hwW) (g := gf) hwf (stepRow p b l cs oo mm k)
      have J6 := Lib.hid (HX.out.1 k _ _ J4.out E6)
      have B6 := Lib.hid (B4.out.trans (E6.mono hs))
      clear hw5 E6 O4 M4 P4 Q4 N4 J4 B4
      go_wp2_with (((with_reducible refine is_store 82 _ _ rfl ?_); refine wpList_store_at rfl 82 _ _ rfl _ rfl (stepRow p b l cs oo mm k) rfl (#[.float .f32 0, .float .f32 0, .float .f32 0, .float .f32 0, .float .f32 0, .float .f32 0, .float .f32 0, .float .f32 0, .float .f32 0, .float .f32 0, .float .f32 0, .float .f32 0, .float .f32 0, .float .f32 0, .float .f32 0, .float .f32 0, .float .f32 0, .float .f32 0, .float .f32 0, .float .f32 0, .float .f32 0, .float .f32 0, .float .f32 0, .float .f32 0, .float .f32 0, .float .f32 0, .float .f32 0, .float .f32 0, .float .f32 0, .float .f32 0, .float .f32 0, .float .f32 0, .float .f32 0, .float .f32 0, .float .f32 0, .float .f32 0, .float .f32 0, .float .f32 0, .float .f32 0, .float .f32 0, .float .f32 0, .float .f32 0, .float .f32 0, .float .f32 0, .float .f32 0, .float .f32 0, .float .f32 0, .float .f32 0, .float .f32 0, .float .f32 0, .float .f32 0, .float .f32 0, .float .f32 0, .float .f32 0, .float .f32 0]) _ F5 55 SZ5 rfl (by kernel_rfl) ON5.out ?_; refine Hid.out ?_))
      refine Lib.hid ?_
      clear F5
      generalize w5.setRow gf (stepRow p b l cs oo mm k) = w8 at N6 F6 J6 B6 ⊢
      try simp only [Act.put]
      refine wpList_nil ?_
      rename_i K5 a5
      refine a5 _ _ ?_
      clear a5
      obtain ⟨yf, yt, ya, yb, hy, hR⟩ := HX.out.2.2 k w8 hlt J6.out
      have HR := Lib.hid hR
      clear hR
      have xS : (stepRow p b l cs oo mm k).extract 0 (0 + 55) = stepRow p b l cs oo mm k := by rw [Nat.zero_add, ← SZ5, Array.extract_size]
      have hi := (show (Try.prog.info? 28).map (·.size) = some 19 by kernel_rfl)
      have his := (show (Try.prog.info? 82).map (·.size) = some 55 by kernel_rfl)
      refine (wpIn_wide (n := 2)).1 ?_
      gi_wp2_with (first
        | ((with_reducible refine inw_is_load 82 (.tmp 7) rfl ?_); refine inw_load_part rfl 82 (.tmp 7) rfl _ 0 rfl (stepRow p b l cs oo mm k) _ F6 55 (by omega) _ Try.underlying82 rfl his _ xS ?_))
      refine HR.out.mono ?_
      clear HR hy xS
      have nl8 := N6.lt
      have fl8 := F6.lt
      rintro e W' (⟨rfl, hJ', hkp, hbw⟩ | ⟨rfl, hJx'⟩)
      · have N9 : At W' W.heap.size (rd (itL p b cs oo mm k) p b l) 28 := (hkp.blk _ (Nat.le_refl _) nl8).trans N6
        have F9 : At W' gf (stepRow p b l cs oo mm k) 82 := (hkp.blk _ (by omega) fl8).trans F6
        have NA := N9.setRow (rd (itL p b cs oo mm (k + 1)) p b l)
        have EA := bset (Below.refl W.heap.size W') (g := W.heap.size) (Nat.le_refl _) (rd (itL p b cs oo mm (k + 1)) p b l)
        have JA := Lib.hid (HX.out.1 (k + 1) _ _ hJ' EA)
        have BA := Lib.hid ((B6.out.trans hbw).trans (EA.mono hs))
        clear N6 F6 J6 B6 hkp hbw EA hJ' ON5
        gi_wp2_with (first
          | ((with_reducible refine inw_is_load 28 (.tmp 28) rfl ?_); refine inw_load_part rfl 28 (.tmp 28) rfl _ 36 rfl (stepRow p b l cs oo mm k) _ F9 19 (by omega) _ Try.underlying28 rfl hi _ xC ?_)
          | ((with_reducible refine inw_is_store 28 (.tmp 5) (.tmp 29) rfl ?_); refine inw_store_at rfl 28 (.tmp 5) (.tmp 29) rfl _ rfl (rd (itL p b cs oo mm (k + 1)) p b l) rfl (rd (itL p b cs oo mm k) p b l) _ N9 19 SK1 SK hi (fl_one _) ?_))
        simp only [Act.put, List.setIfInBounds_toArray, List.set_cons_succ, List.set_cons_zero]
        clear F9 N9 xC hi his
        go_wp2
        exact ⟨⟨k + 1, by omega, by go_num, JA, NA, BA⟩, by simp [intOf]; omega⟩
      · clear N6 F6 J6 B6 xC hi his
        have HJ := Lib.hid hJx'
        clear hJx'
        gi_wp2
        exact bodyPost_ret (results_none rfl _ _ _) rfl ⟨⟨_, rfl⟩, .inr ⟨k, hlt, HJ.out⟩⟩
    · obtain rfl : k = N := by omega
      clear O4 M4 P4 Q4 N4 B4
      go_wp2
      go_end0
      exact ⟨⟨_, rfl⟩, .inl J4.out⟩

theorem listChkZ_any (gr g1 g2 : Nat) (cs : List Nat) (p b l : Nat) (hl : cs.length = 16) (hc : ∀ x ∈ cs, x < 4294967296) (hp : p < 4294967296) (hb : b < 4294967296) (hla : l < 4294967296) (xs ys : List Nat) (hx : ∀ x ∈ xs, x < 4294967296) (hy : ∀ x ∈ ys, x < 4294967296) (hnx : xs.length ≤ 1048576) (hny : ys.length ≤ 1048576) (ga gb ca cb : Nat) (Xc Yc : Array Value) (hXc : ∀ k, k < xs.length → Xc[k]? = some (.float .f32 (nth xs k))) (hYc : ∀ k, k < ys.length → Yc[k]? = some (.float .f32 (nth ys k))) (Ta Tb : TypeId) (w : World) (Ar : At w gr (rd cs p b l) 28) (A1 : At w g1 #[.slice (some ⟨ga, 0, none⟩) xs.length ca] 41) (A2 : At w g2 #[.slice (some ⟨gb, 0, none⟩) ys.length cb] 41) (X0 : At w ga (Xc) Ta) (Y0 : At w gb (Yc) Tb) :
    Calls Try.prog 35 #[.pointer (some ⟨gr, 0, none⟩), .pointer (some ⟨g1, 0, none⟩), .pointer (some ⟨g2, 0, none⟩)] w fun e w' => Chk (listC (okB cs p b l) xs ys) e ∧ Below w.heap.size w w' := by
  cases h : okB cs p b l
  · rw [show listC false xs ys = 1 from rfl]
    go_enter Try.func35, Try.ntmps35
    go_wp2_with (((with_reducible refine is_load 28 _ rfl ?_); refine wpList_load_at rfl 28 _ rfl _ rfl (rd cs p b l) _ Ar 19 (rd_size hl p b l) _ Try.underlying28 rfl (by kernel_rfl) ?_))
    have KV := ValidRoad_any cs p b l hl hc hp hb hla w
    rw [h] at KV
    refine KV.mono ?_
    rintro e w1 ⟨rfl, hb1⟩
    clear KV
    go_wp2_with fail
    refine (need_bad 1 w1).mono ?_
    rintro e w2 ⟨rfl, rfl⟩
    go_wp2
    exact ⟨rfl, .inr ⟨by decide, _, .inl rfl, rfl⟩, hb1⟩
  · obtain ⟨c0, hcc⟩ : ∃ c0, c0 = listC true xs ys := ⟨_, rfl⟩
    rw [← hcc]
    have HC := Lib.hid hcc
    have hnx' := hnx
    have hny' := hny
    clear hcc
    obtain ⟨n, hn⟩ : ∃ n, n = xs.length := ⟨_, rfl⟩
    obtain ⟨m, hm⟩ : ∃ m, m = ys.length := ⟨_, rfl⟩
    have KX := fun W (hA : At W ga (Xc) Ta) => needAmounts_any ga 0 ca xs hx hnx W (fun k hk => by rw [Nat.zero_add]; exact hA.cell (hXc k hk))
    have KY := fun W (hA : At W gb (Yc) Tb) => needAmounts_any gb 0 cb ys hy hny W (fun k hk => by rw [Nat.zero_add]; exact hA.cell (hYc k hk))
    rw [← hn] at A1 KX hnx'
    rw [← hm] at A2 KY hny'
    have HN := Lib.hid (And.intro hn hm)
    clear hn hm hnx hny
    go_enter Try.func35, Try.ntmps35
    go_wp2_with (((with_reducible refine is_load 28 _ rfl ?_); refine wpList_load_at rfl 28 _ rfl _ rfl (rd cs p b l) _ Ar 19 (rd_size hl p b l) _ Try.underlying28 rfl (by kernel_rfl) ?_))
    have KV := ValidRoad_any cs p b l hl hc hp hb hla w
    rw [h] at KV
    refine KV.mono ?_
    rintro e w1 ⟨rfl, hb1⟩
    clear KV
    have A3 := A1.step hb1
    have A4 := A2.step hb1
    have X1 := X0.step hb1
    have Y1 := Y0.step hb1
    clear A1 A2 X0 Y0
    go_wp2_with fail
    refine (need_ok 1 w1).mono ?_
    rintro e w2 ⟨rfl, rfl⟩
    by_cases hnm : n = m
    · have e1 : decide ((n : Int) = (m : Int)) = true := decide_eq_true (by omega)
      have e2 : ((n : Int) == (m : Int)) = true := by simp [hnm]
      by_cases h4 : n ≤ 400
      · have h4d : decide ((n : Int) ≤ 400) = true := decide_eq_true (by omega)
        have HC1 : Hid (c0 = if amtC xs = 0 then amtC ys else amtC xs) := Lib.hid (by rw [HC.out]; unfold listC; rw [if_pos rfl, if_pos (by rw [← HN.out.1, ← HN.out.2]; exact ⟨hnm, h4⟩)])
        clear hnm HC
        go_wp2_with (first | ((with_reducible refine is_load 41 (.tmp 1) rfl ?_); refine wpList_load_cell rfl 41 (.tmp 1) rfl _ _ rfl (#[.slice (some ⟨ga, 0, none⟩) n ca]) _ A3 _ Try.underlying41 rfl (.slice (some ⟨ga, 0, none⟩) n ca) rfl ?_) | ((with_reducible refine is_load 41 (.tmp 2) rfl ?_); refine wpList_load_cell rfl 41 (.tmp 2) rfl _ _ rfl (#[.slice (some ⟨gb, 0, none⟩) m cb]) _ A4 _ Try.underlying41 rfl (.slice (some ⟨gb, 0, none⟩) m cb) rfl ?_) | ((with_reducible refine is_load 41 (.tmp 1) rfl ?_); refine wpList_load_cell_g rfl 41 (.tmp 1) rfl _ _ rfl (#[.slice (some ⟨ga, 0, none⟩) n ca]) _ A3 _ Try.underlying41 rfl (.slice (some ⟨ga, 0, none⟩) n ca) rfl ?_))
        refine (need_ok 2 _).mono ?_
        rintro e w2 ⟨rfl, rfl⟩
        go_wp2_with (((with_reducible refine is_load 41 (.tmp 1) rfl ?_); refine wpList_load_cell rfl 41 (.tmp 1) rfl _ _ rfl (#[.slice (some ⟨ga, 0, none⟩) n ca]) _ A3 _ Try.underlying41 rfl (.slice (some ⟨ga, 0, none⟩) n ca) rfl ?_))
        refine (KX _ X1).mono ?_
        rintro e w2 ⟨⟨h0, rfl⟩ | ⟨h0, x, hx', rfl⟩, m2, rfl⟩
        · have HC2 : Hid (c0 = amtC ys) := Lib.hid (by rw [HC1.out, if_pos h0])
          clear HC1 h0 KX
          have A5 := A4.drewN m2
          have Y2 := Y1.drewN m2
          go_wp2_with (((with_reducible refine is_load 41 (.tmp 2) rfl ?_); refine wpList_load_cell rfl 41 (.tmp 2) rfl _ _ rfl (#[.slice (some ⟨gb, 0, none⟩) m cb]) _ A5 _ Try.underlying41 rfl (.slice (some ⟨gb, 0, none⟩) m cb) rfl ?_))
          refine (KY _ Y2).mono ?_
          rintro e w2 ⟨⟨h0, rfl⟩ | ⟨h0, x, hx', rfl⟩, m3, rfl⟩
          · go_wp2
            go_end0
            exact ⟨.inl ⟨by rw [HC2.out, h0], rfl⟩, bdrew hb1 _⟩
          · go_wp2
            exact ⟨rfl, .inr ⟨by rw [HC2.out]; exact h0, x, by rw [HC2.out]; exact hx', rfl⟩, bdrew hb1 _⟩
        · have HC2 : Hid (c0 = amtC xs) := Lib.hid (by rw [HC1.out, if_neg h0])
          go_wp2
          exact ⟨rfl, .inr ⟨by rw [HC2.out]; exact h0, x, by rw [HC2.out]; exact hx', rfl⟩, bdrew hb1 _⟩
      · have h4d : decide ((n : Int) ≤ 400) = false := decide_eq_false (by omega)
        have hc2 : c0 = 2 := by rw [HC.out]; unfold listC; rw [if_pos rfl, if_neg (by rw [← HN.out.1]; omega)]
        subst hc2
        clear hnm HC h4
        go_wp2_with (first | ((with_reducible refine is_load 41 (.tmp 1) rfl ?_); refine wpList_load_cell rfl 41 (.tmp 1) rfl _ _ rfl (#[.slice (some ⟨ga, 0, none⟩) n ca]) _ A3 _ Try.underlying41 rfl (.slice (some ⟨ga, 0, none⟩) n ca) rfl ?_) | ((with_reducible refine is_load 41 (.tmp 2) rfl ?_); refine wpList_load_cell rfl 41 (.tmp 2) rfl _ _ rfl (#[.slice (some ⟨gb, 0, none⟩) m cb]) _ A4 _ Try.underlying41 rfl (.slice (some ⟨gb, 0, none⟩) m cb) rfl ?_) | ((with_reducible refine is_load 41 (.tmp 1) rfl ?_); refine wpList_load_cell_g rfl 41 (.tmp 1) rfl _ _ rfl (#[.slice (some ⟨ga, 0, none⟩) n ca]) _ A3 _ Try.underlying41 rfl (.slice (some ⟨ga, 0, none⟩) n ca) rfl ?_))
        refine (need_bad 2 _).mono ?_
        rintro e w2 ⟨rfl, rfl⟩
        go_wp2
        exact ⟨rfl, .inr ⟨by decide, _, .inl rfl, rfl⟩, hb1⟩
    · have e1 : decide ((n : Int) = (m : Int)) = false := decide_eq_false (by omega)
      have e2 : ((n : Int) == (m : Int)) = false := by simp; omega
      have hc2 : c0 = 2 := by rw [HC.out]; unfold listC; rw [if_pos rfl, if_neg (by rw [← HN.out.1, ← HN.out.2]; omega)]
      subst hc2
      clear hnm HC
      go_wp2_with (first | ((with_reducible refine is_load 41 (.tmp 1) rfl ?_); refine wpList_load_cell rfl 41 (.tmp 1) rfl _ _ rfl (#[.slice (some ⟨ga, 0, none⟩) n ca]) _ A3 _ Try.underlying41 rfl (.slice (some ⟨ga, 0, none⟩) n ca) rfl ?_) | ((with_reducible refine is_load 41 (.tmp 2) rfl ?_); refine wpList_load_cell rfl 41 (.tmp 2) rfl _ _ rfl (#[.slice (some ⟨gb, 0, none⟩) m cb]) _ A4 _ Try.underlying41 rfl (.slice (some ⟨gb, 0, none⟩) m cb) rfl ?_) | ((with_reducible refine is_load 41 (.tmp 1) rfl ?_); refine wpList_load_cell_g rfl 41 (.tmp 1) rfl _ _ rfl (#[.slice (some ⟨ga, 0, none⟩) n ca]) _ A3 _ Try.underlying41 rfl (.slice (some ⟨ga, 0, none⟩) n ca) rfl ?_))
      refine (need_bad 2 _).mono ?_
      rintro e w2 ⟨rfl, rfl⟩
      go_wp2
      exact ⟨rfl, .inr ⟨by decide, _, .inl rfl, rfl⟩, hb1⟩

theorem StepListZ_no (cs : List Nat) (p b l : Nat) (hl : cs.length = 16) (hc : ∀ x ∈ cs, x < 4294967296) (hp : p < 4294967296) (hb : b < 4294967296) (hla : l < 4294967296) (xs ys : List Nat) (hx : ∀ x ∈ xs, x < 4294967296) (hy : ∀ x ∈ ys, x < 4294967296) (hnx : xs.length ≤ 1048576) (hny : ys.length ≤ 1048576) (ga gb ca cb : Nat) (Xc Yc : Array Value) (hXc : ∀ k, k < xs.length → Xc[k]? = some (.float .f32 (nth xs k))) (hYc : ∀ k, k < ys.length → Yc[k]? = some (.float .f32 (nth ys k))) (Ta Tb : TypeId) (h : listC (okB cs p b l) xs ys ≠ 0) (w : World) (X0 : At w ga (Xc) Ta) (Y0 : At w gb (Yc) Tb) :
    Calls Try.prog 16 #[.agg (rd cs p b l), .slice (some ⟨ga, 0, none⟩) xs.length ca, .slice (some ⟨gb, 0, none⟩) ys.length cb] w fun e w' => e = .returned (.tuple #[.agg ((rd (zeros 16) 0 0 0)), .float .f32 0, .float .f32 0, .int .i64 (listC (okB cs p b l) xs ys)]) ∧ Below w.heap.size w w' := by
  have R0 : At ((((w.alloc (.cells (rd cs p b l) 28)).alloc (.cells #[.slice (some ⟨ga, 0, none⟩) xs.length ca] 41)).alloc (.cells #[.slice (some ⟨gb, 0, none⟩) ys.length cb] 41)).alloc (.cells (rd (zeros 16) 0 0 0) 28)) w.heap.size (rd cs p b l) 28 := (((At.new w _ _).alloc _).alloc _).alloc _
  have A0 : At ((((w.alloc (.cells (rd cs p b l) 28)).alloc (.cells #[.slice (some ⟨ga, 0, none⟩) xs.length ca] 41)).alloc (.cells #[.slice (some ⟨gb, 0, none⟩) ys.length cb] 41)).alloc (.cells (rd (zeros 16) 0 0 0) 28)) (w.heap.size + 1) #[.slice (some ⟨ga, 0, none⟩) xs.length ca] 41 := ((At.last1 w _ _ _).alloc _).alloc _
  have C0 : At ((((w.alloc (.cells (rd cs p b l) 28)).alloc (.cells #[.slice (some ⟨ga, 0, none⟩) xs.length ca] 41)).alloc (.cells #[.slice (some ⟨gb, 0, none⟩) ys.length cb] 41)).alloc (.cells (rd (zeros 16) 0 0 0) 28)) (w.heap.size + 1 + 1) #[.slice (some ⟨gb, 0, none⟩) ys.length cb] 41 := (At.last2 w _ _ _ _).alloc _
  have T0 : At ((((w.alloc (.cells (rd cs p b l) 28)).alloc (.cells #[.slice (some ⟨ga, 0, none⟩) xs.length ca] 41)).alloc (.cells #[.slice (some ⟨gb, 0, none⟩) ys.length cb] 41)).alloc (.cells (rd (zeros 16) 0 0 0) 28)) (w.heap.size + 1 + 1 + 1) (rd (zeros 16) 0 0 0) 28 := by
    have := At.new (((w.alloc (.cells (rd cs p b l) 28)).alloc (.cells #[.slice (some ⟨ga, 0, none⟩) xs.length ca] 41)).alloc (.cells #[.slice (some ⟨gb, 0, none⟩) ys.length cb] 41)) (rd (zeros 16) 0 0 0) 28
    rwa [World.size_alloc, World.size_alloc, World.size_alloc] at this
  have X1 : At ((((w.alloc (.cells (rd cs p b l) 28)).alloc (.cells #[.slice (some ⟨ga, 0, none⟩) xs.length ca] 41)).alloc (.cells #[.slice (some ⟨gb, 0, none⟩) ys.length cb] 41)).alloc (.cells (rd (zeros 16) 0 0 0) 28)) ga (Xc) Ta := (((X0.alloc _).alloc _).alloc _).alloc _
  have Y1 : At ((((w.alloc (.cells (rd cs p b l) 28)).alloc (.cells #[.slice (some ⟨ga, 0, none⟩) xs.length ca] 41)).alloc (.cells #[.slice (some ⟨gb, 0, none⟩) ys.length cb] 41)).alloc (.cells (rd (zeros 16) 0 0 0) 28)) gb (Yc) Tb := (((Y0.alloc _).alloc _).alloc _).alloc _
  have B0 := Lib.hid (bnew (bnew (bnew (b0 w (.cells (rd cs p b l) 28)) (.cells #[.slice (some ⟨ga, 0, none⟩) xs.length ca] 41)) (.cells #[.slice (some ⟨gb, 0, none⟩) ys.length cb] 41)) (.cells (rd (zeros 16) 0 0 0) 28))
  have hmf : ∀ (fn : Fn) (first cap : Array Value) (w : World), (Instr.makeFunc fn first cap).run Try.prog w = .ok (.func fn first cap) w := fun _ _ _ _ => rfl
  have KR := refusalOf_any 35 #[.pointer (some ⟨w.heap.size, 0, none⟩), .pointer (some ⟨(w.heap.size + 1), 0, none⟩), .pointer (some ⟨(w.heap.size + 1 + 1), 0, none⟩)] _ ((((w.alloc (.cells (rd cs p b l) 28)).alloc (.cells #[.slice (some ⟨ga, 0, none⟩) xs.length ca] 41)).alloc (.cells #[.slice (some ⟨gb, 0, none⟩) ys.length cb] 41)).alloc (.cells (rd (zeros 16) 0 0 0) 28)) (fun _ => by kernel_rfl) fun w1 h1 => listChkZ_any _ _ _ cs p b l hl hc hp hb hla xs ys hx hy hnx hny ga gb ca cb Xc Yc hXc hYc Ta Tb w1 (R0.step h1) (A0.step h1) (C0.step h1) (X1.step h1) (Y1.step h1)
  generalize listC (okB cs p b l) xs ys = c at KR h ⊢
  have gne : (c == 0) = false := by simp [h]
  go_enter Try.func16, Try.ntmps16
  go_wp2_with fail
  refine KR.mono ?_
  rintro e' w1 ⟨rfl, hb1⟩
  have T1 := T0.step hb1
  have B1 := Lib.hid (bthen B0.out hb1)
  clear KR R0 A0 C0 T0 X0 Y0 X1 Y1 B0 hb1
  have T9 := T1.setRow (rd (zeros 16) 0 0 0)
  have B9 := Lib.hid (bset B1.out (g := w.heap.size + 1 + 1 + 1) (by omega) (rd (zeros 16) 0 0 0))
  go_wp2_with (((with_reducible refine is_store 28 (.tmp 6) (.tmp 15) rfl ?_); refine wpList_store_at rfl 28 (.tmp 6) (.tmp 15) rfl _ rfl (rd (zeros 16) 0 0 0) rfl (rd (zeros 16) 0 0 0) _ T1 19 (rd_size (zeros_len 16) _ _ _) (rd_size (zeros_len 16) _ _ _) (by kernel_rfl) (fl_one _) ?_))
  exact bodyPost_ret (v := .tuple #[.agg ((rd (zeros 16) 0 0 0)), .float .f32 0, .float .f32 0, .int .i64 c]) (results_at3 (p := 6) (ty := 28) rfl _ _ _ ((rd (zeros 16) 0 0 0)) _ _ _ _ (by kernel_rfl) (by kernel_rfl) (by kernel_rfl) (by kernel_rfl) T9 _ Try.underlying28 rfl 19 (rd_size (zeros_len 16) _ _ _) (by kernel_rfl)) (by kernel_rfl) ⟨rfl, B9.out⟩

set_option maxHeartbeats 1000000 in
theorem StepListZ_yes (cs : List Nat) (p b l : Nat) (hl : cs.length = 16) (hc : ∀ x ∈ cs, x < 4294967296) (hp : p < 4294967296) (hb : b < 4294967296) (hla : l < 4294967296) (xs ys : List Nat) (hx : ∀ x ∈ xs, x < 4294967296) (hy : ∀ x ∈ ys, x < 4294967296) (hnx : xs.length ≤ 1048576) (hny : ys.length ≤ 1048576) (ga gb ca cb : Nat) (Xc Yc : Array Value) (hXc : ∀ k, k < xs.length → Xc[k]? = some (.float .f32 (nth xs k))) (hYc : ∀ k, k < ys.length → Yc[k]? = some (.float .f32 (nth ys k))) (Ta Tb : TypeId) (h : listC (okB cs p b l) xs ys = 0) (w : World) (X0 : At w ga (Xc) Ta) (Y0 : At w gb (Yc) Tb) :
    Calls Try.prog 16 #[.agg (rd cs p b l), .slice (some ⟨ga, 0, none⟩) xs.length ca, .slice (some ⟨gb, 0, none⟩) ys.length cb] w fun e w' => e = .returned (.tuple #[.agg (rd (itL p b cs (fun k => nth xs k) (fun k => nth ys k) xs.length) p b l), .float .f32 (itS p b cs (fun k => nth xs k) (fun k => nth ys k) 0 xs.length), .float .f32 (itS p b cs (fun k => nth xs k) (fun k => nth ys k) 16 xs.length), .int .i64 0]) ∧ Below w.heap.size w w' := by
  have lz := listC_zero h
  have ok := OkR.of hl lz.1
  have hox := amtC_zero lz.2.2.2.1
  have hoy := amtC_zero lz.2.2.2.2
  have hN : xs.length ≤ 400 := lz.2.2.1
  have hxy := lz.2.1
  have SZN : (rd (itL p b cs (fun k => nth xs k) (fun k => nth ys k) xs.length) p b l).size = 19 := rd_size (itL_ok ok (fun k => nth xs k) (fun k => nth ys k) xs.length).len p b l
  have R0 : At ((((w.alloc (.cells (rd cs p b l) 28)).alloc (.cells #[.slice (some ⟨ga, 0, none⟩) xs.length ca] 41)).alloc (.cells #[.slice (some ⟨gb, 0, none⟩) ys.length cb] 41)).alloc (.cells (rd (zeros 16) 0 0 0) 28)) w.heap.size (rd cs p b l) 28 := (((At.new w _ _).alloc _).alloc _).alloc _
  have A0 : At ((((w.alloc (.cells (rd cs p b l) 28)).alloc (.cells #[.slice (some ⟨ga, 0, none⟩) xs.length ca] 41)).alloc (.cells #[.slice (some ⟨gb, 0, none⟩) ys.length cb] 41)).alloc (.cells (rd (zeros 16) 0 0 0) 28)) (w.heap.size + 1) #[.slice (some ⟨ga, 0, none⟩) xs.length ca] 41 := ((At.last1 w _ _ _).alloc _).alloc _
  have C0 : At ((((w.alloc (.cells (rd cs p b l) 28)).alloc (.cells #[.slice (some ⟨ga, 0, none⟩) xs.length ca] 41)).alloc (.cells #[.slice (some ⟨gb, 0, none⟩) ys.length cb] 41)).alloc (.cells (rd (zeros 16) 0 0 0) 28)) (w.heap.size + 1 + 1) #[.slice (some ⟨gb, 0, none⟩) ys.length cb] 41 := (At.last2 w _ _ _ _).alloc _
  have T0 : At ((((w.alloc (.cells (rd cs p b l) 28)).alloc (.cells #[.slice (some ⟨ga, 0, none⟩) xs.length ca] 41)).alloc (.cells #[.slice (some ⟨gb, 0, none⟩) ys.length cb] 41)).alloc (.cells (rd (zeros 16) 0 0 0) 28)) (w.heap.size + 1 + 1 + 1) (rd (zeros 16) 0 0 0) 28 := by
    have := At.new (((w.alloc (.cells (rd cs p b l) 28)).alloc (.cells #[.slice (some ⟨ga, 0, none⟩) xs.length ca] 41)).alloc (.cells #[.slice (some ⟨gb, 0, none⟩) ys.length cb] 41)) (rd (zeros 16) 0 0 0) 28
    rwa [World.size_alloc, World.size_alloc, World.size_alloc] at this
  have X1 : At ((((w.alloc (.cells (rd cs p b l) 28)).alloc (.cells #[.slice (some ⟨ga, 0, none⟩) xs.length ca] 41)).alloc (.cells #[.slice (some ⟨gb, 0, none⟩) ys.length cb] 41)).alloc (.cells (rd (zeros 16) 0 0 0) 28)) ga (Xc) Ta := (((X0.alloc _).alloc _).alloc _).alloc _
  have Y1 : At ((((w.alloc (.cells (rd cs p b l) 28)).alloc (.cells #[.slice (some ⟨ga, 0, none⟩) xs.length ca] 41)).alloc (.cells #[.slice (some ⟨gb, 0, none⟩) ys.length cb] 41)).alloc (.cells (rd (zeros 16) 0 0 0) 28)) gb (Yc) Tb := (((Y0.alloc _).alloc _).alloc _).alloc _
  have B0 := Lib.hid (bnew (bnew (bnew (b0 w (.cells (rd cs p b l) 28)) (.cells #[.slice (some ⟨ga, 0, none⟩) xs.length ca] 41)) (.cells #[.slice (some ⟨gb, 0, none⟩) ys.length cb] 41)) (.cells (rd (zeros 16) 0 0 0) 28))
  have hmf : ∀ (fn : Fn) (first cap : Array Value) (w : World), (Instr.makeFunc fn first cap).run Try.prog w = .ok (.func fn first cap) w := fun _ _ _ _ => rfl
  have KR := refusalOf_any 35 #[.pointer (some ⟨w.heap.size, 0, none⟩), .pointer (some ⟨(w.heap.size + 1), 0, none⟩), .pointer (some ⟨(w.heap.size + 1 + 1), 0, none⟩)] _ ((((w.alloc (.cells (rd cs p b l) 28)).alloc (.cells #[.slice (some ⟨ga, 0, none⟩) xs.length ca] 41)).alloc (.cells #[.slice (some ⟨gb, 0, none⟩) ys.length cb] 41)).alloc (.cells (rd (zeros 16) 0 0 0) 28)) (fun _ => by kernel_rfl) fun w1 h1 => listChkZ_any _ _ _ cs p b l hl hc hp hb hla xs ys hx hy hnx hny ga gb ca cb Xc Yc hXc hYc Ta Tb w1 (R0.step h1) (A0.step h1) (C0.step h1) (X1.step h1) (Y1.step h1)
  rw [h] at KR
  have HXc := Lib.hid (And.intro hXc hYc)
  clear hXc hYc
  have HH := Lib.hid (And.intro hox (And.intro (fun k (hk : k < xs.length) => hoy k (by omega)) (And.intro hN hxy)))
  clear lz h hox hoy hN hxy
  go_enter Try.func16, Try.ntmps16
  go_wp2_with fail
  refine KR.mono ?_
  rintro e' w1 ⟨rfl, hb1⟩
  have R1 := R0.step hb1
  have A1 := A0.step hb1
  have C1 := C0.step hb1
  have T1 := T0.step hb1
  have X2 := X1.step hb1
  have Y2 := Y1.step hb1
  have B1 := Lib.hid (bthen B0.out hb1)
  clear KR R0 A0 C0 T0 X0 Y0 X1 Y1 B0 hb1
  go_wp2
  refine wp_region_held (S := fun w' => At w' w.heap.size (rd cs p b l) 28 ∧ At w' (w.heap.size + 1) #[.slice (some ⟨ga, 0, none⟩) xs.length ca] 41 ∧ At w' (w.heap.size + 1 + 1) #[.slice (some ⟨gb, 0, none⟩) ys.length cb] 41) (by kernel_rfl) ?_
  show wpAnyH _ _ _ _ _ 14 (Array.replicate 14 false) _ _
  have SS : At { w1 with drawn := w1.drawn + 1 } w.heap.size (rd cs p b l) 28 ∧ At { w1 with drawn := w1.drawn + 1 } (w.heap.size + 1) #[.slice (some ⟨ga, 0, none⟩) xs.length ca] 41 ∧ At { w1 with drawn := w1.drawn + 1 } (w.heap.size + 1 + 1) #[.slice (some ⟨gb, 0, none⟩) ys.length cb] 41 := ⟨R1, A1, C1⟩
  have T2 : At { w1 with drawn := w1.drawn + 1 } (w.heap.size + 1 + 1 + 1) (rd (zeros 16) 0 0 0) 28 := T1
  have X3 : At { w1 with drawn := w1.drawn + 1 } ga (Xc) Ta := X2
  have Y3 : At { w1 with drawn := w1.drawn + 1 } gb (Yc) Tb := Y2
  have B2 : Hid (Below w.heap.size w { w1 with drawn := w1.drawn + 1 }) := Lib.hid ⟨B1.out.1, B1.out.2, B1.out.3, B1.out.4, B1.out.5⟩
  generalize ({ w1 with drawn := w1.drawn + 1 } : World) = w2 at SS T2 X3 Y3 B2 ⊢
  clear R1 A1 C1 T1 X2 Y2 B1
  have L0 : ∀ w', At w' w.heap.size (rd cs p b l) 28 → (Instr.loadAt 28 (.pointer (some ⟨w.heap.size, 0, none⟩))).run Try.prog w' = .ok (.agg (rd cs p b l)) w' := fun w' h => run_load_road hl h
  refine wpAnyH_take (i := 0) (v := .agg (rd cs p b l)) rfl (by kernel_rfl) (by kernel_rfl) (by kernel_rfl) (fun _ _ _ h => h) (yif rfl fun w' hw' => x_load 28 (.tmp 3) rfl _ rfl (L0 w' hw'.1)) (by assumption) ?_
  refine wpAnyH_take (i := 1) (v := .agg (rd cs p b l)) rfl (by kernel_rfl) (by kernel_rfl) (by kernel_rfl) (fun _ _ _ h => h) (yif rfl fun w' hw' => x_load 28 (.tmp 3) rfl _ rfl (L0 w' hw'.1)) (by assumption) ?_
  refine wpAnyH_take (i := 2) (v := .slice (some ⟨ga, 0, none⟩) xs.length ca) rfl (by kernel_rfl) (by kernel_rfl) (by kernel_rfl) (fun _ _ _ h => h) (yif rfl fun w' hw' => x_load 41 (.tmp 4) rfl _ rfl (run_load_one w' 41 _ Try.underlying41 rfl _ _ (hw'.2.1.cell (k := 0) rfl))) (by assumption) ?_
  refine wpAnyH_take (i := 3) (v := .slice (some ⟨gb, 0, none⟩) ys.length cb) rfl (by kernel_rfl) (by kernel_rfl) (by kernel_rfl) (fun _ _ _ h => h) (yif rfl fun w' hw' => x_load 41 (.tmp 5) rfl _ rfl (run_load_one w' 41 _ Try.underlying41 rfl _ _ (hw'.2.2.cell (k := 0) rfl))) (by assumption) ?_
  refine wpAnyH_all (rs := [4]) (by kernel_rfl) (by simp) fun i' hi' => ?_
  obtain rfl := one_of hi'
  refine op_call (f := 36) (args := #[.agg (rd cs p b l), .slice (some ⟨ga, 0, none⟩) xs.length ca, .slice (some ⟨gb, 0, none⟩) ys.length cb]) rfl rfl (by kernel_rfl) ((stepsOf_any (rd cs p b l) (rd_size hl p b l) _ _ _ _ _ _ w2).mono ?_)
  rintro e w3 ⟨rfl, hw3⟩
  have hb3 : Below w2.heap.size w2 w3 := by rw [hw3]; exact bnew (bnew (b0 w2 _) _) _
  have G1 : At w3 w2.heap.size (rd cs p b l) 28 := by rw [hw3]; exact ((At.new w2 _ _).alloc _).alloc _
  have G2 : At w3 (w2.heap.size + 1) #[.slice (some ⟨ga, 0, none⟩) xs.length ca] 41 := by rw [hw3]; exact (At.last1 w2 _ _ _).alloc _
  have G3 : At w3 (w2.heap.size + 1 + 1) #[.slice (some ⟨gb, 0, none⟩) ys.length cb] 41 := by rw [hw3]; exact At.last2 w2 _ _ _ _
  clear hw3
  have SS3 := And.intro (SS.1.step hb3) (And.intro (SS.2.1.step hb3) (SS.2.2.step hb3))
  refine ⟨_, rfl, SS3, ?_⟩
  rw [← HH.out.2.2.2] at G3
  have SQ := stepsZ_seq cs p b l ok (fun k => nth xs k) (fun k => nth ys k) xs.length HH.out.2.2.1 HH.out.1 HH.out.2.1 _ _ _ ga gb ca cb _ _ _ _ (fun k hk => HXc.out.1 k hk) (fun k hk => HXc.out.2 k (by rw [← HH.out.2.2.2]; exact hk)) w3 G1 G2 G3 (X3.step hb3) (Y3.step hb3)
  refine wpAnyH_all (rs := [5]) (by kernel_rfl) (by simp) fun i' hi' => ?_
  obtain rfl := one_of hi'
  refine op_call (f := 33) (args := #[.agg (rd cs p b l), .func (.func 54) #[] #[.pointer (some ⟨w2.heap.size, 0, none⟩), .pointer (some ⟨(w2.heap.size + 1), 0, none⟩), .pointer (some ⟨(w2.heap.size + 1 + 1), 0, none⟩)]]) rfl rfl (by kernel_rfl) ((sumOfSteps_any cs p b l ok (fun k => nth xs k) (fun k => nth ys k) xs.length _ w3 SQ).mono ?_)
  rintro e w4 ⟨rfl, hb4⟩
  have SS4 := And.intro (SS3.1.step hb4) (And.intro (SS3.2.1.step hb4) (SS3.2.2.step hb4))
  have T4 := (T2.step hb3).step hb4
  have B4 := Lib.hid (bthen (bthen B2.out hb3) hb4)
  refine ⟨_, rfl, SS4, ?_⟩
  clear SQ G1 G2 G3 SS SS3 T2 X3 Y3 B2 hb3 hb4
  refine wpAnyH_take (i := 6) (v := .agg (rd (itL p b cs (fun k => nth xs k) (fun k => nth ys k) xs.length) p b l)) rfl (by kernel_rfl) (by kernel_rfl) (by kernel_rfl) (fun _ _ _ h => h) (yif rfl fun w' hw' => by kernel_rfl) (by assumption) ?_
  refine wpAnyH_take (i := 7) (v := .float .f32 (itS p b cs (fun k => nth xs k) (fun k => nth ys k) 0 xs.length)) rfl (by kernel_rfl) (by kernel_rfl) (by kernel_rfl) (fun _ _ _ h => h) (yif rfl fun w' hw' => by kernel_rfl) (by assumption) ?_
  refine wpAnyH_take (i := 8) (v := .float .f32 (itS p b cs (fun k => nth xs k) (fun k => nth ys k) 16 xs.length)) rfl (by kernel_rfl) (by kernel_rfl) (by kernel_rfl) (fun _ _ _ h => h) (yif rfl fun w' hw' => by kernel_rfl) (by assumption) ?_
  refine wpAnyH_take (i := 9) (v := .int .i64 0) rfl (by kernel_rfl) (by kernel_rfl) (by kernel_rfl) (fun _ _ _ h => h) (yif rfl fun w' hw' => by kernel_rfl) (by assumption) ?_
  have T5 := T4.setRow (rd (itL p b cs (fun k => nth xs k) (fun k => nth ys k) xs.length) p b l)
  have SS5 := And.intro (SS4.1.setRow_other (k := w.heap.size + 1 + 1 + 1) (by omega) (rd (itL p b cs (fun k => nth xs k) (fun k => nth ys k) xs.length) p b l)) (And.intro (SS4.2.1.setRow_other (k := w.heap.size + 1 + 1 + 1) (by omega) (rd (itL p b cs (fun k => nth xs k) (fun k => nth ys k) xs.length) p b l)) (SS4.2.2.setRow_other (k := w.heap.size + 1 + 1 + 1) (by omega) (rd (itL p b cs (fun k => nth xs k) (fun k => nth ys k) xs.length) p b l)))
  have B5 := Lib.hid (bset B4.out (g := w.heap.size + 1 + 1 + 1) (by omega) (rd (itL p b cs (fun k => nth xs k) (fun k => nth ys k) xs.length) p b l))
  refine wpAnyH_all (rs := [10]) (by kernel_rfl) (by simp) fun i' hi' => ?_
  obtain rfl := one_of hi'
  refine op_skip rfl rfl (store_fresh (ty := 28) (d := 6) (s := 23) rfl 19 SZN (rd_size (zeros_len 16) _ _ _) (by kernel_rfl) (fl_one _) _ w4 (w.heap.size + 1 + 1 + 1) (by kernel_rfl) (by kernel_rfl) T4) ⟨SS5, ?_⟩
  refine wpAnyH_take (i := 11) (v := .float .f32 (itS p b cs (fun k => nth xs k) (fun k => nth ys k) 0 xs.length)) rfl (by kernel_rfl) (by kernel_rfl) (by kernel_rfl) (fun _ _ _ h => h) (yif rfl fun w' hw' => by kernel_rfl) (by assumption) ?_
  refine wpAnyH_take (i := 12) (v := .float .f32 (itS p b cs (fun k => nth xs k) (fun k => nth ys k) 16 xs.length)) rfl (by kernel_rfl) (by kernel_rfl) (by kernel_rfl) (fun _ _ _ h => h) (yif rfl fun w' hw' => by kernel_rfl) (by assumption) ?_
  refine wpAnyH_take (i := 13) (v := .int .i64 0) rfl (by kernel_rfl) (by kernel_rfl) (by kernel_rfl) (fun _ _ _ h => h) (yif rfl fun w' hw' => by kernel_rfl) (by assumption) ?_
  refine wpAnyH_done (by kernel_rfl) ?_ _
  clear T4 SS4 SS5 B4
  generalize w4.setRow (w.heap.size + 1 + 1 + 1) (rd (itL p b cs (fun k => nth xs k) (fun k => nth ys k) xs.length) p b l) = w5 at T5 B5 ⊢
  generalize hA : Act.put _ _ _ = A
  have HA := Lib.hid hA
  clear hA
  go_wp2
  have hA := HA.out
  subst hA
  exact bodyPost_ret (v := .tuple #[.agg (rd (itL p b cs (fun k => nth xs k) (fun k => nth ys k) xs.length) p b l), .float .f32 (itS p b cs (fun k => nth xs k) (fun k => nth ys k) 0 xs.length), .float .f32 (itS p b cs (fun k => nth xs k) (fun k => nth ys k) 16 xs.length), .int .i64 0]) (results_at3 (p := 6) (ty := 28) rfl _ _ _ (rd (itL p b cs (fun k => nth xs k) (fun k => nth ys k) xs.length) p b l) _ _ _ _ (by kernel_rfl) (by kernel_rfl) (by kernel_rfl) (by kernel_rfl) T5 _ Try.underlying28 rfl 19 (SZN) (by kernel_rfl)) (by kernel_rfl) ⟨rfl, B5.out⟩

theorem StepListZ_any (cs : List Nat) (p b l : Nat) (hl : cs.length = 16) (hc : ∀ x ∈ cs, x < 4294967296) (hp : p < 4294967296) (hb : b < 4294967296) (hla : l < 4294967296) (xs ys : List Nat) (hx : ∀ x ∈ xs, x < 4294967296) (hy : ∀ x ∈ ys, x < 4294967296) (hnx : xs.length ≤ 1048576) (hny : ys.length ≤ 1048576) (ga gb ca cb : Nat) (Xc Yc : Array Value) (hXc : ∀ k, k < xs.length → Xc[k]? = some (.float .f32 (nth xs k))) (hYc : ∀ k, k < ys.length → Yc[k]? = some (.float .f32 (nth ys k))) (Ta Tb : TypeId) (w : World) (X0 : At w ga (Xc) Ta) (Y0 : At w gb (Yc) Tb) :
    Calls Try.prog 16 #[.agg (rd cs p b l), .slice (some ⟨ga, 0, none⟩) xs.length ca, .slice (some ⟨gb, 0, none⟩) ys.length cb] w fun e w' => e = .returned (.tuple #[.agg (rd (vStepList cs p b l xs ys).1 (vStepList cs p b l xs ys).2.1 (vStepList cs p b l xs ys).2.2.1 (vStepList cs p b l xs ys).2.2.2.1), .float .f32 (vStepList cs p b l xs ys).2.2.2.2.1, .float .f32 (vStepList cs p b l xs ys).2.2.2.2.2.1, .int .i64 (vStepList cs p b l xs ys).2.2.2.2.2.2]) ∧ Below w.heap.size w w' := by
  by_cases h : listC (okB cs p b l) xs ys = 0
  · have e : (vStepList cs p b l xs ys) = (itL p b cs (fun k => nth xs k) (fun k => nth ys k) xs.length, p, b, l, itS p b cs (fun k => nth xs k) (fun k => nth ys k) 0 xs.length, itS p b cs (fun k => nth xs k) (fun k => nth ys k) 16 xs.length, 0) := by unfold vStepList; rw [if_pos h]
    rw [e]
    exact StepListZ_yes cs p b l hl hc hp hb hla xs ys hx hy hnx hny ga gb ca cb Xc Yc hXc hYc Ta Tb h w X0 Y0
  · have e : (vStepList cs p b l xs ys) = (zeros 16, 0, 0, 0, 0, 0, listC (okB cs p b l) xs ys) := by unfold vStepList; rw [if_neg h]
    rw [e]
    exact StepListZ_no cs p b l hl hc hp hb hla xs ys hx hy hnx hny ga gb ca cb Xc Yc hXc hYc Ta Tb h w X0 Y0

end Go.Proofs.Ytapnkkbkhifmeaa
