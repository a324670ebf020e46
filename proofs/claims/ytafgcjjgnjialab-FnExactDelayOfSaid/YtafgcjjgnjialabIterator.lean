/-
  CONTRACTS: the function that hands the steps of a road on.
-/
import Derived.Test.YtafgcjjgnjialabSums
import Derived.Test.YtafgcjjgnjialabAlloc
import Derived.Test.YtafgcjjgnjialabBuilt
import Derived.Test.YtafgcjjgnjialabStep
import Derived.Test.YtafgcjjgnjialabRampChk
namespace Go.Proofs.Ytafgcjjgnjialab
open Go Go.RowKit Go.Shelf
attribute [local go_sem] Oper.semAt_some
set_option maxRecDepth 100000

theorem run_load_slice {P : Program} (w : World) (ty e : TypeId) (hu : P.underlying ty = some (.slice e)) (ad : Addr) (v : Value) (hc : w.cell? ad = some v) : (Instr.loadAt ty (.pointer (some ad))).run P w = .ok v w := by
  have hagg : (isAgg ty).run P w = .ok false w := by
    unfold isAgg
    rw [Sem.run_bind, run_underlying hu w]
    rfl
  simp only [Instr.loadAt, Instr.sureAddr, Sem.run_bind, Sem.run_pure, Result.andThen]
  simp [loadVar, Sem.run_bind, hagg, hc]
theorem q_slice {P : Program} {W : World} {o : Oper} {a : Act} {K : Act → Prop} {g : Nat} {c : Array Value} {T : TypeId} (ty : TypeId) (x : Operand) (ho : o.op = .load ty x) (e : TypeId) (hu : P.underlying ty = some (.slice e)) (k : Nat) (hx : a.eval x = .pointer (some ⟨g, k, none⟩)) (hA : At W g c T) (v : Value) (hk : c[k]? = some v) (hK : K (a.put o.dst v)) : o.quiet P a (Cb W) K :=
  q_load ty x ho _ hx v (fun w hw => run_load_slice w ty e hu _ v (At.cell (At.step hA hw) hk)) hK
theorem at_region {P : Program} {ops : Array Oper} {Q : Exit → Act → World → Prop} {a : Act} {w : World} (id : Nat) (h : (Code.region id ops false).wp P Q a w) : (Code.region id ops false).wp P Q a w := h
set_option maxHeartbeats 1000000 in
theorem steps_seq (cs : List Nat) (p b l : Nat) (ok : OkR cs p b l) (oo mm : Nat → Nat) (N : Nat) (hN : N ≤ 400) (ho : ∀ k, k < N → oo k < 2139095040) (hm : ∀ k, k < N → mm k < 2139095040) (g1 g2 g3 go gm : Nat) (co cm : Array Value) (To Tm : TypeId)
    (hco : ∀ k, k < N → co[k]? = some (.float .f32 (oo k))) (hcm : ∀ k, k < N → cm[k]? = some (.float .f32 (mm k))) (w : World) (Ar : At w g1 (rd cs p b l) 29) (Ao : At w g2 #[.slice (some ⟨go, 0, none⟩) N N] 26) (Am : At w g3 #[.slice (some ⟨gm, 0, none⟩) N N] 26) (Co : At w go co To) (Cm : At w gm cm Tm) :
    SeqB Fence.wide 2 Try.prog 124 #[.pointer (some ⟨g1, 0, none⟩), .pointer (some ⟨g2, 0, none⟩), .pointer (some ⟨g3, 0, none⟩)] (fun k => #[.agg (stepRow p b l cs oo mm k)]) N w := by
  intro l' J Jx W hW hJ hJx hY h0
  have HX := Lib.hid (And.intro hJ (And.intro hJx hY))
  have HO := Lib.hid (And.intro ho (And.intro hm (And.intro hco hcm)))
  clear hJ hJx hY ho hm hco hcm
  have hl := ok.len
  have sz1 := Ar.lt; have sz2 := Ao.lt; have sz3 := Am.lt; have sz4 := Co.lt; have sz5 := Cm.lt
  have hs := hW.size
  have A0 : At (W.alloc (.cells (rd (zeros 16) 0 0 0) 29)) g1 (rd cs p b l) 29 := (Ar.step hW).alloc _
  have O0 : At (W.alloc (.cells (rd (zeros 16) 0 0 0) 29)) g2 #[.slice (some ⟨go, 0, none⟩) N N] 26 := (Ao.step hW).alloc _
  have M0 : At (W.alloc (.cells (rd (zeros 16) 0 0 0) 29)) g3 #[.slice (some ⟨gm, 0, none⟩) N N] 26 := (Am.step hW).alloc _
  have P0 : At (W.alloc (.cells (rd (zeros 16) 0 0 0) 29)) go co To := (Co.step hW).alloc _
  have Q0 : At (W.alloc (.cells (rd (zeros 16) 0 0 0) 29)) gm cm Tm := (Cm.step hW).alloc _
  have N0 := At.new W (rd (zeros 16) 0 0 0) 29
  have B0 := b0 W (.cells (rd (zeros 16) 0 0 0) 29)
  have AW := Ar.step hW
  have SZ0 : (rd cs p b l).size = 19 := rd_size hl p b l
  have hA1 := A0.setRow_other (k := W.heap.size) (by omega) (rd cs p b l)
  have hO1 := O0.setRow_other (k := W.heap.size) (by omega) (rd cs p b l)
  have hM1 := M0.setRow_other (k := W.heap.size) (by omega) (rd cs p b l)
  have hP1 := P0.setRow_other (k := W.heap.size) (by omega) (rd cs p b l)
  have hQ1 := Q0.setRow_other (k := W.heap.size) (by omega) (rd cs p b l)
  have hN1 := N0.setRow (rd cs p b l)
  have hB1 := bset B0 (g := W.heap.size) (Nat.le_refl _) (rd cs p b l)
  have hJ1 := Lib.hid (HX.out.1 0 W _ h0 hB1)
  have BW := Lib.hid hW
  have HA := Lib.hid (And.intro Ao (And.intro Am (And.intro Co Cm)))
  have hBB := Lib.hid (hW.trans (hB1.mono hs))
  clear A0 O0 M0 P0 Q0 B0 Ar Ao Am Co Cm h0 hW hA1 hM1 hP1 hQ1 hB1
  refine callsIn_wide.2 ?_
  simp only [List.append_toArray, List.cons_append, List.nil_append]
  go_enter Try.func124, Try.ntmps124
  go_wp2_with (first
    | ((with_reducible refine is_load 29 (.tmp 1) rfl ?_); refine wpList_load_at rfl 29 (.tmp 1) rfl _ rfl (rd cs p b l) _ (by first | exact AW | exact AW.alloc _) 19 SZ0 _ Try.underlying29 rfl (by kernel_rfl) ?_)
    | ((with_reducible refine is_store 29 (.tmp 5) (.tmp 9) rfl ?_); refine wpList_store_at rfl 29 (.tmp 5) (.tmp 9) rfl _ rfl (rd cs p b l) rfl (rd (zeros 16) 0 0 0) _ N0 19 SZ0 (rd_size (zeros_len 16) _ _ _) (by kernel_rfl) (fl_one _) ?_; refine Hid.out ?_))
  refine Lib.hid ?_
  clear AW SZ0 N0
  rw [show (rd (zeros 16) 0 0 0 : Array Value) = #[.float .f32 0, .float .f32 0, .float .f32 0, .float .f32 0, .float .f32 0, .float .f32 0, .float .f32 0, .float .f32 0, .float .f32 0, .float .f32 0, .float .f32 0, .float .f32 0, .float .f32 0, .float .f32 0, .float .f32 0, .float .f32 0, .float .f32 0, .float .f32 0, .float .f32 0] from rfl] at hO1 hN1 hJ1 hBB
  generalize hw1 : (W.alloc (.cells #[.float .f32 0, .float .f32 0, .float .f32 0, .float .f32 0, .float .f32 0, .float .f32 0, .float .f32 0, .float .f32 0, .float .f32 0, .float .f32 0, .float .f32 0, .float .f32 0, .float .f32 0, .float .f32 0, .float .f32 0, .float .f32 0, .float .f32 0, .float .f32 0, .float .f32 0] 29)).setRow W.heap.size (rd cs p b l) = W1 at hO1 hN1 hJ1 hBB ⊢
  clear hw1
  have c2 := hO1.cell (k := 0) (v := .slice (some ⟨go, 0, none⟩) N N) rfl
  go_wp2
  clear c2
  have J1' := hJ1
  have BB' := hBB
  go_loopw [12] (fun i wr => ∃ k : Nat, k ≤ N ∧ i = .int .i64 k ∧ Hid (J k wr) ∧ At wr W.heap.size (rd (itL p b cs oo mm k) p b l) 29 ∧ Hid (Below w.heap.size w wr)) (fun i _ => N - (intOf i).toNat)
  case atStart => exact ⟨0, by omega, rfl, J1', hN1, BB'⟩
  case round =>
    obtain ⟨k, hk, rfl, J4, N4, B4⟩ := hrel
    clear hO1 hN1 hJ1 hBB J1' BB'
    have O4 := HA.out.1.step B4.out
    have M4 := HA.out.2.1.step B4.out
    have P4 := HA.out.2.2.1.step B4.out
    have Q4 := HA.out.2.2.2.step B4.out
    by_cases hlt : k < N
    · have hki : (k : Int) < (N : Int) := by omega
      have hk0 : (0 : Int) ≤ (k : Int) := by omega
      have s2 : IntKind.i64.wrap ((k : Int) + 1) = (k : Int) + 1 := IntWalk.i64_in _ (by omega)
      have okk := itL_ok ok oo mm k
      obtain ⟨ns, hns⟩ : ∃ ns, ns = itF p b cs oo mm k := ⟨_, rfl⟩
      have hn17 : ns.length = 17 := by rw [hns]; exact itF_len _ _ _ _ _ _
      have FZ : (fl ns).size = 17 := by rw [fl_size, hn17]
      have SK : (rd (itL p b cs oo mm k) p b l).size = 19 := rd_size okk.len p b l
      have SK1 : (rd (itL p b cs oo mm (k + 1)) p b l).size = 19 := rd_size (itL_ok ok oo mm (k + 1)).len p b l
      have dco := HO.out.2.2.1 k hlt
      have dcm := HO.out.2.2.2 k hlt
      have d0o : (#[.slice (some ⟨go, 0, none⟩) N N] : Array Value)[0]? = some (.slice (some ⟨go, 0, none⟩) N N) := rfl
      have d0m : (#[.slice (some ⟨gm, 0, none⟩) N N] : Array Value)[0]? = some (.slice (some ⟨gm, 0, none⟩) N N) := rfl
      have KF : ∀ W, Calls Try.prog 109 #[.agg (rd (itL p b cs oo mm k) p b l), .float .f32 (oo k), .float .f32 (mm k)] W fun e w' => e = .returned (.agg (fl ns)) ∧ Below W.heap.size W w' := fun W => by
        rw [hns]; exact fluxesOf_any _ p b l okk (oo k) (mm k) (HO.out.1 k hlt) (HO.out.2.1 k hlt) W
      have KI : ∀ W, Calls Try.prog 110 #[.agg (fl ns)] W fun e w' => e = .returned (.agg (fl (intoL ns))) ∧ Below W.heap.size W w' := intoCells_any ns hn17
      have KO : ∀ W, Calls Try.prog 112 #[.agg (fl ns)] W fun e w' => e = .returned (.agg (fl (outL ns))) ∧ Below W.heap.size W w' := outOfCells_any ns hn17
      have KL : ∀ W, Calls Try.prog 111 #[.agg (rd (itL p b cs oo mm k) p b l), .agg (fl (intoL ns)), .agg (fl (outL ns))] W fun e w' => e = .returned (.agg (rd (itL p b cs oo mm (k + 1)) p b l)) ∧ Below W.heap.size W w' := fun W => by
        rw [itL_next, ← hns]
        exact flowed_any _ (intoL ns) (outL ns) p b l okk.len (intoL_len hn17) (outL_len hn17) okk.cars (by rw [hns]; exact fun x hx => Nat.le_trans (intoL_le okk _ _ x hx) (by omega)) (by rw [hns]; exact outL_le okk _ _) W
      have HNS := Lib.hid hns
      clear hns okk
      go_wp2
      refine wp_region_alloc (n := 11) (ia := 10) (d := 7) (T := 73) (ZR := fl (zeros 17)) (by kernel_rfl) (by kernel_rfl) (by kernel_rfl) ⟨rfl, rfl, by decide, by kernel_rfl, by kernel_rfl, by kernel_rfl⟩ (fun ev w' => by kernel_rfl) ?_
      intro W9 hW9
      have N9 := N4.step hW9
      have O9 := O4.step hW9
      have M9 := M4.step hW9
      have P9 := P4.step hW9
      have Q9 := Q4.step hW9
      have hC := Cb.const W9
      simp (config := { decide := true }) only [cutOut, nop, List.mapIdx_cons, List.mapIdx_nil, if_true, if_false, List.take, List.drop]
      repeat (first
        | go_big_quiet_skip
        | (go_big_quiet_want; first
          | (refine q_row 29 _ rfl rfl N9 19 SK _ Try.underlying29 rfl (by kernel_rfl) ?_; go_simp; go_big_quiet_on)
          | (refine q_slice 26 _ rfl _ Try.underlying26 _ rfl O9 _ d0o ?_; go_simp; go_big_quiet_on)
          | (refine q_slice 26 _ rfl _ Try.underlying26 _ rfl M9 _ d0m ?_; go_simp; go_big_quiet_on)
          | (refine q_cell 22 _ rfl _ Try.underlying22 _ rfl P9 _ dco ?_; go_simp; go_big_quiet_on)
          | (refine q_cell 22 _ rfl _ Try.underlying22 _ rfl Q9 _ dcm ?_; go_simp; go_big_quiet_on)
          | (go_big_quiet_op; go_big_quiet_on)
          | (go_big_quiet_op; apply Exists.intro; refine ⟨fun w' hw' => ?_, ?_⟩; (go_at_call 109; exact (KF _).mono fun _ _ h => ⟨h.1, hw'.step h.2⟩); go_big_quiet_on)))
      refine wpQuiet_nil ?_
      intro gf w5 hw5 hgf F5
      clear N9 O9 M9 P9 Q9 hC hW9
      simp only [Act.put, List.setIfInBounds_toArray, List.set_cons_succ, List.set_cons_zero]
      have gfn : W.heap.size ≠ gf := by have := N4.lt; omega
      have N6 := (N4.step hw5).setRow_other (k := gf) gfn (fl ns)
      have F6 := F5.setRow (fl ns)
      have hwW : W.heap.size ≤ wr.heap.size := Nat.le_of_lt N4.lt
      have hwf : W.heap.size ≤ gf := Nat.le_trans hwW hgf
      have E6 := bset (hw5.mono hwW) (g := gf) hwf (fl ns)
      have J6 := Lib.hid (HX.out.1 k _ _ J4.out E6)
      have B6 := Lib.hid (B4.out.trans (E6.mono hs))
      clear hw5 E6 O4 M4 P4 Q4 N4 J4 B4
      go_wp2_with (((with_reducible refine is_store 73 (.tmp 7) (.tmp 24) rfl ?_); refine wpList_store_at rfl 73 (.tmp 7) (.tmp 24) rfl _ rfl (fl ns) rfl (fl (zeros 17)) _ (by assumption) 17 (FZ) (by rw [fl_size, zeros_len]) (by kernel_rfl) (fl_one _) ?_))
      clear F5
      generalize w5.setRow gf (fl ns) = w6 at N6 F6 J6 B6 ⊢
      try simp only [Act.put]
      refine wp_region_alloc (n := 7) (ia := 6) (d := 8) (T := 29) (ZR := rd (zeros 16) 0 0 0) (by kernel_rfl) (by kernel_rfl) (by kernel_rfl) ⟨rfl, rfl, by decide, by kernel_rfl, by kernel_rfl, by kernel_rfl⟩ (fun ev w' => by kernel_rfl) ?_
      intro W9 hW9
      have N9 := N6.step hW9
      have F9 := F6.step hW9
      have hC := Cb.const W9
      simp (config := { decide := true }) only [cutOut, nop, List.mapIdx_cons, List.mapIdx_nil, if_true, if_false, List.take, List.drop]
      repeat (first
        | go_big_quiet_skip
        | (go_big_quiet_want; first
          | (refine q_row 29 _ rfl rfl N9 19 SK _ Try.underlying29 rfl (by kernel_rfl) ?_; go_simp; go_big_quiet_on)
          | (refine q_row 73 _ rfl rfl F9 17 FZ _ Try.underlying73 rfl (by kernel_rfl) ?_; go_simp; go_big_quiet_on)
          | (go_big_quiet_op; go_big_quiet_on)
          | (go_big_quiet_op; apply Exists.intro; refine ⟨fun w' hw' => ?_, ?_⟩; (go_at_call 110; exact (KI _).mono fun _ _ h => ⟨h.1, hw'.step h.2⟩); go_big_quiet_on)
          | (go_big_quiet_op; apply Exists.intro; refine ⟨fun w' hw' => ?_, ?_⟩; (go_at_call 112; exact (KO _).mono fun _ _ h => ⟨h.1, hw'.step h.2⟩); go_big_quiet_on)
          | (go_big_quiet_op; apply Exists.intro; refine ⟨fun w' hw' => ?_, ?_⟩; (go_at_call 111; exact (KL _).mono fun _ _ h => ⟨h.1, hw'.step h.2⟩); go_big_quiet_on)))
      refine wpQuiet_nil ?_
      intro gx w7 hw7 hgx X7
      clear N9 F9 hC hW9
      simp only [Act.put, List.setIfInBounds_toArray, List.set_cons_succ, List.set_cons_zero]
      have nl6 := N6.lt
      have fl6 := F6.lt
      have N8 := (N6.step hw7).setRow_other (k := gx) (by omega) (rd (itL p b cs oo mm (k + 1)) p b l)
      have F8 := (F6.step hw7).setRow_other (k := gx) (by omega) (rd (itL p b cs oo mm (k + 1)) p b l)
      have X8 := X7.setRow (rd (itL p b cs oo mm (k + 1)) p b l)
      have E8 := bset (hw7.mono (Nat.le_of_lt nl6)) (g := gx) (by omega) (rd (itL p b cs oo mm (k + 1)) p b l)
      have J8 := Lib.hid (HX.out.1 k _ _ J6.out E8)
      have B8 := Lib.hid (B6.out.trans (E8.mono hs))
      clear hw7 E8 N6 F6 J6 B6
      go_wp2_with (((with_reducible refine is_store 29 (.tmp 8) (.tmp 30) rfl ?_); refine wpList_store_at rfl 29 (.tmp 8) (.tmp 30) rfl _ rfl (rd (itL p b cs oo mm (k + 1)) p b l) rfl (rd (zeros 16) 0 0 0) _ (by assumption) 19 (SK1) (rd_size (zeros_len 16) _ _ _) (by kernel_rfl) (fl_one _) ?_); refine Hid.out ?_)
      refine Lib.hid ?_
      clear X7
      generalize w7.setRow gx (rd (itL p b cs oo mm (k + 1)) p b l) = w8 at N8 F8 X8 J8 B8 ⊢
      try simp only [Act.put]
      refine wpList_nil ?_
      rename_i K5 a5
      refine a5 _ _ ?_
      clear a5
      obtain ⟨yf, yt, ya, yb, hy, hR⟩ := HX.out.2.2 k w8 hlt J8.out
      have HR := Lib.hid hR
      clear hR
      have hbld : Try.prog.built 101 [(0, .agg (rd (itL p b cs oo mm k) p b l)), (1, .agg (fl ns)), (2, .agg (rd (itL p b cs oo mm (k + 1)) p b l))] = some (stepRow p b l cs oo mm k) := by
        rw [show stepRow p b l cs oo mm k = rd (itL p b cs oo mm k) p b l ++ fl ns ++ rd (itL p b cs oo mm (k + 1)) p b l from by unfold stepRow; rw [← HNS.out]]
        exact built_step _ _ _ SK FZ SK1
      have HB := Lib.hid hbld
      clear hbld
      have xA : (rd (itL p b cs oo mm k) p b l).extract 0 (0 + 19) = rd (itL p b cs oo mm k) p b l := by rw [Nat.zero_add, ← SK, Array.extract_size]
      have xF : (fl ns).extract 0 (0 + 17) = fl ns := by rw [Nat.zero_add, ← FZ, Array.extract_size]
      have xC : (rd (itL p b cs oo mm (k + 1)) p b l).extract 0 (0 + 19) = rd (itL p b cs oo mm (k + 1)) p b l := by rw [Nat.zero_add, ← SK1, Array.extract_size]
      have hi := (show (Try.prog.info? 29).map (·.size) = some 19 by kernel_rfl)
      have hif := (show (Try.prog.info? 73).map (·.size) = some 17 by kernel_rfl)
      clear KF KI KO KL dco dcm d0o d0m
      refine (wpIn_wide (n := 2)).1 ?_
      gi_wp2_with (first
        | ((with_reducible refine inw_is_build 101 _ rfl ?_); refine inw_build3 rfl 101 0 1 2 (.tmp 32) (.tmp 33) (.tmp 34) rfl _ _ _ rfl rfl rfl _ HB.out ?_)
        | ((with_reducible refine inw_is_load 29 (.tmp 5) rfl ?_); refine inw_load_part rfl 29 (.tmp 5) rfl _ 0 rfl (rd (itL p b cs oo mm k) p b l) _ N8 19 (by omega) _ Try.underlying29 rfl hi _ xA ?_)
        | ((with_reducible refine inw_is_load 73 (.tmp 7) rfl ?_); refine inw_load_part rfl 73 (.tmp 7) rfl _ 0 rfl (fl ns) _ F8 17 (by omega) _ Try.underlying73 rfl hif _ xF ?_)
        | ((with_reducible refine inw_is_load 29 (.tmp 8) rfl ?_); refine inw_load_part rfl 29 (.tmp 8) rfl _ 0 rfl (rd (itL p b cs oo mm (k + 1)) p b l) _ X8 19 (by omega) _ Try.underlying29 rfl hi _ xC ?_))
      refine HR.out.mono ?_
      clear HR hy HB xA xF
      have nl8 := N8.lt
      have xl8 := X8.lt
      rintro e W' (⟨rfl, hJ', hkp, hbw⟩ | ⟨rfl, hJx'⟩)
      · have N9 : At W' W.heap.size (rd (itL p b cs oo mm k) p b l) 29 := (hkp.blk _ (Nat.le_refl _) nl8).trans N8
        have X9 : At W' gx (rd (itL p b cs oo mm (k + 1)) p b l) 29 := (hkp.blk _ (by omega) xl8).trans X8
        have NA := N9.setRow (rd (itL p b cs oo mm (k + 1)) p b l)
        have EA := bset (Below.refl W.heap.size W') (g := W.heap.size) (Nat.le_refl _) (rd (itL p b cs oo mm (k + 1)) p b l)
        have JA := Lib.hid (HX.out.1 (k + 1) _ _ hJ' EA)
        have BA := Lib.hid ((B8.out.trans hbw).trans (EA.mono hs))
        clear N8 F8 X8 J8 B8 hkp hbw EA hJ'
        gi_wp2_with (first
          | ((with_reducible refine inw_is_load 29 (.tmp 8) rfl ?_); refine inw_load_part rfl 29 (.tmp 8) rfl _ 0 rfl (rd (itL p b cs oo mm (k + 1)) p b l) _ X9 19 (by omega) _ Try.underlying29 rfl hi _ xC ?_)
          | ((with_reducible refine inw_is_store 29 (.tmp 5) (.tmp 38) rfl ?_); refine inw_store_at rfl 29 (.tmp 5) (.tmp 38) rfl _ rfl (rd (itL p b cs oo mm (k + 1)) p b l) rfl (rd (itL p b cs oo mm k) p b l) _ N9 19 SK1 SK hi (fl_one _) ?_))
        simp only [Act.put, List.setIfInBounds_toArray, List.set_cons_succ, List.set_cons_zero]
        clear X9 N9 xC hi hif
        go_wp2
        exact ⟨⟨k + 1, by omega, by go_num, JA, NA, BA⟩, by simp [intOf]; omega⟩
      · clear N8 F8 X8 J8 B8 xC hi hif
        have HJ := Lib.hid hJx'
        clear hJx'
        gi_wp2
        exact bodyPost_ret (results_none rfl _ _ _) rfl ⟨⟨_, rfl⟩, .inr ⟨k, hlt, HJ.out⟩⟩
    · obtain rfl : k = N := by omega
      clear O4 M4 P4 Q4 N4 B4
      go_wp2
      go_end0
      exact ⟨⟨_, rfl⟩, .inl J4.out⟩
end Go.Proofs.Ytafgcjjgnjialab
