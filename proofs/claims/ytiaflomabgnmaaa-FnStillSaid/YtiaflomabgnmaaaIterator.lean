/-
  CONTRACTS: one step of a road, as a row; the function that hands the steps of a road on.
-/
import Derived.Test.YtiaflomabgnmaaaSums
import Derived.Test.YtiaflomabgnmaaaG13
import Derived.Test.YtiaflomabgnmaaaG14
import Derived.Test.YtiaflomabgnmaaaStep
import Derived.Test.YtiaflomabgnmaaaG12
import Derived.Test.YtiaflomabgnmaaaG7
namespace Go.Proofs.Ytiaflomabgnmaaa
open Go Go.RowKit Go.Shelf
attribute [local go_sem] Oper.semAt_some
set_option maxRecDepth 100000

/-- a step, as it is handed on: the road, its flows, the road behind -/
def stR (p b l : Nat) (cs : List Nat) (o m : Nat) : Array Value := rd cs p b l ++ fl (fluxL p b cs o m) ++ rd (nextL p b cs o m) p b l

theorem stR_size {cs : List Nat} {p b l : Nat} (ok : OkR cs p b l) (o m : Nat) : (stR p b l cs o m).size = 55 := by
  unfold stR
  rw [Array.size_append, Array.size_append, rd_size ok.len, rd_size (nextL_len _ _ _ _ _), fl_size, fluxL_len]

theorem stR_one (p b l : Nat) (cs : List Nat) (o m : Nat) : (stR p b l cs o m).all (·.oneCell') = true := by
  unfold stR
  have h1 : ∀ (cs : List Nat) (p b l : Nat), (rd cs p b l).all (·.oneCell') = true := fun _ _ _ _ => fl_one _
  rw [Array.all_append, Array.all_append, fl_one, h1, h1]; rfl

section
variable {P : Program} {C : World → Prop} {o : Oper} {a : Act} {K : Act → Prop}
theorem q_build3 (t : TypeId) (i0 i1 i2 : Nat) (x0 x1 x2 : Operand) (ho : o.op = .build t #[(i0, x0), (i1, x1), (i2, x2)]) (v0 v1 v2 : Value) (e0 : a.eval x0 = v0) (e1 : a.eval x1 = v1) (e2 : a.eval x2 = v2) (c : Array Value)
    (hc : P.built t [(i0, v0), (i1, v1), (i2, v2)] = some c) (hK : K (a.put o.dst (.agg c))) : o.quiet P a C K := by
  refine ⟨.agg c, fun w hw => ?_, hK⟩
  have hc' : P.built t ((#[(i0, x0), (i1, x1), (i2, x2)].map fun (i, x) => (i, a.eval x)).toList) = some c := by simpa [e0, e1, e2] using hc
  unfold Oper.quietAt execOp
  simp only [ho, Sem.run_bind, run_build w t _ c hc', Result.andThen_ok]
  exact ⟨rfl, rfl⟩
end

set_option maxHeartbeats 1000000 in
theorem stepOf_any (cs : List Nat) (p b l : Nat) (ok : OkR cs p b l) (o m : Nat) (ho : o < 2139095040) (hm : m < 2139095040) (w : World) :
    Calls Try.prog 46 #[.agg (rd cs p b l), .float .f32 o, .float .f32 m] w fun e w' => e = .returned (.agg (stR p b l cs o m)) ∧ Below w.heap.size w w' := by
  have hl := ok.len
  have R0 : At ((w.alloc (.cells (rd cs p b l) 28)).alloc (.cells (#[.float .f32 0, .float .f32 0, .float .f32 0, .float .f32 0, .float .f32 0, .float .f32 0, .float .f32 0, .float .f32 0, .float .f32 0, .float .f32 0, .float .f32 0, .float .f32 0, .float .f32 0, .float .f32 0, .float .f32 0, .float .f32 0, .float .f32 0, .float .f32 0, .float .f32 0, .float .f32 0, .float .f32 0, .float .f32 0, .float .f32 0, .float .f32 0, .float .f32 0, .float .f32 0, .float .f32 0, .float .f32 0, .float .f32 0, .float .f32 0, .float .f32 0, .float .f32 0, .float .f32 0, .float .f32 0, .float .f32 0, .float .f32 0, .float .f32 0, .float .f32 0, .float .f32 0, .float .f32 0, .float .f32 0, .float .f32 0, .float .f32 0, .float .f32 0, .float .f32 0, .float .f32 0, .float .f32 0, .float .f32 0, .float .f32 0, .float .f32 0, .float .f32 0, .float .f32 0, .float .f32 0, .float .f32 0, .float .f32 0]) 67)) w.heap.size (rd cs p b l) 28 := (At.new w _ _).alloc _
  have Y0 : At ((w.alloc (.cells (rd cs p b l) 28)).alloc (.cells (#[.float .f32 0, .float .f32 0, .float .f32 0, .float .f32 0, .float .f32 0, .float .f32 0, .float .f32 0, .float .f32 0, .float .f32 0, .float .f32 0, .float .f32 0, .float .f32 0, .float .f32 0, .float .f32 0, .float .f32 0, .float .f32 0, .float .f32 0, .float .f32 0, .float .f32 0, .float .f32 0, .float .f32 0, .float .f32 0, .float .f32 0, .float .f32 0, .float .f32 0, .float .f32 0, .float .f32 0, .float .f32 0, .float .f32 0, .float .f32 0, .float .f32 0, .float .f32 0, .float .f32 0, .float .f32 0, .float .f32 0, .float .f32 0, .float .f32 0, .float .f32 0, .float .f32 0, .float .f32 0, .float .f32 0, .float .f32 0, .float .f32 0, .float .f32 0, .float .f32 0, .float .f32 0, .float .f32 0, .float .f32 0, .float .f32 0, .float .f32 0, .float .f32 0, .float .f32 0, .float .f32 0, .float .f32 0, .float .f32 0]) 67)) (w.heap.size + 1) (#[.float .f32 0, .float .f32 0, .float .f32 0, .float .f32 0, .float .f32 0, .float .f32 0, .float .f32 0, .float .f32 0, .float .f32 0, .float .f32 0, .float .f32 0, .float .f32 0, .float .f32 0, .float .f32 0, .float .f32 0, .float .f32 0, .float .f32 0, .float .f32 0, .float .f32 0, .float .f32 0, .float .f32 0, .float .f32 0, .float .f32 0, .float .f32 0, .float .f32 0, .float .f32 0, .float .f32 0, .float .f32 0, .float .f32 0, .float .f32 0, .float .f32 0, .float .f32 0, .float .f32 0, .float .f32 0, .float .f32 0, .float .f32 0, .float .f32 0, .float .f32 0, .float .f32 0, .float .f32 0, .float .f32 0, .float .f32 0, .float .f32 0, .float .f32 0, .float .f32 0, .float .f32 0, .float .f32 0, .float .f32 0, .float .f32 0, .float .f32 0, .float .f32 0, .float .f32 0, .float .f32 0, .float .f32 0, .float .f32 0]) 67 := At.last1 w _ _ _
  have B0 := Lib.hid (bnew (b0 w (.cells (rd cs p b l) 28)) (.cells (#[.float .f32 0, .float .f32 0, .float .f32 0, .float .f32 0, .float .f32 0, .float .f32 0, .float .f32 0, .float .f32 0, .float .f32 0, .float .f32 0, .float .f32 0, .float .f32 0, .float .f32 0, .float .f32 0, .float .f32 0, .float .f32 0, .float .f32 0, .float .f32 0, .float .f32 0, .float .f32 0, .float .f32 0, .float .f32 0, .float .f32 0, .float .f32 0, .float .f32 0, .float .f32 0, .float .f32 0, .float .f32 0, .float .f32 0, .float .f32 0, .float .f32 0, .float .f32 0, .float .f32 0, .float .f32 0, .float .f32 0, .float .f32 0, .float .f32 0, .float .f32 0, .float .f32 0, .float .f32 0, .float .f32 0, .float .f32 0, .float .f32 0, .float .f32 0, .float .f32 0, .float .f32 0, .float .f32 0, .float .f32 0, .float .f32 0, .float .f32 0, .float .f32 0, .float .f32 0, .float .f32 0, .float .f32 0, .float .f32 0]) 67))
  have hSZ := stR_size ok o m
  have hON := Lib.hid (stR_one p b l cs o m)
  obtain ⟨ns, hns⟩ : ∃ ns, ns = fluxL p b cs o m := ⟨_, rfl⟩
  have hn17 : ns.length = 17 := by rw [hns]; exact fluxL_len _ _ _ _ _
  have FZ : (fl ns).size = 17 := by rw [fl_size, hn17]
  have SK : (rd cs p b l).size = 19 := rd_size hl p b l
  have SK1 : (rd (nextL p b cs o m) p b l).size = 19 := rd_size (nextL_len _ _ _ _ _) p b l
  have KF : ∀ W, Calls Try.prog 48 #[.agg (rd cs p b l), .float .f32 o, .float .f32 m] W fun e w' => e = .returned (.agg (fl ns)) ∧ Below W.heap.size W w' := fun W => by
    rw [hns]; exact fluxesOf_any _ p b l ok o m ho hm W
  have KI : ∀ W, Calls Try.prog 50 #[.agg (fl ns)] W fun e w' => e = .returned (.agg (fl (intoL ns))) ∧ Below W.heap.size W w' := intoCells_any ns hn17
  have KO : ∀ W, Calls Try.prog 51 #[.agg (fl ns)] W fun e w' => e = .returned (.agg (fl (outL ns))) ∧ Below W.heap.size W w' := outOfCells_any ns hn17
  have KL : ∀ W, Calls Try.prog 49 #[.agg (rd cs p b l), .agg (fl (intoL ns)), .agg (fl (outL ns))] W fun e w' => e = .returned (.agg (rd (nextL p b cs o m) p b l)) ∧ Below W.heap.size W w' := fun W => by
    rw [show nextL p b cs o m = stepL cs (intoL ns) (outL ns) from by rw [hns]; rfl]
    exact flowed_any _ (intoL ns) (outL ns) p b l hl (intoL_len hn17) (outL_len hn17) ok.cars (fun x hx => by rw [hns] at hx; exact Nat.le_trans (intoL_le ok o m x hx) (by omega)) (fun x hx => by rw [hns] at hx; exact outL_le ok o m x hx) W
  have hbld : Try.prog.built 67 [(0, .agg (rd cs p b l)), (1, .agg (fl ns)), (2, .agg (rd (nextL p b cs o m) p b l))] = some (stR p b l cs o m) := by
    rw [show stR p b l cs o m = rd cs p b l ++ fl ns ++ rd (nextL p b cs o m) p b l from by unfold stR; rw [← hns]]
    exact built_step _ _ _ SK FZ SK1
  have HB := Lib.hid hbld
  clear hbld hns ho hm ok
  generalize stR p b l cs o m = row at *
  generalize nextL p b cs o m = nx at *
  go_enter Try.func46, Try.ntmps46
  go_wp2_with (((with_reducible refine is_load 28 _ rfl ?_); refine wpList_load_at rfl 28 _ rfl _ rfl (rd cs p b l) _ (by assumption) 19 (SK) _ Try.underlying28 rfl (by kernel_rfl) ?_))
  refine (KF _).mono ?_
  rintro e w1 ⟨rfl, hb1⟩
  have R1 := R0.step hb1
  have Y1 := Y0.step hb1
  have B1 := Lib.hid (bthen B0.out hb1)
  clear R0 Y0 B0 hb1 KF
  have F1 := At.new w1 (fl (zeros 17)) 65
  have F2 := F1.setRow (fl ns)
  have R2 := (R1.alloc (.cells (fl (zeros 17)) 65)).setRow_other (k := w1.heap.size) (Nat.ne_of_lt R1.lt) (fl ns)
  have Y2 := (Y1.alloc (.cells (fl (zeros 17)) 65)).setRow_other (k := w1.heap.size) (Nat.ne_of_lt Y1.lt) (fl ns)
  have B2 := Lib.hid (bset (bnew B1.out (.cells (fl (zeros 17)) 65)) (g := w1.heap.size) B1.out.size (fl ns))
  go_wp2_with (((with_reducible refine is_store 65 (.tmp 7) (.tmp 11) rfl ?_); refine wpList_store_at rfl 65 (.tmp 7) (.tmp 11) rfl _ rfl (fl ns) rfl (fl (zeros 17)) _ (by assumption) 17 (FZ) (by rw [fl_size, zeros_len]) (by kernel_rfl) (fl_one _) ?_))
  clear F1 R1 Y1 B1
  rw [show (fl (zeros 17) : Array Value) = #[.float .f32 0, .float .f32 0, .float .f32 0, .float .f32 0, .float .f32 0, .float .f32 0, .float .f32 0, .float .f32 0, .float .f32 0, .float .f32 0, .float .f32 0, .float .f32 0, .float .f32 0, .float .f32 0, .float .f32 0, .float .f32 0, .float .f32 0] from rfl] at F2 R2 Y2 B2
  generalize hw2 : (w1.alloc (.cells #[.float .f32 0, .float .f32 0, .float .f32 0, .float .f32 0, .float .f32 0, .float .f32 0, .float .f32 0, .float .f32 0, .float .f32 0, .float .f32 0, .float .f32 0, .float .f32 0, .float .f32 0, .float .f32 0, .float .f32 0, .float .f32 0, .float .f32 0] 65)).setRow w1.heap.size (fl ns) = w2 at F2 R2 Y2 B2 ⊢
  clear hw2
  generalize w1.heap.size = gf at F2 ⊢
  try simp only [Act.put]
  refine wp_region_cb_tail 9 (by kernel_rfl) (by kernel_rfl) ?_
  have hC := Cb.const w2
  simp only [List.take]
  repeat (first
    | go_big_quiet_skip
    | (go_big_quiet_want; first
      | (refine q_row 28 _ rfl rfl R2 19 SK _ Try.underlying28 rfl (by kernel_rfl) ?_; go_simp; go_big_quiet_on)
      | (refine q_row 65 _ rfl rfl F2 17 FZ _ Try.underlying65 rfl (by kernel_rfl) ?_; go_simp; go_big_quiet_on)
      | (refine q_build3 67 0 1 2 _ _ _ rfl _ _ _ rfl rfl rfl _ HB.out ?_; go_simp; go_big_quiet_on)
      | (go_big_quiet_op; go_big_quiet_on)
      | (go_big_quiet_op; apply Exists.intro; refine ⟨fun w' hw' => ?_, ?_⟩; (go_at_call 50; exact (KI _).mono fun _ _ h => ⟨h.1, hw'.step h.2⟩); go_big_quiet_on)
      | (go_big_quiet_op; apply Exists.intro; refine ⟨fun w' hw' => ?_, ?_⟩; (go_at_call 51; exact (KO _).mono fun _ _ h => ⟨h.1, hw'.step h.2⟩); go_big_quiet_on)
      | (go_big_quiet_op; apply Exists.intro; refine ⟨fun w' hw' => ?_, ?_⟩; (go_at_call 49; exact (KL _).mono fun _ _ h => ⟨h.1, hw'.step h.2⟩); go_big_quiet_on)))
  refine wpQuiet_nil ?_
  intro w5 hw5
  have Y5 := Y2.step hw5
  have Y6 := Y5.setRow row
  have B6 := Lib.hid (bset (bthen B2.out hw5) (g := w.heap.size + 1) (by omega) row)
  clear hC KI KO KL HB R2 F2 Y2 B2 hw5
  simp only [List.drop]
  go_wp2_with (((with_reducible refine is_store 67 _ _ rfl ?_); refine wpList_store_at rfl 67 _ _ rfl _ rfl row rfl (#[.float .f32 0, .float .f32 0, .float .f32 0, .float .f32 0, .float .f32 0, .float .f32 0, .float .f32 0, .float .f32 0, .float .f32 0, .float .f32 0, .float .f32 0, .float .f32 0, .float .f32 0, .float .f32 0, .float .f32 0, .float .f32 0, .float .f32 0, .float .f32 0, .float .f32 0, .float .f32 0, .float .f32 0, .float .f32 0, .float .f32 0, .float .f32 0, .float .f32 0, .float .f32 0, .float .f32 0, .float .f32 0, .float .f32 0, .float .f32 0, .float .f32 0, .float .f32 0, .float .f32 0, .float .f32 0, .float .f32 0, .float .f32 0, .float .f32 0, .float .f32 0, .float .f32 0, .float .f32 0, .float .f32 0, .float .f32 0, .float .f32 0, .float .f32 0, .float .f32 0, .float .f32 0, .float .f32 0, .float .f32 0, .float .f32 0, .float .f32 0, .float .f32 0, .float .f32 0, .float .f32 0, .float .f32 0, .float .f32 0]) _ Y5 55 hSZ rfl (by kernel_rfl) hON.out ?_))
  exact bodyPost_ret (v := .agg row) (results_at (p := 6) (ty := 67) rfl _ _ _ row _ rfl Y6 _ Try.underlying67 rfl 55 hSZ (by kernel_rfl)) rfl ⟨rfl, B6.out⟩

theorem run_load_slice {P : Program} (w : World) (ty e : TypeId) (hu : P.underlying ty = some (.slice e)) (ad : Addr) (v : Value) (hc : w.cell? ad = some v) : (Instr.loadAt ty (.pointer (some ad))).run P w = .ok v w := by
  have hagg : (isAgg ty).run P w = .ok false w := by
    unfold isAgg
    rw [Sem.run_bind, run_underlying hu w]
    rfl
  simp only [Instr.loadAt, Instr.sureAddr, Sem.run_bind, Sem.run_pure, Result.andThen]
  simp [loadVar, Sem.run_bind, hagg, hc]

theorem q_slice {P : Program} {W : World} {o : Oper} {a : Act} {K : Act → Prop} {g : Nat} {c : Array Value} {T : TypeId} (ty : TypeId) (x : Operand) (ho : o.op = .load ty x) (e : TypeId) (hu : P.underlying ty = some (.slice e)) (k : Nat) (hx : a.eval x = .pointer (some ⟨g, k, none⟩)) (hA : At W g c T) (v : Value) (hk : c[k]? = some v) (hK : K (a.put o.dst v)) : o.quiet P a (Cb W) K :=
  q_load ty x ho _ hx v (fun w hw => run_load_slice w ty e hu _ v (At.cell (At.step hA hw) hk)) hK

theorem at_region {P : Program} {ops : Array Oper} {Q : Exit → Act → World → Prop} {a : Act} {w : World} (id : Nat) (h : (Code.region id ops false).wp P Q a w) : (Code.region id ops false).wp P Q a w := h

set_option maxHeartbeats 1000000 in
theorem steps_seq (cs : List Nat) (p b l : Nat) (ok : OkR cs p b l) (oo mm : Nat → Nat) (N : Nat) (hN : N ≤ 400) (ho : ∀ k, k < N → oo k < 2139095040) (hm : ∀ k, k < N → mm k < 2139095040) (g1 g2 g3 go gm : Nat) (co cm : Array Value) (To Tm : TypeId)
    (hco : ∀ k, k < N → co[k]? = some (.float .f32 (oo k))) (hcm : ∀ k, k < N → cm[k]? = some (.float .f32 (mm k))) (w : World) (Ar : At w g1 (rd cs p b l) 28) (Ao : At w g2 #[.slice (some ⟨go, 0, none⟩) N N] 69) (Am : At w g3 #[.slice (some ⟨gm, 0, none⟩) N N] 69) (Co : At w go co To) (Cm : At w gm cm Tm) :
    SeqB Fence.wide 2 Try.prog 45 #[.pointer (some ⟨g1, 0, none⟩), .pointer (some ⟨g2, 0, none⟩), .pointer (some ⟨g3, 0, none⟩)] (fun k => #[.agg (stepRow p b l cs oo mm k)]) N w := by
  intro l' J Jx W hW hJ hJx hY h0
  have HX := Lib.hid (And.intro hJ (And.intro hJx hY))
  have HO := Lib.hid (And.intro ho (And.intro hm (And.intro hco hcm)))
  clear hJ hJx hY ho hm hco hcm
  have hl := ok.len
  have sz1 := Ar.lt; have sz2 := Ao.lt; have sz3 := Am.lt; have sz4 := Co.lt; have sz5 := Cm.lt
  have hs := hW.size
  have A0 : At (W.alloc (.cells (rd (zeros 16) 0 0 0) 28)) g1 (rd cs p b l) 28 := (Ar.step hW).alloc _
  have O0 : At (W.alloc (.cells (rd (zeros 16) 0 0 0) 28)) g2 #[.slice (some ⟨go, 0, none⟩) N N] 69 := (Ao.step hW).alloc _
  have M0 : At (W.alloc (.cells (rd (zeros 16) 0 0 0) 28)) g3 #[.slice (some ⟨gm, 0, none⟩) N N] 69 := (Am.step hW).alloc _
  have P0 : At (W.alloc (.cells (rd (zeros 16) 0 0 0) 28)) go co To := (Co.step hW).alloc _
  have Q0 : At (W.alloc (.cells (rd (zeros 16) 0 0 0) 28)) gm cm Tm := (Cm.step hW).alloc _
  have N0 := At.new W (rd (zeros 16) 0 0 0) 28
  have B0 := b0 W (.cells (rd (zeros 16) 0 0 0) 28)
  have AW := Ar.step hW
  have SZ0 : (rd cs p b l).size = 19 := rd_size hl p b l
  have hA1 := A0.setRow_other (k := W.heap.size) (by omega) (rd cs p b l)
  have hO1 := O0.setRow_other (k := W.heap.size) (by omega) (rd cs p b l)
  have hM1 := M0.setRow_other (k := W.heap.size) (by omega) (rd cs p b l)
  have hP1 := P0.setRow_other (k := W.heap.size) (by omega) (rd cs p b l)
  have hQ1 := Q0.setRow_other (k := W.heap.size) (by omega) (rd cs p b l)
  have hN1 := N0.setRow (rd cs p b l)
  have hB1 := bset B0 (g := W.heap.size) (Nat.le_refl _) (rd cs p b l)
  have hJ1 := Lib.hid (HX.out.1 0 W _ h0 hB1)
  have BW := Lib.hid hW
  have HA := Lib.hid (And.intro Ao (And.intro Am (And.intro Co Cm)))
  have hBB := Lib.hid (hW.trans (hB1.mono hs))
  clear A0 O0 M0 P0 Q0 B0 Ar Ao Am Co Cm h0 hW hA1 hM1 hP1 hQ1 hB1
  refine callsIn_wide.2 ?_
  simp only [List.append_toArray, List.cons_append, List.nil_append]
  go_enter Try.func45, Try.ntmps45
  go_wp2_with (first
    | ((with_reducible refine is_load 28 (.tmp 1) rfl ?_); refine wpList_load_at rfl 28 (.tmp 1) rfl _ rfl (rd cs p b l) _ (by first | exact AW | exact AW.alloc _) 19 SZ0 _ Try.underlying28 rfl (by kernel_rfl) ?_)
    | ((with_reducible refine is_store 28 (.tmp 5) (.tmp 8) rfl ?_); refine wpList_store_at rfl 28 (.tmp 5) (.tmp 8) rfl _ rfl (rd cs p b l) rfl (rd (zeros 16) 0 0 0) _ N0 19 SZ0 (rd_size (zeros_len 16) _ _ _) (by kernel_rfl) (fl_one _) ?_; refine Hid.out ?_))
  refine Lib.hid ?_
  clear AW SZ0 N0
  rw [show (rd (zeros 16) 0 0 0 : Array Value) = #[.float .f32 0, .float .f32 0, .float .f32 0, .float .f32 0, .float .f32 0, .float .f32 0, .float .f32 0, .float .f32 0, .float .f32 0, .float .f32 0, .float .f32 0, .float .f32 0, .float .f32 0, .float .f32 0, .float .f32 0, .float .f32 0, .float .f32 0, .float .f32 0, .float .f32 0] from rfl] at hO1 hN1 hJ1 hBB
  generalize hw1 : (W.alloc (.cells #[.float .f32 0, .float .f32 0, .float .f32 0, .float .f32 0, .float .f32 0, .float .f32 0, .float .f32 0, .float .f32 0, .float .f32 0, .float .f32 0, .float .f32 0, .float .f32 0, .float .f32 0, .float .f32 0, .float .f32 0, .float .f32 0, .float .f32 0, .float .f32 0, .float .f32 0] 28)).setRow W.heap.size (rd cs p b l) = W1 at hO1 hN1 hJ1 hBB ⊢
  clear hw1
  have c2 := hO1.cell (k := 0) (v := .slice (some ⟨go, 0, none⟩) N N) rfl
  go_wp2
  clear c2
  have J1' := hJ1
  have BB' := hBB
  go_loopw [11] (fun i wr => ∃ k : Nat, k ≤ N ∧ i = .int .i64 k ∧ Hid (J k wr) ∧ At wr W.heap.size (rd (itL p b cs oo mm k) p b l) 28 ∧ Hid (Below w.heap.size w wr)) (fun i _ => N - (intOf i).toNat)
  case atStart => exact ⟨0, by omega, rfl, J1', hN1, BB'⟩
  case round =>
    obtain ⟨k, hk, rfl, J4, N4, B4⟩ := hrel
    clear hO1 hN1 hJ1 hBB J1' BB'
    have O4 := HA.out.1.step B4.out
    have M4 := HA.out.2.1.step B4.out
    have P4 := HA.out.2.2.1.step B4.out
    have Q4 := HA.out.2.2.2.step B4.out
    by_cases hlt : k < N
    · have hki : (k : Int) < (N : Int) := by omega
      have hk0 : (0 : Int) ≤ (k : Int) := by omega
      have s2 : IntKind.i64.wrap ((k : Int) + 1) = (k : Int) + 1 := IntWalk.i64_in _ (by omega)
      have okk := itL_ok ok oo mm k
      have SK : (rd (itL p b cs oo mm k) p b l).size = 19 := rd_size okk.len p b l
      have SK1 : (rd (itL p b cs oo mm (k + 1)) p b l).size = 19 := rd_size (itL_ok ok oo mm (k + 1)).len p b l
      have SZ5 := stepRow_size ok oo mm k
      have ON5 := Lib.hid (stepRow_one p b l cs oo mm k)
      have xC := stepRow_after ok oo mm k
      have dco := HO.out.2.2.1 k hlt
      have dcm := HO.out.2.2.2 k hlt
      have d0o : (#[.slice (some ⟨go, 0, none⟩) N N] : Array Value)[0]? = some (.slice (some ⟨go, 0, none⟩) N N) := rfl
      have d0m : (#[.slice (some ⟨gm, 0, none⟩) N N] : Array Value)[0]? = some (.slice (some ⟨gm, 0, none⟩) N N) := rfl
      have KS : ∀ W, Calls Try.prog 46 #[.agg (rd (itL p b cs oo mm k) p b l), .float .f32 (oo k), .float .f32 (mm k)] W fun e w' => e = .returned (.agg (stepRow p b l cs oo mm k)) ∧ Below W.heap.size W w' := fun W => stepOf_any _ p b l okk (oo k) (mm k) (HO.out.1 k hlt) (HO.out.2.1 k hlt) W
      clear okk
      go_wp2
      refine wp_region_alloc (n := 11) (ia := 10) (d := 7) (T := 67) (ZR := #[.float .f32 0, .float .f32 0, .float .f32 0, .float .f32 0, .float .f32 0, .float .f32 0, .float .f32 0, .float .f32 0, .float .f32 0, .float .f32 0, .float .f32 0, .float .f32 0, .float .f32 0, .float .f32 0, .float .f32 0, .float .f32 0, .float .f32 0, .float .f32 0, .float .f32 0, .float .f32 0, .float .f32 0, .float .f32 0, .float .f32 0, .float .f32 0, .float .f32 0, .float .f32 0, .float .f32 0, .float .f32 0, .float .f32 0, .float .f32 0, .float .f32 0, .float .f32 0, .float .f32 0, .float .f32 0, .float .f32 0, .float .f32 0, .float .f32 0, .float .f32 0, .float .f32 0, .float .f32 0, .float .f32 0, .float .f32 0, .float .f32 0, .float .f32 0, .float .f32 0, .float .f32 0, .float .f32 0, .float .f32 0, .float .f32 0, .float .f32 0, .float .f32 0, .float .f32 0, .float .f32 0, .float .f32 0, .float .f32 0]) (by kernel_rfl) (by kernel_rfl) (by kernel_rfl) ⟨rfl, rfl, by decide, by kernel_rfl, by kernel_rfl, by kernel_rfl⟩ (fun ev w' => by kernel_rfl) ?_
      intro W9 hW9
      have N9 := N4.step hW9
      have O9 := O4.step hW9
      have M9 := M4.step hW9
      have P9 := P4.step hW9
      have Q9 := Q4.step hW9
      have hC := Cb.const W9
      simp (config := { decide := true }) only [cutOut, nop, List.mapIdx_cons, List.mapIdx_nil, if_true, if_false, List.take, List.drop]
      repeat (first
        | go_big_quiet_skip
        | (go_big_quiet_want; first
          | (refine q_row 28 _ rfl rfl N9 19 SK _ Try.underlying28 rfl (by kernel_rfl) ?_; go_simp; go_big_quiet_on)
          | (refine q_slice 69 _ rfl _ Try.underlying69 _ rfl O9 _ d0o ?_; go_simp; go_big_quiet_on)
          | (refine q_slice 69 _ rfl _ Try.underlying69 _ rfl M9 _ d0m ?_; go_simp; go_big_quiet_on)
          | (refine q_cell 24 _ rfl _ Try.underlying24 _ rfl P9 _ dco ?_; go_simp; go_big_quiet_on)
          | (refine q_cell 24 _ rfl _ Try.underlying24 _ rfl Q9 _ dcm ?_; go_simp; go_big_quiet_on)
          | (go_big_quiet_op; go_big_quiet_on)
          | (go_big_quiet_op; apply Exists.intro; refine ⟨fun w' hw' => ?_, ?_⟩; (go_at_call 46; exact (KS _).mono fun _ _ h => ⟨h.1, hw'.step h.2⟩); go_big_quiet_on)))
      refine wpQuiet_nil ?_
      intro gf w5 hw5 hgf F5
      clear N9 O9 M9 P9 Q9 hC hW9 KS dco dcm d0o d0m
      simp only [Act.put, List.setIfInBounds_toArray, List.set_cons_succ, List.set_cons_zero]
      have gfn : W.heap.size ≠ gf := by have := N4.lt; omega
      have N6 := (N4.step hw5).setRow_other (k := gf) gfn (stepRow p b l cs oo mm k)
      have F6 := F5.setRow (stepRow p b l cs oo mm k)
      have hwW : W.heap.size ≤ wr.heap.size := Nat.le_of_lt N4.lt
      have hwf : W.heap.size ≤ gf := Nat.le_trans hwW hgf
      have E6 := bset (hw5.mono hwW) (g := gf) hwf (stepRow p b l cs oo mm k)
      have J6 := Lib.hid (HX.out.1 k _ _ J4.out E6)
      have B6 := Lib.hid (B4.out.trans (E6.mono hs))
      clear hw5 E6 O4 M4 P4 Q4 N4 J4 B4
      go_wp2_with (((with_reducible refine is_store 67 _ _ rfl ?_); refine wpList_store_at rfl 67 _ _ rfl _ rfl (stepRow p b l cs oo mm k) rfl (#[.float .f32 0, .float .f32 0, .float .f32 0, .float .f32 0, .float .f32 0, .float .f32 0, .float .f32 0, .float .f32 0, .float .f32 0, .float .f32 0, .float .f32 0, .float .f32 0, .float .f32 0, .float .f32 0, .float .f32 0, .float .f32 0, .float .f32 0, .float .f32 0, .float .f32 0, .float .f32 0, .float .f32 0, .float .f32 0, .float .f32 0, .float .f32 0, .float .f32 0, .float .f32 0, .float .f32 0, .float .f32 0, .float .f32 0, .float .f32 0, .float .f32 0, .float .f32 0, .float .f32 0, .float .f32 0, .float .f32 0, .float .f32 0, .float .f32 0, .float .f32 0, .float .f32 0, .float .f32 0, .float .f32 0, .float .f32 0, .float .f32 0, .float .f32 0, .float .f32 0, .float .f32 0, .float .f32 0, .float .f32 0, .float .f32 0, .float .f32 0, .float .f32 0, .float .f32 0, .float .f32 0, .float .f32 0, .float .f32 0]) _ F5 55 SZ5 rfl (by kernel_rfl) ON5.out ?_; refine Hid.out ?_))
      refine Lib.hid ?_
      clear F5
      generalize w5.setRow gf (stepRow p b l cs oo mm k) = w8 at N6 F6 J6 B6 ⊢
      try simp only [Act.put]
      refine wpList_nil ?_
      rename_i K5 a5
      refine a5 _ _ ?_
      clear a5
      obtain ⟨yf, yt, ya, yb, hy, hR⟩ := HX.out.2.2 k w8 hlt J6.out
      have HR := Lib.hid hR
      clear hR
      have xS : (stepRow p b l cs oo mm k).extract 0 (0 + 55) = stepRow p b l cs oo mm k := by rw [Nat.zero_add, ← SZ5, Array.extract_size]
      have hi := (show (Try.prog.info? 28).map (·.size) = some 19 by kernel_rfl)
      have his := (show (Try.prog.info? 67).map (·.size) = some 55 by kernel_rfl)
      refine (wpIn_wide (n := 2)).1 ?_
      gi_wp2_with (first
        | ((with_reducible refine inw_is_load 67 (.tmp 7) rfl ?_); refine inw_load_part rfl 67 (.tmp 7) rfl _ 0 rfl (stepRow p b l cs oo mm k) _ F6 55 (by omega) _ Try.underlying67 rfl his _ xS ?_))
      refine HR.out.mono ?_
      clear HR hy xS
      have nl8 := N6.lt
      have fl8 := F6.lt
      rintro e W' (⟨rfl, hJ', hkp, hbw⟩ | ⟨rfl, hJx'⟩)
      · have N9 : At W' W.heap.size (rd (itL p b cs oo mm k) p b l) 28 := (hkp.blk _ (Nat.le_refl _) nl8).trans N6
        have F9 : At W' gf (stepRow p b l cs oo mm k) 67 := (hkp.blk _ (by omega) fl8).trans F6
        have NA := N9.setRow (rd (itL p b cs oo mm (k + 1)) p b l)
        have EA := bset (Below.refl W.heap.size W') (g := W.heap.size) (Nat.le_refl _) (rd (itL p b cs oo mm (k + 1)) p b l)
        have JA := Lib.hid (HX.out.1 (k + 1) _ _ hJ' EA)
        have BA := Lib.hid ((B6.out.trans hbw).trans (EA.mono hs))
        clear N6 F6 J6 B6 hkp hbw EA hJ' ON5
        gi_wp2_with (first
          | ((with_reducible refine inw_is_load 28 (.tmp 28) rfl ?_); refine inw_load_part rfl 28 (.tmp 28) rfl _ 36 rfl (stepRow p b l cs oo mm k) _ F9 19 (by omega) _ Try.underlying28 rfl hi _ xC ?_)
          | ((with_reducible refine inw_is_store 28 (.tmp 5) (.tmp 29) rfl ?_); refine inw_store_at rfl 28 (.tmp 5) (.tmp 29) rfl _ rfl (rd (itL p b cs oo mm (k + 1)) p b l) rfl (rd (itL p b cs oo mm k) p b l) _ N9 19 SK1 SK hi (fl_one _) ?_))
        simp only [Act.put, List.setIfInBounds_toArray, List.set_cons_succ, List.set_cons_zero]
        clear F9 N9 xC hi his
        go_wp2
        exact ⟨⟨k + 1, by omega, by go_num, JA, NA, BA⟩, by simp [intOf]; omega⟩
      · clear N6 F6 J6 B6 xC hi his
        have HJ := Lib.hid hJx'
        clear hJx'
        gi_wp2
        exact bodyPost_ret (results_none rfl _ _ _) rfl ⟨⟨_, rfl⟩, .inr ⟨k, hlt, HJ.out⟩⟩
    · obtain rfl : k = N := by omega
      clear O4 M4 P4 Q4 N4 B4
      go_wp2
      go_end0
      exact ⟨⟨_, rfl⟩, .inl J4.out⟩
end Go.Proofs.Ytiaflomabgnmaaa
