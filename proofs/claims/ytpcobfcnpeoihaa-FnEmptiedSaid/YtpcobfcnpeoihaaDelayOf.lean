/-
  CONTRACTS: DelayOf, the program's.
-/
import Derived.Test.YtpcobfcnpeoihaaG14
import Derived.Test.YtpcobfcnpeoihaaSeqL
import Derived.Test.YtpcobfcnpeoihaaSteps
import Derived.Test.YtpcobfcnpeoihaaG7
namespace Go.Proofs.Ytpcobfcnpeoihaa
open Go Go.RowKit Go.Shelf
attribute [local go_sem] Oper.semAt_some
set_option maxRecDepth 100000

section
variable {l n i : Nat} {P : Program} {ops : Array Oper} {Q : Exit → Act → World → Prop} {K : Act → World → Prop} {o : Oper} {a : Act} {w w' : World} {v : Value}
theorem opI_value (ho : ops[i]? = some o) (hg : o.guard = none) (hd : ∀ c, o.op ≠ .defer c) (hx : (execOp a.eval o).run P w = .ok (.value v) w') (hK : K (a.put o.dst v) w') : wpOpIn (Fence.wide.inRound l) n P ops Q i K a w := by
  unfold wpOpIn
  simp only [ho, wanted_none hg, if_true]
  refine ⟨fun _ _ => trivial, ?_⟩
  rw [show (Fence.wide.inRound l).round = some l from rfl, Oper.semAt_some l _ o hd, hx]
  exact hK
theorem opI_skip (ho : ops[i]? = some o) (hg : o.guard = none) (hd : ∀ c, o.op ≠ .defer c) (hx : (execOp a.eval o).run P w = .ok .skip w') (hK : K (a.put o.dst undef) w') : wpOpIn (Fence.wide.inRound l) n P ops Q i K a w := by
  unfold wpOpIn
  simp only [ho, wanted_none hg, if_true]
  refine ⟨fun _ _ => trivial, ?_⟩
  rw [show (Fence.wide.inRound l).round = some l from rfl, Oper.semAt_some l _ o hd, hx]
  exact hK
theorem opI_call {f : FuncId} {args : Array Value} (ho : ops[i]? = some o) (hg : o.guard = none) (hd : ∀ c, o.op ≠ .defer c) (hx : (execOp a.eval o).run P w = .ok (.enter f args) w) (hc : Calls P f args w fun e w' => ∃ v, e = .returned v ∧ K (a.put o.dst v) w') : wpOpIn (Fence.wide.inRound l) n P ops Q i K a w := by
  unfold wpOpIn
  simp only [ho, wanted_none hg, if_true]
  refine ⟨fun _ _ => trivial, ?_⟩
  rw [show (Fence.wide.inRound l).round = some l from rfl, Oper.semAt_some l _ o hd, hx]
  refine ⟨fun h => (by cases h), CallsIn.inRound l (callsIn_wide.2 (hc.mono ?_))⟩
  rintro e w2 ⟨v, rfl, hK⟩
  exact hK
end

theorem DelayOf_no (cs : List Nat) (p b l : Nat) (hl : cs.length = 16) (hc : ∀ x ∈ cs, x < 4294967296) (hp : p < 4294967296) (hb : b < 4294967296) (hla : l < 4294967296) (o m : Nat) (ho : o < 4294967296) (hm : m < 4294967296) (n : Int) (h : stepsC (okB cs p b l) o m n ≠ 0) (w : World) :
    Calls Try.prog 15 #[.agg (rd cs p b l), .float .f32 o, .float .f32 m, .int .i64 n] w fun e w' => e = .returned (.tuple #[.float .f32 0, .int .i64 (stepsC (okB cs p b l) o m n)]) ∧ Below w.heap.size w w' := by
  have A0 := At.new w (rd cs p b l) 28
  have B0 := Lib.hid (b0 w (.cells (rd cs p b l) 28))
  have KR := fun w => refusalOfSteps_any cs p b l hl hc hp hb hla o m ho hm n w
  generalize stepsC (okB cs p b l) o m n = c at KR h ⊢
  have gne : (c == 0) = false := by simp [h]
  go_enter Try.func15, Try.ntmps15
  go_wp2_with (((with_reducible refine is_load 28 _ rfl ?_); refine wpList_load_at rfl 28 _ rfl _ rfl (rd cs p b l) _ A0 19 (rd_size hl p b l) _ Try.underlying28 rfl (by kernel_rfl) ?_))
  refine (KR _).mono ?_
  rintro e' w1 ⟨rfl, hb1⟩
  have B1 := Lib.hid (bthen B0.out hb1)
  clear KR A0 B0 hb1
  go_wp2_with fail
  go_ret2
  exact ⟨rfl, B1.out⟩

set_option maxHeartbeats 2000000 in
theorem DelayOf_yes (cs : List Nat) (p b l : Nat) (hl : cs.length = 16) (hc : ∀ x ∈ cs, x < 4294967296) (hp : p < 4294967296) (hb : b < 4294967296) (hla : l < 4294967296) (o m : Nat) (ho : o < 4294967296) (hm : m < 4294967296) (N : Nat) (hN : N ≤ 400) (h : givenC (okB cs p b l) o m = 0) (w : World) :
    Calls Try.prog 15 #[.agg (rd cs p b l), .float .f32 o, .float .f32 m, .int .i64 (N : Int)] w fun e w' => e = .returned (.tuple #[.float .f32 (mulB (dAll p b cs (fun _ => o) (fun _ => m) N) l), .int .i64 0]) ∧ Below w.heap.size w w' := by
  have A0 := At.new w (rd cs p b l) 28
  have B0 := Lib.hid (b0 w (.cells (rd cs p b l) 28))
  have gz := given_zero h
  have ok := OkR.of hl gz.1
  have KR := fun w => refusalOfSteps_any cs p b l hl hc hp hb hla o m ho hm N w
  rw [show stepsC (okB cs p b l) o m N = 0 from by unfold stepsC; rw [if_pos h, if_pos (by omega)]] at KR
  have GZ := Lib.hid gz.2
  clear gz h
  refine (callsIn_wide (n := 3)).1 ?_
  refine callsIn_of_wp_marks Try.func15 rfl trivial ?_ rfl
  refine wpIn_wide.2 ?_
  simp only [Try.ntmps15, List.size_toArray, List.length_cons, List.length_nil, Nat.reduceAdd, Nat.reduceSub, Array.replicate_succ, Array.replicate_zero, List.push_toArray, List.append_toArray, List.nil_append, List.cons_append]
  go_wp2_with (((with_reducible refine is_load 28 _ rfl ?_); refine wpList_load_at rfl 28 _ rfl _ rfl (rd cs p b l) _ A0 19 (rd_size hl p b l) _ Try.underlying28 rfl (by kernel_rfl) ?_))
  refine (KR _).mono ?_
  rintro e' w1 ⟨rfl, hb1⟩
  have A1 := A0.step hb1
  have B1 := Lib.hid (bthen B0.out hb1)
  clear KR A0 B0 hb1
  have S1 := At.new w1 #[.float .f32 0] 24
  have A2 := A1.alloc (.cells #[.float .f32 0] 24)
  have B2 := Lib.hid (bnew B1.out (.cells #[.float .f32 0] 24))
  have gs0 := B1.out.size
  have al1 := A1.lt
  go_wp2_with (first | ((with_reducible refine is_load 28 _ rfl ?_); refine wpList_load_at rfl 28 _ rfl _ rfl (rd cs p b l) _ A2 19 (rd_size hl p b l) _ Try.underlying28 rfl (by kernel_rfl) ?_))
  clear A1 B1
  generalize hw2 : w1.alloc (.cells #[.float .f32 0] 24) = w2 at S1 A2 B2 ⊢
  clear hw2
  generalize w1.heap.size = gs at S1 gs0 al1 ⊢
  refine (steadySteps_lo cs p b l hl o m N hN w2).mono ?_
  rintro e w3 ⟨⟨lb, rfl, g1, g2, g3, go, gm, rfl, ⟨q1, q2, q3, q4, q5⟩, a1, a2, a3, a4, a5⟩, hb3⟩
  have hlo : gs + 1 ≤ w2.heap.size := S1.lt
  have A3 := A2.step hb3
  have S3 := S1.step hb3
  have B3 := Lib.hid (bthen B2.out hb3)
  clear A2 S1 B2 hb3
  have hrep : ∀ x k : Nat, k < N → (fl (List.replicate 400 x))[k]? = some (.float .f32 x) := fun x k hk => by
    have h1 := fl_get (xs := List.replicate 400 x) (k := k) (by simp; omega)
    rw [h1]
    congr 2
    unfold nth
    rw [List.getD_eq_getElem?_getD, List.getElem?_replicate, if_pos (by omega)]; rfl
  have SQ := Lib.hid (steps_seqL (gs + 1) cs p b l ok (fun _ => o) (fun _ => m) N hN (fun _ _ => GZ.out.1) (fun _ _ => GZ.out.2) g1 g2 g3 go gm _ _ _ _ (hrep o) (hrep m) w3 a1 a2 a3 a4 a5 (by omega) (by omega) (by omega) (by omega) (by omega))
  clear a1 a2 a3 a4 a5 hrep q1 q2 q3 q4 q5
  go_wp2
  have Z2 := S3.lt
  have Z3 := A3.lt
  have HH := Lib.hid (And.intro hc (And.intro hp (And.intro hb hla)))
  clear hc hp hb hla
  refine (wpIn_wide (n := 3)).1 (wpIn_rangeL (lo := gs + 1) (w0 := w3) (N := N) rfl (by omega) (gf := 63) (lb := #[.pointer (some ⟨g1, 0, none⟩), .pointer (some ⟨g2, 0, none⟩), .pointer (some ⟨g3, 0, none⟩)]) rfl trivial (enters_of Try.func63 (by kernel_rfl) rfl) SQ.out (Below.refl _ _) (fun _ => rfl)
    (fun k W => At W w.heap.size (rd cs p b l) 28 ∧ At W gs #[.float .f32 (dAll p b cs (fun _ => o) (fun _ => m) k)] 24 ∧ Hid (Below w.heap.size w W)) (fun _ _ => False) ?_ (fun _ _ _ h _ => h) ⟨A3, S3, B3⟩ ?_ ?_ (fun _ _ _ _ _ h => h.elim))
  · rintro k A B ⟨a1, a2, a5⟩ hb
    exact ⟨(hb.block _ (by omega)).trans a1, (hb.block _ (by omega)).trans a2, Lib.hid (a5.out.trans (hb.mono B3.out.size))⟩
  · rintro l' k W hl1 hl2 hkN ⟨A4, S4, B4⟩
    clear A3 S3
    rw [fold_one]
    change Code.wpIn _ _ _ _ _ { tmps := #[.agg (rd cs p b l), .float .f32 o, .float .f32 m, .int .i64 (N : Int), .pointer (some ⟨w.heap.size, 0, none⟩), undef, undef, undef, .float .f32 0, .int .i64 0, .int .i64 0, .pointer (some ⟨gs, 0, none⟩), undef, .agg (rd cs p b l), .float .f32 o, .float .f32 m, .int .i64 (N : Int), .int .i64 0, .int .i64 0, .bool false, undef, .agg (rd cs p b l), .float .f32 o, .float .f32 m, .int .i64 (N : Int), .func (.func 63) #[] #[.pointer (some ⟨g1, 0, none⟩), .pointer (some ⟨g2, 0, none⟩), .pointer (some ⟨g3, 0, none⟩)], .agg (stepRow p b l cs (fun _ => o) (fun _ => m) k), undef, undef, undef, undef, undef, undef, undef, undef], defers := [] } W
    have hz : (Try.prog.info? 66).map (·.size) = some 55 := by kernel_rfl
    have ZN := At.new W (rd (zeros 16) 0 0 0 ++ fl (zeros 17) ++ rd (zeros 16) 0 0 0) 66
    have zs : (rd (zeros 16) 0 0 0 ++ fl (zeros 17) ++ rd (zeros 16) 0 0 0).size = 55 := by rfl
    have ss : (stepRow p b l cs (fun _ => o) (fun _ => m) k).size = 55 := stepRow_size ok (fun _ => o) (fun _ => m) k
    have so : (stepRow p b l cs (fun _ => o) (fun _ => m) k).all (·.oneCell') = true := stepRow_one p b l cs (fun _ => o) (fun _ => m) k
    gi_wp2_with ((with_reducible refine in_is_store 66 (.tmp 12) (.tmp 26) rfl ?_); refine in_store_at rfl 66 (.tmp 12) (.tmp 26) rfl _ rfl (stepRow p b l cs (fun _ => o) (fun _ => m) k) rfl (rd (zeros 16) 0 0 0 ++ fl (zeros 17) ++ rd (zeros 16) 0 0 0) _ ZN 55 ss zs hz so ?_)
    have hbN : Below W.heap.size W ((W.alloc (.cells (rd (zeros 16) 0 0 0 ++ fl (zeros 17) ++ rd (zeros 16) 0 0 0) 66)).setRow W.heap.size (stepRow p b l cs (fun _ => o) (fun _ => m) k)) := bset (b0 W _) (Nat.le_refl _) _
    have K2 : Kept w3.heap.size W ((W.alloc (.cells (rd (zeros 16) 0 0 0 ++ fl (zeros 17) ++ rd (zeros 16) 0 0 0) 66)).setRow W.heap.size (stepRow p b l cs (fun _ => o) (fun _ => m) k)) := Kept.of_below hbN
    have H2 : Lo (gs + 1) w3.heap.size W ((W.alloc (.cells (rd (zeros 16) 0 0 0 ++ fl (zeros 17) ++ rd (zeros 16) 0 0 0) 66)).setRow W.heap.size (stepRow p b l cs (fun _ => o) (fun _ => m) k)) := Lo.of hbN (by omega)
    have X4 := ZN.setRow (stepRow p b l cs (fun _ => o) (fun _ => m) k)
    have A5 := (A4.alloc (.cells (rd (zeros 16) 0 0 0 ++ fl (zeros 17) ++ rd (zeros 16) 0 0 0) 66)).setRow_other (k := W.heap.size) (Nat.ne_of_lt A4.lt) (stepRow p b l cs (fun _ => o) (fun _ => m) k)
    have S5 := (S4.alloc (.cells (rd (zeros 16) 0 0 0 ++ fl (zeros 17) ++ rd (zeros 16) 0 0 0) 66)).setRow_other (k := W.heap.size) (Nat.ne_of_lt S4.lt) (stepRow p b l cs (fun _ => o) (fun _ => m) k)
    have B5 := Lib.hid (bset (bnew B4.out (.cells (rd (zeros 16) 0 0 0 ++ fl (zeros 17) ++ rd (zeros 16) 0 0 0) 66)) (g := W.heap.size) B4.out.size (stepRow p b l cs (fun _ => o) (fun _ => m) k))
    rw [show (rd (zeros 16) 0 0 0 ++ fl (zeros 17) ++ rd (zeros 16) 0 0 0 : Array Value) = #[.float .f32 0, .float .f32 0, .float .f32 0, .float .f32 0, .float .f32 0, .float .f32 0, .float .f32 0, .float .f32 0, .float .f32 0, .float .f32 0, .float .f32 0, .float .f32 0, .float .f32 0, .float .f32 0, .float .f32 0, .float .f32 0, .float .f32 0, .float .f32 0, .float .f32 0, .float .f32 0, .float .f32 0, .float .f32 0, .float .f32 0, .float .f32 0, .float .f32 0, .float .f32 0, .float .f32 0, .float .f32 0, .float .f32 0, .float .f32 0, .float .f32 0, .float .f32 0, .float .f32 0, .float .f32 0, .float .f32 0, .float .f32 0, .float .f32 0, .float .f32 0, .float .f32 0, .float .f32 0, .float .f32 0, .float .f32 0, .float .f32 0, .float .f32 0, .float .f32 0, .float .f32 0, .float .f32 0, .float .f32 0, .float .f32 0, .float .f32 0, .float .f32 0, .float .f32 0, .float .f32 0, .float .f32 0, .float .f32 0] from rfl] at K2 H2 X4 A5 S5 B5
    generalize hw5 : (W.alloc (.cells #[.float .f32 0, .float .f32 0, .float .f32 0, .float .f32 0, .float .f32 0, .float .f32 0, .float .f32 0, .float .f32 0, .float .f32 0, .float .f32 0, .float .f32 0, .float .f32 0, .float .f32 0, .float .f32 0, .float .f32 0, .float .f32 0, .float .f32 0, .float .f32 0, .float .f32 0, .float .f32 0, .float .f32 0, .float .f32 0, .float .f32 0, .float .f32 0, .float .f32 0, .float .f32 0, .float .f32 0, .float .f32 0, .float .f32 0, .float .f32 0, .float .f32 0, .float .f32 0, .float .f32 0, .float .f32 0, .float .f32 0, .float .f32 0, .float .f32 0, .float .f32 0, .float .f32 0, .float .f32 0, .float .f32 0, .float .f32 0, .float .f32 0, .float .f32 0, .float .f32 0, .float .f32 0, .float .f32 0, .float .f32 0, .float .f32 0, .float .f32 0, .float .f32 0, .float .f32 0, .float .f32 0, .float .f32 0, .float .f32 0] 66)).setRow W.heap.size (stepRow p b l cs (fun _ => o) (fun _ => m) k) = Wn at K2 H2 X4 A5 S5 B5 ⊢
    clear hw5 zs ZN so hz hbN
    refine ⟨K2, H2, fun o' => ?_⟩
    clear K2 H2
    have X5 := X4.turn (l := l') (by omega) o'
    have A6 := A5.turn (l := l') (by omega) o'
    have S6' := S5.turn (l := l') (by omega) o'
    have B6' : Hid (Below w.heap.size w (Wn.putObj l' o')) := Lib.hid (B5.out.trans (below_putObj o' (by omega)))
    clear X4 A5 S5 B5 A4 S4 B4
    have gl := hl2
    generalize W.heap.size = gx at X5 gl ⊢
    generalize Wn.putObj l' o' = Wm at X5 A6 S6' B6' ⊢
    have R5 := A6
    have S5 := S6'
    have B5 := B6'
    clear A6 S6' B6'
    have hadd : ∀ t w, (binOp .add t (.float .f32 (dAll p b cs (fun _ => o) (fun _ => m) k)) (.float .f32 (dS p (itL p b cs (fun _ => o) (fun _ => m) k) (itF p b cs (fun _ => o) (fun _ => m) k) 15))).run Try.prog w = .ok (.float .f32 (dAll p b cs (fun _ => o) (fun _ => m) (k + 1))) w := fun t w => run_float_arith w .add t .f32 _ _ _ (dAll_add ok (fun _ => o) (fun _ => m) (by omega))
    have LX : ∀ w', At w' gx (stepRow p b l cs (fun _ => o) (fun _ => m) k) 66 → (Instr.loadAt 66 (.pointer (some ⟨gx, 0, none⟩))).run Try.prog w' = .ok (.agg (stepRow p b l cs (fun _ => o) (fun _ => m) k)) w' := fun w' hA => by
      have := run_loadAt_part (P := Try.prog) w' gx 0 55 66 (stepRow p b l cs (fun _ => o) (fun _ => m) k) 66 (0, 0) _ hA Try.underlying66 rfl (by kernel_rfl) (by omega)
      rwa [Nat.zero_add, ← ss, Array.extract_size] at this
    gi_wp2
    refine wpIn_region_any (by kernel_rfl) ?_
    show wpAnyIn _ _ _ _ _ _ 5 (Array.replicate 5 false) _ _
    have R5' : At { Wm with drawn := Wm.drawn + 1 } w.heap.size (rd cs p b l) 28 := R5
    have S5' : At { Wm with drawn := Wm.drawn + 1 } gs #[.float .f32 (dAll p b cs (fun _ => o) (fun _ => m) k)] 24 := S5
    have X5' : At { Wm with drawn := Wm.drawn + 1 } gx (stepRow p b l cs (fun _ => o) (fun _ => m) k) 66 := X5
    have B5' : Hid (Below w.heap.size w { Wm with drawn := Wm.drawn + 1 }) := Lib.hid (bdrew B5.out 1)
    have K5' : Hid (Kept w3.heap.size Wm { Wm with drawn := Wm.drawn + 1 }) := Lib.hid (Kept.of_below (bdrew (Below.refl _ _) 1))
    have H5' : Hid (Lo (gs + 1) w3.heap.size Wm { Wm with drawn := Wm.drawn + 1 }) := Lib.hid (Lo.of (bdrew (Below.refl w3.heap.size _) 1) (Nat.le_refl _))
    clear R5 S5 X5 B5
    have R5 := R5'
    have S5 := S5'
    have X5 := X5'
    have B5 := B5'
    clear R5' S5' X5' B5'
    generalize ({ Wm with drawn := Wm.drawn + 1 } : World) = W5 at R5 S5 X5 B5 K5' H5' ⊢
    have xl5 := X5.lt
    refine wpAnyIn_all (rs := [0, 1]) (by kernel_rfl) (by simp) fun i' hi' => ?_
    have hi2 : i' = 0 ∨ i' = 1 := by simpa using hi'
    clear hi'
    rcases hi2 with rfl | rfl
    · refine opI_value (v := .float .f32 (dAll p b cs (fun _ => o) (fun _ => m) k)) rfl rfl (by intro c h; cases h) (x_load 24 (.tmp 11) rfl _ rfl (run_load_one _ 24 _ Try.underlying24 rfl _ _ (S5.cell (k := 0) rfl))) ?_
      refine wpAnyIn_all (rs := [1]) (by kernel_rfl) (by simp) fun i' hi' => ?_
      obtain rfl := one_of hi'
      refine opI_value (v := .agg (stepRow p b l cs (fun _ => o) (fun _ => m) k)) rfl rfl (by intro c h; cases h) (x_load 66 (.tmp 12) rfl ⟨gx, 0, none⟩ rfl (LX _ X5)) ?_
      refine wpAnyIn_all (rs := [2]) (by kernel_rfl) (by simp) fun i' hi' => ?_
      obtain rfl := one_of hi'
      refine opI_call (f := 38) (args := #[.agg (stepRow p b l cs (fun _ => o) (fun _ => m) k)]) rfl rfl (by intro c h; cases h) (by kernel_rfl) ((delayIn_any cs p b l ok (fun _ => o) (fun _ => m) k W5).mono ?_)
      rintro e w6 ⟨rfl, hb6⟩
      refine ⟨_, rfl, ?_⟩
      have R6 := R5.step hb6
      have S6 := S5.step hb6
      have X6 := X5.step hb6
      have B6 := Lib.hid (bthen B5.out hb6)
      have K6 := Lib.hid (K5'.out.trans (Kept.of_below hb6))
      have H6 := Lib.hid (H5'.out.trans (Lo.of hb6 (by omega)))
      refine wpAnyIn_all (rs := [3]) (by kernel_rfl) (by simp) fun i' hi' => ?_
      obtain rfl := one_of hi'
      refine opI_value (v := .float .f32 (dAll p b cs (fun _ => o) (fun _ => m) (k + 1))) rfl rfl (by intro c h; cases h) (hx_add 24 (.tmp 27) (.tmp 29) rfl (.float .f32 (dAll p b cs (fun _ => o) (fun _ => m) k)) (.float .f32 (dS p (itL p b cs (fun _ => o) (fun _ => m) k) (itF p b cs (fun _ => o) (fun _ => m) k) 15)) (by kernel_rfl) (by kernel_rfl) (hadd 24 w6)) ?_
      refine wpAnyIn_all (rs := [4]) (by kernel_rfl) (by simp) fun i' hi' => ?_
      obtain rfl := one_of hi'
      have G6 := run_storeAt_one (P := Try.prog) w6 gs 0 24 24 #[.float .f32 (dAll p b cs (fun _ => o) (fun _ => m) k)] (.float .f32 (dAll p b cs (fun _ => o) (fun _ => m) (k + 1))) S6 (by kernel_rfl) (by simp) rfl
      rw [show (#[.float .f32 (dAll p b cs (fun _ => o) (fun _ => m) k)] : Array Value).setIfInBounds 0 (.float .f32 (dAll p b cs (fun _ => o) (fun _ => m) (k + 1))) = #[.float .f32 (dAll p b cs (fun _ => o) (fun _ => m) (k + 1))] from rfl] at G6
      have R7 := R6.setRow_other (k := gs) (by omega) #[.float .f32 (dAll p b cs (fun _ => o) (fun _ => m) (k + 1))]
      have S7 := S6.setRow #[.float .f32 (dAll p b cs (fun _ => o) (fun _ => m) (k + 1))]
      have B7 := Lib.hid (bset B6.out (g := gs) (by omega) #[.float .f32 (dAll p b cs (fun _ => o) (fun _ => m) (k + 1))])
      have K7 := Lib.hid (K6.out.row (g := gs) (by omega) #[.float .f32 (dAll p b cs (fun _ => o) (fun _ => m) (k + 1))])
      have H7 := Lib.hid (H6.out.row (g := gs) (by omega) #[.float .f32 (dAll p b cs (fun _ => o) (fun _ => m) (k + 1))])
      refine opI_skip rfl rfl (by intro c h; cases h) (hx_store 24 (.tmp 11) (.tmp 30) rfl (.pointer (some ⟨gs, 0, none⟩)) (.float .f32 (dAll p b cs (fun _ => o) (fun _ => m) (k + 1))) (by kernel_rfl) (by kernel_rfl) G6) ?_
      refine wpAnyIn_done (by kernel_rfl) ?_ _
      exact ⟨K7.out, H7.out, R7, S7, B7⟩
    · refine opI_value (v := .agg (stepRow p b l cs (fun _ => o) (fun _ => m) k)) rfl rfl (by intro c h; cases h) (x_load 66 (.tmp 12) rfl ⟨gx, 0, none⟩ rfl (LX _ X5)) ?_
      refine wpAnyIn_all (rs := [0, 2]) (by kernel_rfl) (by simp) fun i' hi' => ?_
      have hi3 : i' = 0 ∨ i' = 2 := by simpa using hi'
      clear hi'
      rcases hi3 with rfl | rfl
      · refine opI_value (v := .float .f32 (dAll p b cs (fun _ => o) (fun _ => m) k)) rfl rfl (by intro c h; cases h) (x_load 24 (.tmp 11) rfl _ rfl (run_load_one _ 24 _ Try.underlying24 rfl _ _ (S5.cell (k := 0) rfl))) ?_
        refine wpAnyIn_all (rs := [2]) (by kernel_rfl) (by simp) fun i' hi' => ?_
        obtain rfl := one_of hi'
        refine opI_call (f := 38) (args := #[.agg (stepRow p b l cs (fun _ => o) (fun _ => m) k)]) rfl rfl (by intro c h; cases h) (by kernel_rfl) ((delayIn_any cs p b l ok (fun _ => o) (fun _ => m) k W5).mono ?_)
        rintro e w6 ⟨rfl, hb6⟩
        refine ⟨_, rfl, ?_⟩
        have R6 := R5.step hb6
        have S6 := S5.step hb6
        have X6 := X5.step hb6
        have B6 := Lib.hid (bthen B5.out hb6)
        have K6 := Lib.hid (K5'.out.trans (Kept.of_below hb6))
        have H6 := Lib.hid (H5'.out.trans (Lo.of hb6 (by omega)))
        refine wpAnyIn_all (rs := [3]) (by kernel_rfl) (by simp) fun i' hi' => ?_
        obtain rfl := one_of hi'
        refine opI_value (v := .float .f32 (dAll p b cs (fun _ => o) (fun _ => m) (k + 1))) rfl rfl (by intro c h; cases h) (hx_add 24 (.tmp 27) (.tmp 29) rfl (.float .f32 (dAll p b cs (fun _ => o) (fun _ => m) k)) (.float .f32 (dS p (itL p b cs (fun _ => o) (fun _ => m) k) (itF p b cs (fun _ => o) (fun _ => m) k) 15)) (by kernel_rfl) (by kernel_rfl) (hadd 24 w6)) ?_
        refine wpAnyIn_all (rs := [4]) (by kernel_rfl) (by simp) fun i' hi' => ?_
        obtain rfl := one_of hi'
        have G6 := run_storeAt_one (P := Try.prog) w6 gs 0 24 24 #[.float .f32 (dAll p b cs (fun _ => o) (fun _ => m) k)] (.float .f32 (dAll p b cs (fun _ => o) (fun _ => m) (k + 1))) S6 (by kernel_rfl) (by simp) rfl
        rw [show (#[.float .f32 (dAll p b cs (fun _ => o) (fun _ => m) k)] : Array Value).setIfInBounds 0 (.float .f32 (dAll p b cs (fun _ => o) (fun _ => m) (k + 1))) = #[.float .f32 (dAll p b cs (fun _ => o) (fun _ => m) (k + 1))] from rfl] at G6
        have R7 := R6.setRow_other (k := gs) (by omega) #[.float .f32 (dAll p b cs (fun _ => o) (fun _ => m) (k + 1))]
        have S7 := S6.setRow #[.float .f32 (dAll p b cs (fun _ => o) (fun _ => m) (k + 1))]
        have B7 := Lib.hid (bset B6.out (g := gs) (by omega) #[.float .f32 (dAll p b cs (fun _ => o) (fun _ => m) (k + 1))])
        have K7 := Lib.hid (K6.out.row (g := gs) (by omega) #[.float .f32 (dAll p b cs (fun _ => o) (fun _ => m) (k + 1))])
        have H7 := Lib.hid (H6.out.row (g := gs) (by omega) #[.float .f32 (dAll p b cs (fun _ => o) (fun _ => m) (k + 1))])
        refine opI_skip rfl rfl (by intro c h; cases h) (hx_store 24 (.tmp 11) (.tmp 30) rfl (.pointer (some ⟨gs, 0, none⟩)) (.float .f32 (dAll p b cs (fun _ => o) (fun _ => m) (k + 1))) (by kernel_rfl) (by kernel_rfl) G6) ?_
        refine wpAnyIn_done (by kernel_rfl) ?_ _
        exact ⟨K7.out, H7.out, R7, S7, B7⟩
      · refine opI_call (f := 38) (args := #[.agg (stepRow p b l cs (fun _ => o) (fun _ => m) k)]) rfl rfl (by intro c h; cases h) (by kernel_rfl) ((delayIn_any cs p b l ok (fun _ => o) (fun _ => m) k W5).mono ?_)
        rintro e w6 ⟨rfl, hb6⟩
        refine ⟨_, rfl, ?_⟩
        have R6 := R5.step hb6
        have S6 := S5.step hb6
        have X6 := X5.step hb6
        have B6 := Lib.hid (bthen B5.out hb6)
        have K6 := Lib.hid (K5'.out.trans (Kept.of_below hb6))
        have H6 := Lib.hid (H5'.out.trans (Lo.of hb6 (by omega)))
        refine wpAnyIn_all (rs := [0]) (by kernel_rfl) (by simp) fun i' hi' => ?_
        obtain rfl := one_of hi'
        refine opI_value (v := .float .f32 (dAll p b cs (fun _ => o) (fun _ => m) k)) rfl rfl (by intro c h; cases h) (x_load 24 (.tmp 11) rfl _ rfl (run_load_one _ 24 _ Try.underlying24 rfl _ _ (S6.cell (k := 0) rfl))) ?_
        refine wpAnyIn_all (rs := [3]) (by kernel_rfl) (by simp) fun i' hi' => ?_
        obtain rfl := one_of hi'
        refine opI_value (v := .float .f32 (dAll p b cs (fun _ => o) (fun _ => m) (k + 1))) rfl rfl (by intro c h; cases h) (hx_add 24 (.tmp 27) (.tmp 29) rfl (.float .f32 (dAll p b cs (fun _ => o) (fun _ => m) k)) (.float .f32 (dS p (itL p b cs (fun _ => o) (fun _ => m) k) (itF p b cs (fun _ => o) (fun _ => m) k) 15)) (by kernel_rfl) (by kernel_rfl) (hadd 24 w6)) ?_
        refine wpAnyIn_all (rs := [4]) (by kernel_rfl) (by simp) fun i' hi' => ?_
        obtain rfl := one_of hi'
        have G6 := run_storeAt_one (P := Try.prog) w6 gs 0 24 24 #[.float .f32 (dAll p b cs (fun _ => o) (fun _ => m) k)] (.float .f32 (dAll p b cs (fun _ => o) (fun _ => m) (k + 1))) S6 (by kernel_rfl) (by simp) rfl
        rw [show (#[.float .f32 (dAll p b cs (fun _ => o) (fun _ => m) k)] : Array Value).setIfInBounds 0 (.float .f32 (dAll p b cs (fun _ => o) (fun _ => m) (k + 1))) = #[.float .f32 (dAll p b cs (fun _ => o) (fun _ => m) (k + 1))] from rfl] at G6
        have R7 := R6.setRow_other (k := gs) (by omega) #[.float .f32 (dAll p b cs (fun _ => o) (fun _ => m) (k + 1))]
        have S7 := S6.setRow #[.float .f32 (dAll p b cs (fun _ => o) (fun _ => m) (k + 1))]
        have B7 := Lib.hid (bset B6.out (g := gs) (by omega) #[.float .f32 (dAll p b cs (fun _ => o) (fun _ => m) (k + 1))])
        have K7 := Lib.hid (K6.out.row (g := gs) (by omega) #[.float .f32 (dAll p b cs (fun _ => o) (fun _ => m) (k + 1))])
        have H7 := Lib.hid (H6.out.row (g := gs) (by omega) #[.float .f32 (dAll p b cs (fun _ => o) (fun _ => m) (k + 1))])
        refine opI_skip rfl rfl (by intro c h; cases h) (hx_store 24 (.tmp 11) (.tmp 30) rfl (.pointer (some ⟨gs, 0, none⟩)) (.float .f32 (dAll p b cs (fun _ => o) (fun _ => m) (k + 1))) (by kernel_rfl) (by kernel_rfl) G6) ?_
        refine wpAnyIn_done (by kernel_rfl) ?_ _
        exact ⟨K7.out, H7.out, R7, S7, B7⟩
  · rintro D W hD ⟨A4, S4, B4⟩ hK
    have K5 := Lib.hid hK
    have df := delay_facts ok (fun _ => o) (fun _ => m) hN
    have hmul : ∀ t w, (binOp .mul t (.float .f32 (dAll p b cs (fun _ => o) (fun _ => m) N)) (.float .f32 l)).run Try.prog w = .ok (.float .f32 (mulB (dAll p b cs (fun _ => o) (fun _ => m) N) l)) w := fun t w => run_float_arith w .mul t .f32 _ _ _ df.1
    have cl := A4.cell (rd_lanes hl p b l)
    have cs4 := S4.cell (k := 0) (v := .float .f32 (dAll p b cs (fun _ => o) (fun _ => m) N)) rfl
    clear A3 S3 hK df
    go_wp2
    refine ⟨by simp, .inl ⟨_, _, rfl, run_takeDeferred K5.out, ?_⟩⟩
    exact ⟨.tuple #[.float .f32 (mulB (dAll p b cs (fun _ => o) (fun _ => m) N) l), .int .i64 0], by kernel_rfl, rfl, B4.out.trans (below_putObj _ (by omega))⟩

end Go.Proofs.Ytpcobfcnpeoihaa
