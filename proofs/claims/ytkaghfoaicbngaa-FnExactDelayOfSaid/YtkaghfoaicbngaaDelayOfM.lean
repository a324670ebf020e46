/-
  SEVERAL TEXTS IN ONE.
-/
import Derived.Test.YtkaghfoaicbngaaMag
import Derived.Test.YtkaghfoaicbngaaSums
import Derived.Test.YtkaghfoaicbngaaHeldOps
import Derived.Test.YtkaghfoaicbngaaSeqL
import Derived.Test.YtkaghfoaicbngaaSteps
import Derived.Test.YtkaghfoaicbngaaOneCell
import Derived.Test.YtkaghfoaicbngaaStepsS

/-
  CONTRACTS: the delay in a step.
-/
namespace Go.Proofs.Ytkaghfoaicbngaa
open Go Go.RowKit Go.Shelf
set_option maxRecDepth 100000

theorem hx_quo' {P : Program} {o : Oper} {a : Act} {w w' : World} {v : Value} (ty : TypeId) (x y : Operand) {T : TypeId} (ho : o.op = .binOp .quo ty x y T) (v1 v2 : Value) (h1 : a.eval x = v1) (h2 : a.eval y = v2) (hrun : (binOp .quo ty v1 v2).run P w = .ok v w') : (execOp a.eval o).run P w = .ok (.value v) w' := by
  have hg : eqGuard .quo ty x y v1 v2 = pure () := rfl
  unfold execOp
  simp only [ho, h1, h2, hg, Sem.run_bind, hrun, Sem.run_pure, Result.andThen_ok]
theorem hx_add {P : Program} {o : Oper} {a : Act} {w w' : World} {v : Value} (ty : TypeId) (x y : Operand) {T : TypeId} (ho : o.op = .binOp .add ty x y T) (v1 v2 : Value) (h1 : a.eval x = v1) (h2 : a.eval y = v2) (hrun : (binOp .add ty v1 v2).run P w = .ok v w') : (execOp a.eval o).run P w = .ok (.value v) w' := by
  have hg : eqGuard .add ty x y v1 v2 = pure () := rfl
  unfold execOp
  simp only [ho, h1, h2, hg, Sem.run_bind, hrun, Sem.run_pure, Result.andThen_ok]
theorem run_add_i64 {P : Program} (W : World) (t : TypeId) (a b : Int) : (binOp .add t (.int .i64 a) (.int .i64 b)).run P W = .ok (.int .i64 (IntKind.i64.wrap (a + b))) W := by
  simp [binOp, Op.intArith]
theorem run_indexA {P : Program} (w : World) (ty e : TypeId) (n k s : Nat) (g off : Nat) (hu : P.underlying ty = some (.array n e)) (he : (P.info? e).map (·.size) = some s) (hk : k < n) :
    (Instr.indexAt ty (.pointer (some ⟨g, off, none⟩)) (.int .i64 k)).run P w = .ok (.pointer (some ⟨g, off + k * s, none⟩)) w := by
  cases hq : P.info? e with
  | none => simp [hq] at he
  | some i =>
    have hs : i.size = s := by simpa [hq] using he
    by_cases h0 : k * s = 0
    · simp [Instr.indexAt, Instr.sureAddr, asIntOf, run_underlying hu, hk, sizeOf, typeInfo, hq, hs, Addr.add, h0]
    · simp [Instr.indexAt, Instr.sureAddr, asIntOf, run_underlying hu, hk, sizeOf, typeInfo, hq, hs, Addr.add, h0]

theorem stepRow_before {cs : List Nat} {p b l : Nat} (ok : OkR cs p b l) (oo mm : Nat → Nat) (k : Nat) {i : Nat} (hi : i < 19) : (stepRow p b l cs oo mm k)[i]? = (rd (itL p b cs oo mm k) p b l)[i]? := by
  unfold stepRow
  rw [Array.append_assoc, Array.getElem?_append_left (by rw [rd_size (itL_ok ok oo mm k).len]; exact hi)]
set_option maxHeartbeats 400000 in
theorem delayAt_any (cs : List Nat) (p b l : Nat) (ok : OkR cs p b l) (oo mm : Nat → Nat) (k : Nat) (i : Nat) (hi : i < 16) (w : World) :
    Calls Try.prog 69 #[.agg (stepRow p b l cs oo mm k), .int .i64 (i : Int)] w fun e w' => e = .returned (.float .f32 (dAt p (itL p b cs oo mm k) (itF p b cs oo mm k) i)) ∧ Below w.heap.size w w' := by
  have A0 := At.new w (stepRow p b l cs oo mm k) 74
  have B0 := Lib.hid (b0 w (.cells (stepRow p b l cs oo mm k) 74))
  have itf := it_facts ok oo mm k
  have df := dAt_facts ok.pace itf.1 itf.2 i
  have q1 : ∀ t w, (binOp .quo t (.float .f32 (nth (itF p b cs oo mm k) (i + 1))) (.float .f32 p)).run Try.prog w = .ok (.float .f32 (divB (nth (itF p b cs oo mm k) (i + 1)) p)) w := fun t w => run_float_arith w .quo t .f32 _ _ _ df.1
  have q2 : ∀ t w, (binOp .sub t (.float .f32 (nth (itL p b cs oo mm k) i)) (.float .f32 (divB (nth (itF p b cs oo mm k) (i + 1)) p))).run Try.prog w = .ok (.float .f32 (dAt p (itL p b cs oo mm k) (itF p b cs oo mm k) i)) w := fun t w => run_float_arith w .sub t .f32 _ _ _ df.2.1
  have c1 : (stepRow p b l cs oo mm k)[i]? = some (.float .f32 (nth (itL p b cs oo mm k) i)) := by rw [stepRow_before ok oo mm k (by omega)]; exact rd_cell (itL_ok ok oo mm k).len p b l hi
  have c2 : (stepRow p b l cs oo mm k)[16]? = some (.float .f32 p) := by rw [stepRow_before ok oo mm k (by omega)]; exact rd_pace (itL_ok ok oo mm k).len p b l
  have c3 : (stepRow p b l cs oo mm k)[19 + (i + 1)]? = some (.float .f32 (nth (itF p b cs oo mm k) (i + 1))) := stepRow_flow ok oo mm k (by omega)
  have s2 : IntKind.i64.wrap ((i : Int) + 1) = (i : Int) + 1 := IntWalk.i64_in _ (by omega)
  have i1 : (i : Int) < 16 := by omega
  have i2 : (i : Int) + 1 < 17 := by omega
  clear df itf
  generalize divB (nth (itF p b cs oo mm k) (i + 1)) p = qv at q1 q2
  generalize nth (itF p b cs oo mm k) (i + 1) = fv at q1 c3
  generalize nth (itL p b cs oo mm k) i = lv at q2 c1
  generalize (dAt p (itL p b cs oo mm k) (itF p b cs oo mm k) i) = dv at q2 ⊢
  go_enter Try.func69, Try.ntmps69
  go_wp2
  generalize hw0 : w.alloc (.cells (stepRow p b l cs oo mm k) 74) = w0 at A0 B0 ⊢
  clear hw0
  refine wp_region_held (S := fun w' => At w' w.heap.size (stepRow p b l cs oo mm k) 74) (by kernel_rfl) ?_
  show wpAnyH _ _ _ _ _ 16 (Array.replicate 16 false) _ _
  have A1 : At { w0 with drawn := w0.drawn + 1 } w.heap.size (stepRow p b l cs oo mm k) 74 := A0
  have B1 : Hid (Below w.heap.size w { w0 with drawn := w0.drawn + 1 }) := Lib.hid (bdrew B0.out 1)
  generalize ({ w0 with drawn := w0.drawn + 1 } : World) = w1 at A1 B1 ⊢
  clear A0 B0
  refine wpAnyH_take (i := 0) (v := .int .i64 (i : Int)) rfl (by kernel_rfl) (by kernel_rfl) (by kernel_rfl) (fun _ _ _ h => h) (yif rfl fun w' hw' => hx_move (.tmp 1) rfl (by kernel_rfl)) A1 ?_
  refine wpAnyH_take (i := 1) (v := .pointer (some ⟨w.heap.size, 0, none⟩)) rfl (by kernel_rfl) (by kernel_rfl) (by kernel_rfl) (fun _ _ _ h => h) (yif rfl fun w' hw' => by kernel_rfl) A1 ?_
  refine wpAnyH_take (i := 2) (v := .pointer (some ⟨w.heap.size, 0, none⟩)) rfl (by kernel_rfl) (by kernel_rfl) (by kernel_rfl) (fun _ _ _ h => h) (yif rfl fun w' hw' => by kernel_rfl) A1 ?_
  refine wpAnyH_take (i := 3) (v := .pointer (some ⟨w.heap.size, 0 + i * 1, none⟩)) rfl (by kernel_rfl) (by kernel_rfl) (by kernel_rfl) (fun _ _ _ h => h) (yif rfl fun w' hw' => hx_index 26 (.tmp 7) (.tmp 5) rfl (.pointer (some ⟨w.heap.size, 0, none⟩)) (.int .i64 ((i : Nat) : Int)) (by kernel_rfl) (by kernel_rfl) (run_indexA w' 26 22 16 (i) 1 _ _ Try.underlying26 (by kernel_rfl) hi)) A1 ?_
  refine wpAnyH_take (i := 4) (v := .float .f32 lv) rfl (by kernel_rfl) (by kernel_rfl) (by kernel_rfl) (fun _ _ _ h => h) (yif rfl fun w' hw' => x_load 22 (.tmp 8) rfl ⟨w.heap.size, 0 + i * 1, none⟩ (by kernel_rfl) (run_load_cell w' 22 _ Try.underlying22 _ _ (hw'.cell (by rw [show 0 + i * 1 = i from by omega]; exact c1)))) A1 ?_
  refine wpAnyH_take (i := 5) (v := .int .i64 (i : Int)) rfl (by kernel_rfl) (by kernel_rfl) (by kernel_rfl) (fun _ _ _ h => h) (yif rfl fun w' hw' => hx_move (.tmp 1) rfl (by kernel_rfl)) A1 ?_
  refine wpAnyH_take (i := 6) (v := .int .i64 ((i : Int) + 1)) rfl (by kernel_rfl) (by kernel_rfl) (by kernel_rfl) (fun _ _ _ h => h) (yif rfl fun w' hw' => hx_add 3 (.tmp 10) (.const (.int .i64 1)) rfl (.int .i64 (i : Int)) (.int .i64 1) (by kernel_rfl) (by kernel_rfl) (by rw [run_add_i64, s2])) A1 ?_
  refine wpAnyH_take (i := 7) (v := .pointer (some ⟨w.heap.size, 19, none⟩)) rfl (by kernel_rfl) (by kernel_rfl) (by kernel_rfl) (fun _ _ _ h => h) (yif rfl fun w' hw' => by kernel_rfl) A1 ?_
  refine wpAnyH_take (i := 8) (v := .pointer (some ⟨w.heap.size, 19 + (i + 1) * 1, none⟩)) rfl (by kernel_rfl) (by kernel_rfl) (by kernel_rfl) (fun _ _ _ h => h) (yif rfl fun w' hw' => hx_index 52 (.tmp 12) (.tmp 11) rfl (.pointer (some ⟨w.heap.size, 19, none⟩)) (.int .i64 ((i + 1 : Nat) : Int)) (by kernel_rfl) (by kernel_rfl) (run_indexA w' 52 22 17 (i + 1) 1 _ _ Try.underlying52 (by kernel_rfl) (by omega))) A1 ?_
  refine wpAnyH_take (i := 9) (v := .float .f32 fv) rfl (by kernel_rfl) (by kernel_rfl) (by kernel_rfl) (fun _ _ _ h => h) (yif rfl fun w' hw' => x_load 22 (.tmp 13) rfl ⟨w.heap.size, 19 + (i + 1) * 1, none⟩ (by kernel_rfl) (run_load_cell w' 22 _ Try.underlying22 _ _ (hw'.cell (by rw [show 19 + (i + 1) * 1 = 19 + (i + 1) from by omega]; exact c3)))) A1 ?_
  refine wpAnyH_take (i := 10) (v := .pointer (some ⟨w.heap.size, 0, none⟩)) rfl (by kernel_rfl) (by kernel_rfl) (by kernel_rfl) (fun _ _ _ h => h) (yif rfl fun w' hw' => by kernel_rfl) A1 ?_
  refine wpAnyH_take (i := 11) (v := .pointer (some ⟨w.heap.size, 16, none⟩)) rfl (by kernel_rfl) (by kernel_rfl) (by kernel_rfl) (fun _ _ _ h => h) (yif rfl fun w' hw' => by kernel_rfl) A1 ?_
  refine wpAnyH_take (i := 12) (v := .float .f32 p) rfl (by kernel_rfl) (by kernel_rfl) (by kernel_rfl) (fun _ _ _ h => h) (yif rfl fun w' hw' => x_load 22 (.tmp 16) rfl ⟨w.heap.size, 16, none⟩ (by kernel_rfl) (run_load_cell w' 22 _ Try.underlying22 _ _ (hw'.cell (c2)))) A1 ?_
  refine wpAnyH_take (i := 13) (v := .float .f32 qv) rfl (by kernel_rfl) (by kernel_rfl) (by kernel_rfl) (fun _ _ _ h => h) (yif rfl fun w' hw' => hx_quo' 22 (.tmp 14) (.tmp 17) rfl (.float .f32 fv) (.float .f32 p) (by kernel_rfl) (by kernel_rfl) (q1 22 w')) A1 ?_
  refine wpAnyH_take (i := 14) (v := .float .f32 dv) rfl (by kernel_rfl) (by kernel_rfl) (by kernel_rfl) (fun _ _ _ h => h) (yif rfl fun w' hw' => hx_sub 22 (.tmp 9) (.tmp 18) rfl (.float .f32 lv) (.float .f32 qv) (by kernel_rfl) (by kernel_rfl) (q2 22 w')) A1 ?_
  refine wpAnyH_take (i := 15) (v := .float .f32 dv) rfl (by kernel_rfl) (by kernel_rfl) (by kernel_rfl) (fun _ _ _ h => h) (yif rfl fun w' hw' => by kernel_rfl) A1 ?_
  refine wpAnyH_done (by kernel_rfl) ?_ _
  generalize hA : Act.put _ _ _ = A
  have HA := Lib.hid hA
  clear hA
  go_wp2
  have hA := HA.out
  subst hA
  go_ret
  exact ⟨by kernel_rfl, B1.out⟩

theorem delayIn_any (cs : List Nat) (p b l : Nat) (ok : OkR cs p b l) (oo mm : Nat → Nat) (k : Nat) (w : World) :
    Calls Try.prog 49 #[.agg (stepRow p b l cs oo mm k)] w fun e w' => e = .returned (.float .f32 (dS p (itL p b cs oo mm k) (itF p b cs oo mm k) 15)) ∧ Below w.heap.size w w' := by
  have A0 := At.new w (stepRow p b l cs oo mm k) 74
  have B0 := Lib.hid (b0 w (.cells (stepRow p b l cs oo mm k) 74))
  have SS : (stepRow p b l cs oo mm k).size = 55 := stepRow_size ok oo mm k
  have itf := it_facts ok oo mm k
  have HD := Lib.hid fun m (hm : m < 16) => dS_add ok.pace itf.1 itf.2 (m := m) hm
  clear itf
  go_enter Try.func49, Try.ntmps49
  go_wp2_with (((with_reducible refine is_load 74 _ rfl ?_); refine wpList_load_at rfl 74 _ rfl _ rfl (stepRow p b l cs oo mm k) _ A0 55 SS _ Try.underlying74 rfl (by kernel_rfl) ?_))
  refine (delayAt_any cs p b l ok oo mm k 0 (by omega) _).mono ?_
  rintro e w1 ⟨rfl, hb1⟩
  rw [show dAt p (itL p b cs oo mm k) (itF p b cs oo mm k) 0 = dS p (itL p b cs oo mm k) (itF p b cs oo mm k) 0 from rfl]
  have A1 := A0.step hb1
  have B1 := Lib.hid (bthen B0.out hb1)
  clear A0 B0 hb1
  go_wp2_with fail
  go_loopw [3, 4] (fun s i wr => ∃ m : Nat, m ≤ 15 ∧ s = .float .f32 (dS p (itL p b cs oo mm k) (itF p b cs oo mm k) m) ∧ i = .int .i64 ((m : Int) + 1) ∧ At wr w.heap.size (stepRow p b l cs oo mm k) 74 ∧ Hid (Below w.heap.size w wr)) (fun _ i _ => 17 - (intOf i).toNat)
  case atStart => exact ⟨0, by omega, rfl, rfl, A1, B1⟩
  case round =>
    clear A1 B1
    obtain ⟨m, hm, rfl, rfl, A2, B2⟩ := hrel
    by_cases hlt : m < 15
    · have s2 : IntKind.i64.wrap ((m : Int) + 1 + 1) = (m : Int) + 1 + 1 := IntWalk.i64_in _ (by omega)
      have md : (m : Int) + 1 < 16 := by omega
      have mdd : decide ((m : Int) + 1 < 16) = true := decide_eq_true (by omega)
      have hs : ∀ t w, (binOp .add t (.float .f32 (dS p (itL p b cs oo mm k) (itF p b cs oo mm k) m)) (.float .f32 (dAt p (itL p b cs oo mm k) (itF p b cs oo mm k) (m + 1)))).run Try.prog w = .ok (.float .f32 (dS p (itL p b cs oo mm k) (itF p b cs oo mm k) (m + 1))) w := fun t w => run_float_arith w .add t .f32 _ _ _ (HD.out m (by omega))
      have KA := fun w => delayAt_any cs p b l ok oo mm k (m + 1) (by omega) w
      rw [show ((m + 1 : Nat) : Int) = (m : Int) + 1 from rfl] at KA
      generalize dAt p (itL p b cs oo mm k) (itF p b cs oo mm k) (m + 1) = dv at hs KA
      go_wp2_with (((with_reducible refine is_load 74 _ rfl ?_); refine wpList_load_at rfl 74 _ rfl _ rfl (stepRow p b l cs oo mm k) _ A2 55 SS _ Try.underlying74 rfl (by kernel_rfl) ?_))
      refine (KA _).mono ?_
      rintro e w3 ⟨rfl, hb3⟩
      have A3 := A2.step hb3
      have B3 := Lib.hid (bthen B2.out hb3)
      clear KA A2 B2 hb3
      go_wp2_with fail
      exact ⟨⟨m + 1, by omega, rfl, by go_num, A3, B3⟩, by simp [intOf]; omega⟩
    · obtain rfl : m = 15 := by omega
      go_wp2
      go_ret
      exact ⟨rfl, B2.out⟩

end Go.Proofs.Ytkaghfoaicbngaa

/-
  CONTRACTS: DelayOf, the program's.
-/
namespace Go.Proofs.Ytkaghfoaicbngaa
open Go Go.RowKit Go.Shelf
attribute [local go_sem] Oper.semAt_some
set_option maxRecDepth 100000

section
variable {l n i : Nat} {P : Program} {ops : Array Oper} {Q : Exit → Act → World → Prop} {K : Act → World → Prop} {o : Oper} {a : Act} {w w' : World} {v : Value}
theorem opI_value (ho : ops[i]? = some o) (hg : o.guard = none) (hd : ∀ c, o.op ≠ .defer c) (hx : (execOp a.eval o).run P w = .ok (.value v) w') (hK : K (a.put o.dst v) w') : wpOpIn (Fence.wide.inRound l) n P ops Q i K a w := by
  unfold wpOpIn
  simp only [ho, wanted_none hg, if_true]
  refine ⟨fun _ _ => trivial, ?_⟩
  rw [show (Fence.wide.inRound l).round = some l from rfl, Oper.semAt_some l _ o hd, hx]
  exact hK
theorem opI_skip (ho : ops[i]? = some o) (hg : o.guard = none) (hd : ∀ c, o.op ≠ .defer c) (hx : (execOp a.eval o).run P w = .ok .skip w') (hK : K (a.put o.dst undef) w') : wpOpIn (Fence.wide.inRound l) n P ops Q i K a w := by
  unfold wpOpIn
  simp only [ho, wanted_none hg, if_true]
  refine ⟨fun _ _ => trivial, ?_⟩
  rw [show (Fence.wide.inRound l).round = some l from rfl, Oper.semAt_some l _ o hd, hx]
  exact hK
theorem opI_call {f : FuncId} {args : Array Value} (ho : ops[i]? = some o) (hg : o.guard = none) (hd : ∀ c, o.op ≠ .defer c) (hx : (execOp a.eval o).run P w = .ok (.enter f args) w) (hc : Calls P f args w fun e w' => ∃ v, e = .returned v ∧ K (a.put o.dst v) w') : wpOpIn (Fence.wide.inRound l) n P ops Q i K a w := by
  unfold wpOpIn
  simp only [ho, wanted_none hg, if_true]
  refine ⟨fun _ _ => trivial, ?_⟩
  rw [show (Fence.wide.inRound l).round = some l from rfl, Oper.semAt_some l _ o hd, hx]
  refine ⟨fun h => (by cases h), CallsIn.inRound l (callsIn_wide.2 (hc.mono ?_))⟩
  rintro e w2 ⟨v, rfl, hK⟩
  exact hK
end

theorem DelayOf_no (cs : List Nat) (p b l : Nat) (hl : cs.length = 16) (hc : ∀ x ∈ cs, x < 4294967296) (hp : p < 4294967296) (hb : b < 4294967296) (hla : l < 4294967296) (o m : Nat) (ho : o < 4294967296) (hm : m < 4294967296) (n : Int) (h : stepsC (okB cs p b l) o m n ≠ 0) (w : World) :
    Calls Try.prog 25 #[.agg (rd cs p b l), .float .f32 o, .float .f32 m, .int .i64 n] w fun e w' => e = .returned (.tuple #[.float .f32 0, .int .i64 (stepsC (okB cs p b l) o m n)]) ∧ Below w.heap.size w w' := by
  have A0 := At.new w (rd cs p b l) 28
  have B0 := Lib.hid (b0 w (.cells (rd cs p b l) 28))
  have KR := fun w => refusalOfSteps_any cs p b l hl hc hp hb hla o m ho hm n w
  generalize stepsC (okB cs p b l) o m n = c at KR h ⊢
  have gne : (c == 0) = false := by simp [h]
  go_enter Try.func25, Try.ntmps25
  go_wp2_with (((with_reducible refine is_load 28 _ rfl ?_); refine wpList_load_at rfl 28 _ rfl _ rfl (rd cs p b l) _ A0 19 (rd_size hl p b l) _ Try.underlying28 rfl (by kernel_rfl) ?_))
  refine (KR _).mono ?_
  rintro e' w1 ⟨rfl, hb1⟩
  have B1 := Lib.hid (bthen B0.out hb1)
  clear KR A0 B0 hb1
  go_wp2_with fail
  go_ret2
  exact ⟨rfl, B1.out⟩

set_option maxHeartbeats 2000000 in
theorem DelayOf_yes (cs : List Nat) (p b l : Nat) (hl : cs.length = 16) (hc : ∀ x ∈ cs, x < 4294967296) (hp : p < 4294967296) (hb : b < 4294967296) (hla : l < 4294967296) (o m : Nat) (ho : o < 4294967296) (hm : m < 4294967296) (N : Nat) (hN : N ≤ 400) (h : givenC (okB cs p b l) o m = 0) (w : World) :
    Calls Try.prog 25 #[.agg (rd cs p b l), .float .f32 o, .float .f32 m, .int .i64 (N : Int)] w fun e w' => e = .returned (.tuple #[.float .f32 (mulB (dAll p b cs (fun _ => o) (fun _ => m) N) l), .int .i64 0]) ∧ Below w.heap.size w w' := by
  have A0 := At.new w (rd cs p b l) 28
  have B0 := Lib.hid (b0 w (.cells (rd cs p b l) 28))
  have gz := given_zero h
  have ok := OkR.of hl gz.1
  have KR := fun w => refusalOfSteps_any cs p b l hl hc hp hb hla o m ho hm N w
  rw [show stepsC (okB cs p b l) o m N = 0 from by unfold stepsC; rw [if_pos h, if_pos (by omega)]] at KR
  have GZ := Lib.hid gz.2
  clear gz h
  refine (callsIn_wide (n := 3)).1 ?_
  refine callsIn_of_wp_marks Try.func25 rfl trivial ?_ rfl
  refine wpIn_wide.2 ?_
  simp only [Try.ntmps25, List.size_toArray, List.length_cons, List.length_nil, Nat.reduceAdd, Nat.reduceSub, Array.replicate_succ, Array.replicate_zero, List.push_toArray, List.append_toArray, List.nil_append, List.cons_append]
  go_wp2_with (((with_reducible refine is_load 28 _ rfl ?_); refine wpList_load_at rfl 28 _ rfl _ rfl (rd cs p b l) _ A0 19 (rd_size hl p b l) _ Try.underlying28 rfl (by kernel_rfl) ?_))
  refine (KR _).mono ?_
  rintro e' w1 ⟨rfl, hb1⟩
  have A1 := A0.step hb1
  have B1 := Lib.hid (bthen B0.out hb1)
  clear KR A0 B0 hb1
  have S1 := At.new w1 #[.float .f32 0] 22
  have A2 := A1.alloc (.cells #[.float .f32 0] 22)
  have B2 := Lib.hid (bnew B1.out (.cells #[.float .f32 0] 22))
  have gs0 := B1.out.size
  have al1 := A1.lt
  go_wp2_with (first | ((with_reducible refine is_load 28 _ rfl ?_); refine wpList_load_at rfl 28 _ rfl _ rfl (rd cs p b l) _ A2 19 (rd_size hl p b l) _ Try.underlying28 rfl (by kernel_rfl) ?_))
  clear A1 B1
  generalize hw2 : w1.alloc (.cells #[.float .f32 0] 22) = w2 at S1 A2 B2 ⊢
  clear hw2
  generalize w1.heap.size = gs at S1 gs0 al1 ⊢
  refine (steadySteps_lo cs p b l hl o m N hN w2).mono ?_
  rintro e w3 ⟨⟨lb, rfl, g1, g2, g3, go, gm, rfl, ⟨q1, q2, q3, q4, q5⟩, a1, a2, a3, a4, a5⟩, hb3⟩
  have hlo : gs + 1 ≤ w2.heap.size := S1.lt
  have A3 := A2.step hb3
  have S3 := S1.step hb3
  have B3 := Lib.hid (bthen B2.out hb3)
  clear A2 S1 B2 hb3
  have hrep : ∀ x k : Nat, k < N → (fl (List.replicate 400 x))[k]? = some (.float .f32 x) := fun x k hk => by
    have h1 := fl_get (xs := List.replicate 400 x) (k := k) (by simp; omega)
    rw [h1]
    congr 2
    unfold nth
    rw [List.getD_eq_getElem?_getD, List.getElem?_replicate, if_pos (by omega)]; rfl
  have SQ := Lib.hid (steps_seqL (gs + 1) cs p b l ok (fun _ => o) (fun _ => m) N hN (fun _ _ => GZ.out.1) (fun _ _ => GZ.out.2) g1 g2 g3 go gm _ _ _ _ (hrep o) (hrep m) w3 a1 a2 a3 a4 a5 (by omega) (by omega) (by omega) (by omega) (by omega))
  clear a1 a2 a3 a4 a5 hrep q1 q2 q3 q4 q5
  go_wp2
  have Z2 := S3.lt
  have Z3 := A3.lt
  have HH := Lib.hid (And.intro hc (And.intro hp (And.intro hb hla)))
  clear hc hp hb hla
  refine (wpIn_wide (n := 3)).1 (wpIn_rangeL (lo := gs + 1) (w0 := w3) (N := N) rfl (by omega) (gf := 65) (lb := #[.pointer (some ⟨g1, 0, none⟩), .pointer (some ⟨g2, 0, none⟩), .pointer (some ⟨g3, 0, none⟩)]) rfl trivial (enters_of Try.func65 (by kernel_rfl) rfl) SQ.out (Below.refl _ _) (fun _ => rfl)
    (fun k W => At W w.heap.size (rd cs p b l) 28 ∧ At W gs #[.float .f32 (dAll p b cs (fun _ => o) (fun _ => m) k)] 22 ∧ Hid (Below w.heap.size w W)) (fun _ _ => False) ?_ (fun _ _ _ h _ => h) ⟨A3, S3, B3⟩ ?_ ?_ (fun _ _ _ _ _ h => h.elim))
  · rintro k A B ⟨a1, a2, a5⟩ hb
    exact ⟨(hb.block _ (by omega)).trans a1, (hb.block _ (by omega)).trans a2, Lib.hid (a5.out.trans (hb.mono B3.out.size))⟩
  · rintro l' k W hl1 hl2 hkN ⟨A4, S4, B4⟩
    clear A3 S3
    rw [fold_one]
    change Code.wpIn _ _ _ _ _ { tmps := #[.agg (rd cs p b l), .float .f32 o, .float .f32 m, .int .i64 (N : Int), .pointer (some ⟨w.heap.size, 0, none⟩), undef, undef, undef, .float .f32 0, .int .i64 0, .int .i64 0, .pointer (some ⟨gs, 0, none⟩), undef, .agg (rd cs p b l), .float .f32 o, .float .f32 m, .int .i64 (N : Int), .int .i64 0, .int .i64 0, .bool false, undef, .agg (rd cs p b l), .float .f32 o, .float .f32 m, .int .i64 (N : Int), .func (.func 65) #[] #[.pointer (some ⟨g1, 0, none⟩), .pointer (some ⟨g2, 0, none⟩), .pointer (some ⟨g3, 0, none⟩)], .agg (stepRow p b l cs (fun _ => o) (fun _ => m) k), undef, undef, undef, undef, undef, undef, undef, undef], defers := [] } W
    have hz : (Try.prog.info? 74).map (·.size) = some 55 := by kernel_rfl
    have ZN := At.new W (rd (zeros 16) 0 0 0 ++ fl (zeros 17) ++ rd (zeros 16) 0 0 0) 74
    have zs : (rd (zeros 16) 0 0 0 ++ fl (zeros 17) ++ rd (zeros 16) 0 0 0).size = 55 := by rfl
    have ss : (stepRow p b l cs (fun _ => o) (fun _ => m) k).size = 55 := stepRow_size ok (fun _ => o) (fun _ => m) k
    have so : (stepRow p b l cs (fun _ => o) (fun _ => m) k).all (·.oneCell') = true := stepRow_one p b l cs (fun _ => o) (fun _ => m) k
    gi_wp2_with ((with_reducible refine in_is_store 74 (.tmp 12) (.tmp 26) rfl ?_); refine in_store_at rfl 74 (.tmp 12) (.tmp 26) rfl _ rfl (stepRow p b l cs (fun _ => o) (fun _ => m) k) rfl (rd (zeros 16) 0 0 0 ++ fl (zeros 17) ++ rd (zeros 16) 0 0 0) _ ZN 55 ss zs hz so ?_)
    have hbN : Below W.heap.size W ((W.alloc (.cells (rd (zeros 16) 0 0 0 ++ fl (zeros 17) ++ rd (zeros 16) 0 0 0) 74)).setRow W.heap.size (stepRow p b l cs (fun _ => o) (fun _ => m) k)) := bset (b0 W _) (Nat.le_refl _) _
    have K2 : Kept w3.heap.size W ((W.alloc (.cells (rd (zeros 16) 0 0 0 ++ fl (zeros 17) ++ rd (zeros 16) 0 0 0) 74)).setRow W.heap.size (stepRow p b l cs (fun _ => o) (fun _ => m) k)) := Kept.of_below hbN
    have H2 : Lo (gs + 1) w3.heap.size W ((W.alloc (.cells (rd (zeros 16) 0 0 0 ++ fl (zeros 17) ++ rd (zeros 16) 0 0 0) 74)).setRow W.heap.size (stepRow p b l cs (fun _ => o) (fun _ => m) k)) := Lo.of hbN (by omega)
    have X4 := ZN.setRow (stepRow p b l cs (fun _ => o) (fun _ => m) k)
    have A5 := (A4.alloc (.cells (rd (zeros 16) 0 0 0 ++ fl (zeros 17) ++ rd (zeros 16) 0 0 0) 74)).setRow_other (k := W.heap.size) (Nat.ne_of_lt A4.lt) (stepRow p b l cs (fun _ => o) (fun _ => m) k)
    have S5 := (S4.alloc (.cells (rd (zeros 16) 0 0 0 ++ fl (zeros 17) ++ rd (zeros 16) 0 0 0) 74)).setRow_other (k := W.heap.size) (Nat.ne_of_lt S4.lt) (stepRow p b l cs (fun _ => o) (fun _ => m) k)
    have B5 := Lib.hid (bset (bnew B4.out (.cells (rd (zeros 16) 0 0 0 ++ fl (zeros 17) ++ rd (zeros 16) 0 0 0) 74)) (g := W.heap.size) B4.out.size (stepRow p b l cs (fun _ => o) (fun _ => m) k))
    rw [show (rd (zeros 16) 0 0 0 ++ fl (zeros 17) ++ rd (zeros 16) 0 0 0 : Array Value) = #[.float .f32 0, .float .f32 0, .float .f32 0, .float .f32 0, .float .f32 0, .float .f32 0, .float .f32 0, .float .f32 0, .float .f32 0, .float .f32 0, .float .f32 0, .float .f32 0, .float .f32 0, .float .f32 0, .float .f32 0, .float .f32 0, .float .f32 0, .float .f32 0, .float .f32 0, .float .f32 0, .float .f32 0, .float .f32 0, .float .f32 0, .float .f32 0, .float .f32 0, .float .f32 0, .float .f32 0, .float .f32 0, .float .f32 0, .float .f32 0, .float .f32 0, .float .f32 0, .float .f32 0, .float .f32 0, .float .f32 0, .float .f32 0, .float .f32 0, .float .f32 0, .float .f32 0, .float .f32 0, .float .f32 0, .float .f32 0, .float .f32 0, .float .f32 0, .float .f32 0, .float .f32 0, .float .f32 0, .float .f32 0, .float .f32 0, .float .f32 0, .float .f32 0, .float .f32 0, .float .f32 0, .float .f32 0, .float .f32 0] from rfl] at K2 H2 X4 A5 S5 B5
    generalize hw5 : (W.alloc (.cells #[.float .f32 0, .float .f32 0, .float .f32 0, .float .f32 0, .float .f32 0, .float .f32 0, .float .f32 0, .float .f32 0, .float .f32 0, .float .f32 0, .float .f32 0, .float .f32 0, .float .f32 0, .float .f32 0, .float .f32 0, .float .f32 0, .float .f32 0, .float .f32 0, .float .f32 0, .float .f32 0, .float .f32 0, .float .f32 0, .float .f32 0, .float .f32 0, .float .f32 0, .float .f32 0, .float .f32 0, .float .f32 0, .float .f32 0, .float .f32 0, .float .f32 0, .float .f32 0, .float .f32 0, .float .f32 0, .float .f32 0, .float .f32 0, .float .f32 0, .float .f32 0, .float .f32 0, .float .f32 0, .float .f32 0, .float .f32 0, .float .f32 0, .float .f32 0, .float .f32 0, .float .f32 0, .float .f32 0, .float .f32 0, .float .f32 0, .float .f32 0, .float .f32 0, .float .f32 0, .float .f32 0, .float .f32 0, .float .f32 0] 74)).setRow W.heap.size (stepRow p b l cs (fun _ => o) (fun _ => m) k) = Wn at K2 H2 X4 A5 S5 B5 ⊢
    clear hw5 zs ZN so hz hbN
    refine ⟨K2, H2, fun o' => ?_⟩
    clear K2 H2
    have X5 := X4.turn (l := l') (by omega) o'
    have A6 := A5.turn (l := l') (by omega) o'
    have S6' := S5.turn (l := l') (by omega) o'
    have B6' : Hid (Below w.heap.size w (Wn.putObj l' o')) := Lib.hid (B5.out.trans (below_putObj o' (by omega)))
    clear X4 A5 S5 B5 A4 S4 B4
    have gl := hl2
    generalize W.heap.size = gx at X5 gl ⊢
    generalize Wn.putObj l' o' = Wm at X5 A6 S6' B6' ⊢
    have R5 := A6
    have S5 := S6'
    have B5 := B6'
    clear A6 S6' B6'
    have hadd : ∀ t w, (binOp .add t (.float .f32 (dAll p b cs (fun _ => o) (fun _ => m) k)) (.float .f32 (dS p (itL p b cs (fun _ => o) (fun _ => m) k) (itF p b cs (fun _ => o) (fun _ => m) k) 15))).run Try.prog w = .ok (.float .f32 (dAll p b cs (fun _ => o) (fun _ => m) (k + 1))) w := fun t w => run_float_arith w .add t .f32 _ _ _ (dAll_add ok (fun _ => o) (fun _ => m) (by omega))
    have LX : ∀ w', At w' gx (stepRow p b l cs (fun _ => o) (fun _ => m) k) 74 → (Instr.loadAt 74 (.pointer (some ⟨gx, 0, none⟩))).run Try.prog w' = .ok (.agg (stepRow p b l cs (fun _ => o) (fun _ => m) k)) w' := fun w' hA => by
      have := run_loadAt_part (P := Try.prog) w' gx 0 55 74 (stepRow p b l cs (fun _ => o) (fun _ => m) k) 74 (0, 0) _ hA Try.underlying74 rfl (by kernel_rfl) (by omega)
      rwa [Nat.zero_add, ← ss, Array.extract_size] at this
    gi_wp2
    refine wpIn_region_any (by kernel_rfl) ?_
    show wpAnyIn _ _ _ _ _ _ 5 (Array.replicate 5 false) _ _
    have R5' : At { Wm with drawn := Wm.drawn + 1 } w.heap.size (rd cs p b l) 28 := R5
    have S5' : At { Wm with drawn := Wm.drawn + 1 } gs #[.float .f32 (dAll p b cs (fun _ => o) (fun _ => m) k)] 22 := S5
    have X5' : At { Wm with drawn := Wm.drawn + 1 } gx (stepRow p b l cs (fun _ => o) (fun _ => m) k) 74 := X5
    have B5' : Hid (Below w.heap.size w { Wm with drawn := Wm.drawn + 1 }) := Lib.hid (bdrew B5.out 1)
    have K5' : Hid (Kept w3.heap.size Wm { Wm with drawn := Wm.drawn + 1 }) := Lib.hid (Kept.of_below (bdrew (Below.refl _ _) 1))
    have H5' : Hid (Lo (gs + 1) w3.heap.size Wm { Wm with drawn := Wm.drawn + 1 }) := Lib.hid (Lo.of (bdrew (Below.refl w3.heap.size _) 1) (Nat.le_refl _))
    clear R5 S5 X5 B5
    have R5 := R5'
    have S5 := S5'
    have X5 := X5'
    have B5 := B5'
    clear R5' S5' X5' B5'
    generalize ({ Wm with drawn := Wm.drawn + 1 } : World) = W5 at R5 S5 X5 B5 K5' H5' ⊢
    have xl5 := X5.lt
    refine wpAnyIn_all (rs := [0, 1]) (by kernel_rfl) (by simp) fun i' hi' => ?_
    have hi2 : i' = 0 ∨ i' = 1 := by simpa using hi'
    clear hi'
    rcases hi2 with rfl | rfl
    · refine opI_value (v := .float .f32 (dAll p b cs (fun _ => o) (fun _ => m) k)) rfl rfl (by intro c h; cases h) (x_load 22 (.tmp 11) rfl _ rfl (run_load_one _ 22 _ Try.underlying22 rfl _ _ (S5.cell (k := 0) rfl))) ?_
      refine wpAnyIn_all (rs := [1]) (by kernel_rfl) (by simp) fun i' hi' => ?_
      obtain rfl := one_of hi'
      refine opI_value (v := .agg (stepRow p b l cs (fun _ => o) (fun _ => m) k)) rfl rfl (by intro c h; cases h) (x_load 74 (.tmp 12) rfl ⟨gx, 0, none⟩ rfl (LX _ X5)) ?_
      refine wpAnyIn_all (rs := [2]) (by kernel_rfl) (by simp) fun i' hi' => ?_
      obtain rfl := one_of hi'
      refine opI_call (f := 49) (args := #[.agg (stepRow p b l cs (fun _ => o) (fun _ => m) k)]) rfl rfl (by intro c h; cases h) (by kernel_rfl) ((delayIn_any cs p b l ok (fun _ => o) (fun _ => m) k W5).mono ?_)
      rintro e w6 ⟨rfl, hb6⟩
      refine ⟨_, rfl, ?_⟩
      have R6 := R5.step hb6
      have S6 := S5.step hb6
      have X6 := X5.step hb6
      have B6 := Lib.hid (bthen B5.out hb6)
      have K6 := Lib.hid (K5'.out.trans (Kept.of_below hb6))
      have H6 := Lib.hid (H5'.out.trans (Lo.of hb6 (by omega)))
      refine wpAnyIn_all (rs := [3]) (by kernel_rfl) (by simp) fun i' hi' => ?_
      obtain rfl := one_of hi'
      refine opI_value (v := .float .f32 (dAll p b cs (fun _ => o) (fun _ => m) (k + 1))) rfl rfl (by intro c h; cases h) (hx_add 22 (.tmp 27) (.tmp 29) rfl (.float .f32 (dAll p b cs (fun _ => o) (fun _ => m) k)) (.float .f32 (dS p (itL p b cs (fun _ => o) (fun _ => m) k) (itF p b cs (fun _ => o) (fun _ => m) k) 15)) (by kernel_rfl) (by kernel_rfl) (hadd 22 w6)) ?_
      refine wpAnyIn_all (rs := [4]) (by kernel_rfl) (by simp) fun i' hi' => ?_
      obtain rfl := one_of hi'
      have G6 := run_storeAt_one (P := Try.prog) w6 gs 0 22 22 #[.float .f32 (dAll p b cs (fun _ => o) (fun _ => m) k)] (.float .f32 (dAll p b cs (fun _ => o) (fun _ => m) (k + 1))) S6 (by kernel_rfl) (by simp) rfl
      rw [show (#[.float .f32 (dAll p b cs (fun _ => o) (fun _ => m) k)] : Array Value).setIfInBounds 0 (.float .f32 (dAll p b cs (fun _ => o) (fun _ => m) (k + 1))) = #[.float .f32 (dAll p b cs (fun _ => o) (fun _ => m) (k + 1))] from rfl] at G6
      have R7 := R6.setRow_other (k := gs) (by omega) #[.float .f32 (dAll p b cs (fun _ => o) (fun _ => m) (k + 1))]
      have S7 := S6.setRow #[.float .f32 (dAll p b cs (fun _ => o) (fun _ => m) (k + 1))]
      have B7 := Lib.hid (bset B6.out (g := gs) (by omega) #[.float .f32 (dAll p b cs (fun _ => o) (fun _ => m) (k + 1))])
      have K7 := Lib.hid (K6.out.row (g := gs) (by omega) #[.float .f32 (dAll p b cs (fun _ => o) (fun _ => m) (k + 1))])
      have H7 := Lib.hid (H6.out.row (g := gs) (by omega) #[.float .f32 (dAll p b cs (fun _ => o) (fun _ => m) (k + 1))])
      refine opI_skip rfl rfl (by intro c h; cases h) (hx_store 22 (.tmp 11) (.tmp 30) rfl (.pointer (some ⟨gs, 0, none⟩)) (.float .f32 (dAll p b cs (fun _ => o) (fun _ => m) (k + 1))) (by kernel_rfl) (by kernel_rfl) G6) ?_
      refine wpAnyIn_done (by kernel_rfl) ?_ _
      exact ⟨K7.out, H7.out, R7, S7, B7⟩
    · refine opI_value (v := .agg (stepRow p b l cs (fun _ => o) (fun _ => m) k)) rfl rfl (by intro c h; cases h) (x_load 74 (.tmp 12) rfl ⟨gx, 0, none⟩ rfl (LX _ X5)) ?_
      refine wpAnyIn_all (rs := [0, 2]) (by kernel_rfl) (by simp) fun i' hi' => ?_
      have hi3 : i' = 0 ∨ i' = 2 := by simpa using hi'
      clear hi'
      rcases hi3 with rfl | rfl
      · refine opI_value (v := .float .f32 (dAll p b cs (fun _ => o) (fun _ => m) k)) rfl rfl (by intro c h; cases h) (x_load 22 (.tmp 11) rfl _ rfl (run_load_one _ 22 _ Try.underlying22 rfl _ _ (S5.cell (k := 0) rfl))) ?_
        refine wpAnyIn_all (rs := [2]) (by kernel_rfl) (by simp) fun i' hi' => ?_
        obtain rfl := one_of hi'
        refine opI_call (f := 49) (args := #[.agg (stepRow p b l cs (fun _ => o) (fun _ => m) k)]) rfl rfl (by intro c h; cases h) (by kernel_rfl) ((delayIn_any cs p b l ok (fun _ => o) (fun _ => m) k W5).mono ?_)
        rintro e w6 ⟨rfl, hb6⟩
        refine ⟨_, rfl, ?_⟩
        have R6 := R5.step hb6
        have S6 := S5.step hb6
        have X6 := X5.step hb6
        have B6 := Lib.hid (bthen B5.out hb6)
        have K6 := Lib.hid (K5'.out.trans (Kept.of_below hb6))
        have H6 := Lib.hid (H5'.out.trans (Lo.of hb6 (by omega)))
        refine wpAnyIn_all (rs := [3]) (by kernel_rfl) (by simp) fun i' hi' => ?_
        obtain rfl := one_of hi'
        refine opI_value (v := .float .f32 (dAll p b cs (fun _ => o) (fun _ => m) (k + 1))) rfl rfl (by intro c h; cases h) (hx_add 22 (.tmp 27) (.tmp 29) rfl (.float .f32 (dAll p b cs (fun _ => o) (fun _ => m) k)) (.float .f32 (dS p (itL p b cs (fun _ => o) (fun _ => m) k) (itF p b cs (fun _ => o) (fun _ => m) k) 15)) (by kernel_rfl) (by kernel_rfl) (hadd 22 w6)) ?_
        refine wpAnyIn_all (rs := [4]) (by kernel_rfl) (by simp) fun i' hi' => ?_
        obtain rfl := one_of hi'
        have G6 := run_storeAt_one (P := Try.prog) w6 gs 0 22 22 #[.float .f32 (dAll p b cs (fun _ => o) (fun _ => m) k)] (.float .f32 (dAll p b cs (fun _ => o) (fun _ => m) (k + 1))) S6 (by kernel_rfl) (by simp) rfl
        rw [show (#[.float .f32 (dAll p b cs (fun _ => o) (fun _ => m) k)] : Array Value).setIfInBounds 0 (.float .f32 (dAll p b cs (fun _ => o) (fun _ => m) (k + 1))) = #[.float .f32 (dAll p b cs (fun _ => o) (fun _ => m) (k + 1))] from rfl] at G6
        have R7 := R6.setRow_other (k := gs) (by omega) #[.float .f32 (dAll p b cs (fun _ => o) (fun _ => m) (k + 1))]
        have S7 := S6.setRow #[.float .f32 (dAll p b cs (fun _ => o) (fun _ => m) (k + 1))]
        have B7 := Lib.hid (bset B6.out (g := gs) (by omega) #[.float .f32 (dAll p b cs (fun _ => o) (fun _ => m) (k + 1))])
        have K7 := Lib.hid (K6.out.row (g := gs) (by omega) #[.float .f32 (dAll p b cs (fun _ => o) (fun _ => m) (k + 1))])
        have H7 := Lib.hid (H6.out.row (g := gs) (by omega) #[.float .f32 (dAll p b cs (fun _ => o) (fun _ => m) (k + 1))])
        refine opI_skip rfl rfl (by intro c h; cases h) (hx_store 22 (.tmp 11) (.tmp 30) rfl (.pointer (some ⟨gs, 0, none⟩)) (.float .f32 (dAll p b cs (fun _ => o) (fun _ => m) (k + 1))) (by kernel_rfl) (by kernel_rfl) G6) ?_
        refine wpAnyIn_done (by kernel_rfl) ?_ _
        exact ⟨K7.out, H7.out, R7, S7, B7⟩
      · refine opI_call (f := 49) (args := #[.agg (stepRow p b l cs (fun _ => o) (fun _ => m) k)]) rfl rfl (by intro c h; cases h) (by kernel_rfl) ((delayIn_any cs p b l ok (fun _ => o) (fun _ => m) k W5).mono ?_)
        rintro e w6 ⟨rfl, hb6⟩
        refine ⟨_, rfl, ?_⟩
        have R6 := R5.step hb6
        have S6 := S5.step hb6
        have X6 := X5.step hb6
        have B6 := Lib.hid (bthen B5.out hb6)
        have K6 := Lib.hid (K5'.out.trans (Kept.of_below hb6))
        have H6 := Lib.hid (H5'.out.trans (Lo.of hb6 (by omega)))
        refine wpAnyIn_all (rs := [0]) (by kernel_rfl) (by simp) fun i' hi' => ?_
        obtain rfl := one_of hi'
        refine opI_value (v := .float .f32 (dAll p b cs (fun _ => o) (fun _ => m) k)) rfl rfl (by intro c h; cases h) (x_load 22 (.tmp 11) rfl _ rfl (run_load_one _ 22 _ Try.underlying22 rfl _ _ (S6.cell (k := 0) rfl))) ?_
        refine wpAnyIn_all (rs := [3]) (by kernel_rfl) (by simp) fun i' hi' => ?_
        obtain rfl := one_of hi'
        refine opI_value (v := .float .f32 (dAll p b cs (fun _ => o) (fun _ => m) (k + 1))) rfl rfl (by intro c h; cases h) (hx_add 22 (.tmp 27) (.tmp 29) rfl (.float .f32 (dAll p b cs (fun _ => o) (fun _ => m) k)) (.float .f32 (dS p (itL p b cs (fun _ => o) (fun _ => m) k) (itF p b cs (fun _ => o) (fun _ => m) k) 15)) (by kernel_rfl) (by kernel_rfl) (hadd 22 w6)) ?_
        refine wpAnyIn_all (rs := [4]) (by kernel_rfl) (by simp) fun i' hi' => ?_
        obtain rfl := one_of hi'
        have G6 := run_storeAt_one (P := Try.prog) w6 gs 0 22 22 #[.float .f32 (dAll p b cs (fun _ => o) (fun _ => m) k)] (.float .f32 (dAll p b cs (fun _ => o) (fun _ => m) (k + 1))) S6 (by kernel_rfl) (by simp) rfl
        rw [show (#[.float .f32 (dAll p b cs (fun _ => o) (fun _ => m) k)] : Array Value).setIfInBounds 0 (.float .f32 (dAll p b cs (fun _ => o) (fun _ => m) (k + 1))) = #[.float .f32 (dAll p b cs (fun _ => o) (fun _ => m) (k + 1))] from rfl] at G6
        have R7 := R6.setRow_other (k := gs) (by omega) #[.float .f32 (dAll p b cs (fun _ => o) (fun _ => m) (k + 1))]
        have S7 := S6.setRow #[.float .f32 (dAll p b cs (fun _ => o) (fun _ => m) (k + 1))]
        have B7 := Lib.hid (bset B6.out (g := gs) (by omega) #[.float .f32 (dAll p b cs (fun _ => o) (fun _ => m) (k + 1))])
        have K7 := Lib.hid (K6.out.row (g := gs) (by omega) #[.float .f32 (dAll p b cs (fun _ => o) (fun _ => m) (k + 1))])
        have H7 := Lib.hid (H6.out.row (g := gs) (by omega) #[.float .f32 (dAll p b cs (fun _ => o) (fun _ => m) (k + 1))])
        refine opI_skip rfl rfl (by intro c h; cases h) (hx_store 22 (.tmp 11) (.tmp 30) rfl (.pointer (some ⟨gs, 0, none⟩)) (.float .f32 (dAll p b cs (fun _ => o) (fun _ => m) (k + 1))) (by kernel_rfl) (by kernel_rfl) G6) ?_
        refine wpAnyIn_done (by kernel_rfl) ?_ _
        exact ⟨K7.out, H7.out, R7, S7, B7⟩
  · rintro D W hD ⟨A4, S4, B4⟩ hK
    have K5 := Lib.hid hK
    have df := delay_facts ok (fun _ => o) (fun _ => m) hN
    have hmul : ∀ t w, (binOp .mul t (.float .f32 (dAll p b cs (fun _ => o) (fun _ => m) N)) (.float .f32 l)).run Try.prog w = .ok (.float .f32 (mulB (dAll p b cs (fun _ => o) (fun _ => m) N) l)) w := fun t w => run_float_arith w .mul t .f32 _ _ _ df.1
    have cl := A4.cell (rd_lanes hl p b l)
    have cs4 := S4.cell (k := 0) (v := .float .f32 (dAll p b cs (fun _ => o) (fun _ => m) N)) rfl
    clear A3 S3 hK df
    go_wp2
    refine ⟨by simp, .inl ⟨_, _, rfl, run_takeDeferred K5.out, ?_⟩⟩
    exact ⟨.tuple #[.float .f32 (mulB (dAll p b cs (fun _ => o) (fun _ => m) N) l), .int .i64 0], by kernel_rfl, rfl, B4.out.trans (below_putObj _ (by omega))⟩

end Go.Proofs.Ytkaghfoaicbngaa

/-
  CONTRACTS: DelayOf, at all arguments; the model's.
-/
namespace Go.Proofs.Ytkaghfoaicbngaa
open Go Go.RowKit Go.Shelf
set_option maxRecDepth 100000

theorem stepsC_zero' {ok : Bool} {o m : Nat} {n : Int} (h : stepsC ok o m n = 0) : givenC ok o m = 0 ∧ 0 ≤ n ∧ n ≤ 400 := by
  unfold stepsC at h
  by_cases g : givenC ok o m = 0
  · rw [if_pos g] at h
    by_cases c : 0 ≤ n ∧ n ≤ 400
    · exact ⟨g, c⟩
    · rw [if_neg c] at h; cases h
  · rw [if_neg g] at h; exact absurd h g

def vDelayOf (cs : List Nat) (p b l o m : Nat) (n : Int) : Nat × Int := if stepsC (okB cs p b l) o m n = 0 then (mulB (dAll p b cs (fun _ => o) (fun _ => m) n.toNat) l, 0) else (0, stepsC (okB cs p b l) o m n)
theorem vDelayOf_good {cs : List Nat} (hl : cs.length = 16) (p b l o m : Nat) (n : Int) : (vDelayOf cs p b l o m n).1 < 4294967296 ∧ nanB (vDelayOf cs p b l o m n).1 = false := by
  unfold vDelayOf
  by_cases h : stepsC (okB cs p b l) o m n = 0
  · rw [if_pos h]
    have z := stepsC_zero' h
    have d := delay_facts (OkR.of hl (given_zero z.1).1) (fun _ => o) (fun _ => m) (k := n.toNat) (by omega)
    exact ⟨d.2.1, d.2.2.2⟩
  · rw [if_neg h]; exact ⟨show 0 < 4294967296 by decide, show nanB 0 = false by decide⟩
theorem DelayOf_any (cs : List Nat) (p b l : Nat) (hl : cs.length = 16) (hc : ∀ x ∈ cs, x < 4294967296) (hp : p < 4294967296) (hb : b < 4294967296) (hla : l < 4294967296) (o m : Nat) (ho : o < 4294967296) (hm : m < 4294967296) (n : Int) (w : World) :
    Calls Try.prog 25 #[.agg (rd cs p b l), .float .f32 o, .float .f32 m, .int .i64 n] w fun e w' => e = .returned (.tuple #[.float .f32 (vDelayOf cs p b l o m n).1, .int .i64 (vDelayOf cs p b l o m n).2]) ∧ Below w.heap.size w w' := by
  by_cases h : stepsC (okB cs p b l) o m n = 0
  · have e : (vDelayOf cs p b l o m n) = (mulB (dAll p b cs (fun _ => o) (fun _ => m) n.toNat) l, 0) := by unfold vDelayOf; rw [if_pos h]
    rw [e]
    have z := stepsC_zero' h
    obtain ⟨N, rfl⟩ := Int.eq_ofNat_of_zero_le z.2.1
    rw [Int.toNat_natCast]
    exact DelayOf_yes cs p b l hl hc hp hb hla o m ho hm N (by omega) z.1 w
  · have e : (vDelayOf cs p b l o m n) = (0, stepsC (okB cs p b l) o m n) := by unfold vDelayOf; rw [if_neg h]
    rw [e]
    exact DelayOf_no cs p b l hl hc hp hb hla o m ho hm n h w

set_option maxHeartbeats 4000000 in
theorem sDelayOf_any (cs : List Nat) (p b l : Nat) (hl : cs.length = 16) (hc : ∀ x ∈ cs, x < 4294967296) (hp : p < 4294967296) (hb : b < 4294967296) (hla : l < 4294967296) (o m : Nat) (ho : o < 4294967296) (hm : m < 4294967296) (n : Int) (w : World) :
    Calls Try.prog 24 #[.agg (rd cs p b l), .float .f32 o, .float .f32 m, .int .i64 n] w fun e w' => e = .returned (.tuple #[.float .f32 (vDelayOf cs p b l o m n).1, .int .i64 (vDelayOf cs p b l o m n).2]) ∧ Below w.heap.size w w' := by
  have R0 := At.new w (rd cs p b l) 28
  have B0 := Lib.hid (b0 w (.cells (rd cs p b l) 28))
  have KG := l02Given_any _ cs p b l hl hc hp hb hla o m ho hm _ ⟨_, _, R0⟩
  by_cases g : givenC (okB cs p b l) o m = 0
  · by_cases c : 0 ≤ n ∧ n ≤ 400
    · obtain ⟨N, rfl⟩ := Int.eq_ofNat_of_zero_le c.1
      have e : (vDelayOf cs p b l o m (N : Int)) = (mulB (dAll p b cs (fun _ => o) (fun _ => m) N) l, 0) := by unfold vDelayOf; rw [if_pos (by unfold stepsC; rw [if_pos g, if_pos c]), Int.toNat_natCast]
      rw [e]
      clear e
      have gz := given_zero g
      have ok := OkR.of hl gz.1
      have HN : Hid (N ≤ 400) := Lib.hid (by omega)
      have dn : decide (0 ≤ (N : Int) ∧ (N : Int) ≤ 400) = true := decide_eq_true c
      have GZ := Lib.hid gz.2
      rw [g] at KG
      clear gz g c
      go_enter Try.func24, Try.ntmps24
      go_wp2_with fail
      refine KG.mono ?_
      rintro e' w1 ⟨rfl, n1, rfl⟩
      go_wp2_with fail
      refine (l00In_any (N : Int) 0 400 _).mono ?_
      rw [dn]
      rintro e' w3 ⟨rfl, n3, rfl⟩
      have R2 := R0.drewN (n1 + n3)
      have B2 := Lib.hid (bdrew B0.out (n1 + n3))
      clear KG R0 B0
      go_wp2
      generalize hw3 : World.drewN _ _ = w3 at R2 B2 ⊢
      clear hw3
      go_loopw [11, 12] (fun s i wr => ∃ k : Nat, k ≤ N ∧ i = .int .i64 (k : Int) ∧ s = .float .f32 (dAll p b cs (fun _ => o) (fun _ => m) k) ∧ At wr w.heap.size (rd (itL p b cs (fun _ => o) (fun _ => m) k) p b l) 28 ∧ Hid (Below w.heap.size w wr)) (fun _ i _ => N - (intOf i).toNat)
      case atStart => exact ⟨0, by omega, rfl, rfl, R2, B2⟩
      case round =>
        clear R2 B2
        obtain ⟨k, hk, rfl, rfl, R4, B4⟩ := hrel
        have hNN := HN.out
        by_cases hkl : k < N
        · have okk := itL_ok ok (fun _ => o) (fun _ => m) k
          have hLk := okk.len
          have HLK := Lib.hid hLk
          have kd : (k : Int) < (N : Int) := by omega
          have s1 : IntKind.i64.wrap ((k : Int) + 1) = (k : Int) + 1 := IntWalk.i64_in _ (by omega)
          obtain ⟨ns, hns⟩ : ∃ ns, ns = itF p b cs (fun _ => o) (fun _ => m) k := ⟨_, rfl⟩
          have hn17 : ns.length = 17 := by rw [hns]; exact itF_len _ _ _ _ _ _
          have hnb : ∀ x ∈ ns, x ≤ 1065353216 := by rw [hns]; exact itF_le ok _ _ k
          have itf := it_facts ok (fun _ => o) (fun _ => m) k
          rw [← hns] at itf
          have HF := Lib.hid (And.intro hn17 itf)
          have e1 : itL p b cs (fun _ => o) (fun _ => m) (k + 1) = stepL (itL p b cs (fun _ => o) (fun _ => m) k) (intoL ns) (outL ns) := by rw [hns]; rfl
          have HE := Lib.hid (And.intro hns e1)
          clear hns e1 itf
          have FZ : (fl ns).size = 17 := by rw [fl_size, hn17]
          have KF : ∀ W, At W w.heap.size (rd (itL p b cs (fun _ => o) (fun _ => m) k) p b l) 28 → Calls Try.prog 27 #[.pointer (some ⟨w.heap.size, 0, none⟩), .float .f32 o, .float .f32 m] W fun e w' => e = .returned (.agg (fl ns)) ∧ Below W.heap.size W w' := fun W hA => by
            rw [HE.out.1]; exact l02Flows_any _ _ p b l okk o m GZ.out.1 GZ.out.2 W _ hA
          have KS : ∀ W gf, At W w.heap.size (rd (itL p b cs (fun _ => o) (fun _ => m) k) p b l) 28 → At W gf (fl ns) 52 → Calls Try.prog 28 #[.pointer (some ⟨w.heap.size, 0, none⟩), .pointer (some ⟨gf, 0, none⟩)] W fun e w' => e = .returned (.agg (rd (itL p b cs (fun _ => o) (fun _ => m) (k + 1)) p b l)) ∧ Below W.heap.size W w' := fun W gf hA hF => by
            rw [HE.out.2]; exact l02Step_any _ gf _ ns p b l hLk hn17 okk.cars hnb W _ _ hA hF
          have SKs : (rd (itL p b cs (fun _ => o) (fun _ => m) k) p b l).size = 19 := rd_size hLk p b l
          have SK1 : (rd (itL p b cs (fun _ => o) (fun _ => m) (k + 1)) p b l).size = 19 := rd_size (itL_ok ok (fun _ => o) (fun _ => m) (k + 1)).len p b l
          have d0 := dAt_facts ok.pace HF.out.2.1 HF.out.2.2 0
          have p1 : ∀ t w, (binOp .quo t (.float .f32 (nth ns 1)) (.float .f32 p)).run Try.prog w = .ok (.float .f32 (divB (nth ns 1) p)) w := fun t w => run_float_arith w .quo t .f32 _ _ _ d0.1
          have p2 : ∀ t w, (binOp .sub t (.float .f32 (nth (itL p b cs (fun _ => o) (fun _ => m) k) 0)) (.float .f32 (divB (nth ns 1) p))).run Try.prog w = .ok (.float .f32 (dS p (itL p b cs (fun _ => o) (fun _ => m) k) ns 0)) w := fun t w => run_float_arith w .sub t .f32 _ _ _ d0.2.1
          clear okk hLk hnb d0
          go_wp2_with fail
          refine (KF _ R4).mono ?_
          rintro e' w5 ⟨rfl, hb5⟩
          have R5 := R4.step hb5
          have B5 := Lib.hid (bthen B4.out hb5)
          clear R4 B4 hb5 KF
          have F0 := At.new w5 (fl (zeros 17)) 52
          have F6 := F0.setRow (fl ns)
          have R6 := (R5.alloc (.cells (fl (zeros 17)) 52)).setRow_other (k := w5.heap.size) (Nat.ne_of_lt R5.lt) (fl ns)
          have B6 := Lib.hid (bset (bnew B5.out (.cells (fl (zeros 17)) 52)) (g := w5.heap.size) B5.out.size (fl ns))
          go_wp2_with (((with_reducible refine is_store 52 (.tmp 13) (.tmp 37) rfl ?_); refine wpList_store_at rfl 52 (.tmp 13) (.tmp 37) rfl _ rfl (fl ns) rfl (fl (zeros 17)) _ F0 17 FZ (by rw [fl_size, zeros_len]) (by kernel_rfl) (fl_one _) ?_); refine Hid.out ?_)
          refine Lib.hid ?_
          have gl5 := R5.lt
          clear F0 R5 B5
          rw [show (fl (zeros 17) : Array Value) = #[.float .f32 0, .float .f32 0, .float .f32 0, .float .f32 0, .float .f32 0, .float .f32 0, .float .f32 0, .float .f32 0, .float .f32 0, .float .f32 0, .float .f32 0, .float .f32 0, .float .f32 0, .float .f32 0, .float .f32 0, .float .f32 0, .float .f32 0] from rfl] at F6 R6 B6
          generalize hw5 : (w5.alloc (.cells #[.float .f32 0, .float .f32 0, .float .f32 0, .float .f32 0, .float .f32 0, .float .f32 0, .float .f32 0, .float .f32 0, .float .f32 0, .float .f32 0, .float .f32 0, .float .f32 0, .float .f32 0, .float .f32 0, .float .f32 0, .float .f32 0, .float .f32 0] 52)).setRow w5.heap.size (fl ns) = w6 at F6 R6 B6 ⊢
          clear hw5
          generalize w5.heap.size = gf at F6 gl5 ⊢
          try simp only [Act.put]
          have f1 := F6.cell (fl_get (xs := ns) (k := 1) (by omega))
          have r0 := R6.cell (rd_cell HLK.out p b l (k := 0) (by omega))
          have r6 := R6.cell (rd_pace HLK.out p b l)
          go_wp2
          clear f1 r0 r6 p1 p2
          go_loopw [14, 15] (fun s j wr' => ∃ i : Nat, i ≤ 15 ∧ s = .float .f32 (dS p (itL p b cs (fun _ => o) (fun _ => m) k) ns i) ∧ j = .int .i64 ((i : Int) + 1) ∧ At wr' w.heap.size (rd (itL p b cs (fun _ => o) (fun _ => m) k) p b l) 28 ∧ At wr' gf (fl ns) 52 ∧ Hid (Below w.heap.size w wr')) (fun _ j _ => 17 - (intOf j).toNat)
          case atStart => exact ⟨0, by omega, rfl, rfl, R6, F6, B6⟩
          case round =>
            clear R6 F6 B6
            obtain ⟨i, hi, rfl, rfl, R7, F7, B7⟩ := hrel
            by_cases hi5 : i < 15
            · have s2 : IntKind.i64.wrap ((i : Int) + 1 + 1) = (i : Int) + 1 + 1 := IntWalk.i64_in _ (by omega)
              have s3 := s2
              have id1 : (i : Int) + 1 < 16 := by omega
              have idd : decide ((i : Int) + 1 < 16) = true := decide_eq_true (by omega)
              have df := dAt_facts ok.pace HF.out.2.1 HF.out.2.2 (i + 1)
              have q1 : ∀ t w, (binOp .quo t (.float .f32 (nth ns (i + 1 + 1))) (.float .f32 p)).run Try.prog w = .ok (.float .f32 (divB (nth ns (i + 1 + 1)) p)) w := fun t w => run_float_arith w .quo t .f32 _ _ _ df.1
              have q2 : ∀ t w, (binOp .sub t (.float .f32 (nth (itL p b cs (fun _ => o) (fun _ => m) k) (i + 1))) (.float .f32 (divB (nth ns (i + 1 + 1)) p))).run Try.prog w = .ok (.float .f32 (dAt p (itL p b cs (fun _ => o) (fun _ => m) k) ns (i + 1))) w := fun t w => run_float_arith w .sub t .f32 _ _ _ df.2.1
              have q3 : ∀ t w, (binOp .add t (.float .f32 (dS p (itL p b cs (fun _ => o) (fun _ => m) k) ns i)) (.float .f32 (dAt p (itL p b cs (fun _ => o) (fun _ => m) k) ns (i + 1)))).run Try.prog w = .ok (.float .f32 (dS p (itL p b cs (fun _ => o) (fun _ => m) k) ns (i + 1))) w := fun t w => run_float_arith w .add t .f32 _ _ _ (dS_add ok.pace HF.out.2.1 HF.out.2.2 (by omega))
              have c1 : (rd (itL p b cs (fun _ => o) (fun _ => m) k) p b l)[i + 1]? = some (.float .f32 (nth (itL p b cs (fun _ => o) (fun _ => m) k) (i + 1))) := rd_cell HLK.out p b l (by omega)
              have c2 : (rd (itL p b cs (fun _ => o) (fun _ => m) k) p b l)[16]? = some (.float .f32 p) := rd_pace HLK.out p b l
              have c3 : (fl ns)[i + 1 + 1]? = some (.float .f32 (nth ns (i + 1 + 1))) := fl_get (by rw [HF.out.1]; omega)
              clear df
              generalize divB (nth ns (i + 1 + 1)) p = qv at q1 q2
              generalize nth ns (i + 1 + 1) = fv at q1 c3
              generalize nth (itL p b cs (fun _ => o) (fun _ => m) k) (i + 1) = lv at q2 c1
              generalize dAt p (itL p b cs (fun _ => o) (fun _ => m) k) ns (i + 1) = dv at q2 q3
              go_wp2
              refine wp_region_held (S := fun w' => At w' w.heap.size (rd (itL p b cs (fun _ => o) (fun _ => m) k) p b l) 28 ∧ At w' gf (fl ns) 52) (by kernel_rfl) ?_
              show wpAnyH _ _ _ _ _ 15 (Array.replicate 15 false) _ _
              have SS : At { wr with drawn := wr.drawn + 1 } w.heap.size (rd (itL p b cs (fun _ => o) (fun _ => m) k) p b l) 28 ∧ At { wr with drawn := wr.drawn + 1 } gf (fl ns) 52 := ⟨R7, F7⟩
              have B8 : Hid (Below w.heap.size w { wr with drawn := wr.drawn + 1 }) := Lib.hid (bdrew B7.out 1)
              generalize ({ wr with drawn := wr.drawn + 1 } : World) = w8 at SS B8 ⊢
              clear R7 F7 B7
              refine wpAnyH_take (i := 0) (v := .float .f32 (dS p (itL p b cs (fun _ => o) (fun _ => m) k) ns i)) rfl (by kernel_rfl) (by kernel_rfl) (by kernel_rfl) (fun _ _ _ h => h) (yif rfl fun w' hw' => hx_move (.tmp 14) rfl (by kernel_rfl)) SS ?_
              refine wpAnyH_take (i := 1) (v := .int .i64 ((i : Int) + 1)) rfl (by kernel_rfl) (by kernel_rfl) (by kernel_rfl) (fun _ _ _ h => h) (yif rfl fun w' hw' => hx_move (.tmp 15) rfl (by kernel_rfl)) SS ?_
              refine wpAnyH_take (i := 2) (v := .pointer (some ⟨w.heap.size, 0, none⟩)) rfl (by kernel_rfl) (by kernel_rfl) (by kernel_rfl) (fun _ _ _ h => h) (yif rfl fun w' hw' => by kernel_rfl) SS ?_
              refine wpAnyH_take (i := 3) (v := .pointer (some ⟨w.heap.size, 0 + (i + 1) * 1, none⟩)) rfl (by kernel_rfl) (by kernel_rfl) (by kernel_rfl) (fun _ _ _ h => h) (yif rfl fun w' hw' => hx_index 26 (.tmp 53) (.tmp 52) rfl (.pointer (some ⟨w.heap.size, 0, none⟩)) (.int .i64 ((i + 1 : Nat) : Int)) (by kernel_rfl) (by kernel_rfl) (run_indexA w' 26 22 16 (i + 1) 1 _ _ Try.underlying26 (by kernel_rfl) (by omega))) SS ?_
              refine wpAnyH_take (i := 4) (v := .float .f32 lv) rfl (by kernel_rfl) (by kernel_rfl) (by kernel_rfl) (fun _ _ _ h => h) (yif rfl fun w' hw' => x_load 22 (.tmp 54) rfl ⟨w.heap.size, 0 + (i + 1) * 1, none⟩ (by kernel_rfl) (run_load_cell w' 22 _ Try.underlying22 _ _ (hw'.1.cell (by rw [show 0 + (i + 1) * 1 = i + 1 from by omega]; exact c1)))) SS ?_
              refine wpAnyH_take (i := 5) (v := .int .i64 ((i : Int) + 1)) rfl (by kernel_rfl) (by kernel_rfl) (by kernel_rfl) (fun _ _ _ h => h) (yif rfl fun w' hw' => hx_move (.tmp 15) rfl (by kernel_rfl)) SS ?_
              refine wpAnyH_take (i := 6) (v := .int .i64 ((i : Int) + 1 + 1)) rfl (by kernel_rfl) (by kernel_rfl) (by kernel_rfl) (fun _ _ _ h => h) (yif rfl fun w' hw' => hx_add 3 (.tmp 56) (.const (.int .i64 1)) rfl (.int .i64 ((i : Int) + 1)) (.int .i64 1) (by kernel_rfl) (by kernel_rfl) (by rw [run_add_i64, s3])) SS ?_
              refine wpAnyH_take (i := 7) (v := .pointer (some ⟨gf, 0 + (i + 1 + 1) * 1, none⟩)) rfl (by kernel_rfl) (by kernel_rfl) (by kernel_rfl) (fun _ _ _ h => h) (yif rfl fun w' hw' => hx_index 52 (.tmp 13) (.tmp 57) rfl (.pointer (some ⟨gf, 0, none⟩)) (.int .i64 ((i + 1 + 1 : Nat) : Int)) (by kernel_rfl) (by kernel_rfl) (run_indexA w' 52 22 17 (i + 1 + 1) 1 _ _ Try.underlying52 (by kernel_rfl) (by omega))) SS ?_
              refine wpAnyH_take (i := 8) (v := .float .f32 fv) rfl (by kernel_rfl) (by kernel_rfl) (by kernel_rfl) (fun _ _ _ h => h) (yif rfl fun w' hw' => x_load 22 (.tmp 58) rfl ⟨gf, 0 + (i + 1 + 1) * 1, none⟩ (by kernel_rfl) (run_load_cell w' 22 _ Try.underlying22 _ _ (hw'.2.cell (by rw [show 0 + (i + 1 + 1) * 1 = i + 1 + 1 from by omega]; exact c3)))) SS ?_
              refine wpAnyH_take (i := 9) (v := .pointer (some ⟨w.heap.size, 16, none⟩)) rfl (by kernel_rfl) (by kernel_rfl) (by kernel_rfl) (fun _ _ _ h => h) (yif rfl fun w' hw' => by kernel_rfl) SS ?_
              refine wpAnyH_take (i := 10) (v := .float .f32 p) rfl (by kernel_rfl) (by kernel_rfl) (by kernel_rfl) (fun _ _ _ h => h) (yif rfl fun w' hw' => x_load 22 (.tmp 60) rfl ⟨w.heap.size, 16, none⟩ (by kernel_rfl) (run_load_cell w' 22 _ Try.underlying22 _ _ (hw'.1.cell (c2)))) SS ?_
              refine wpAnyH_take (i := 11) (v := .float .f32 qv) rfl (by kernel_rfl) (by kernel_rfl) (by kernel_rfl) (fun _ _ _ h => h) (yif rfl fun w' hw' => hx_quo' 22 (.tmp 59) (.tmp 61) rfl (.float .f32 fv) (.float .f32 p) (by kernel_rfl) (by kernel_rfl) (q1 22 w')) SS ?_
              refine wpAnyH_take (i := 12) (v := .float .f32 dv) rfl (by kernel_rfl) (by kernel_rfl) (by kernel_rfl) (fun _ _ _ h => h) (yif rfl fun w' hw' => hx_sub 22 (.tmp 55) (.tmp 62) rfl (.float .f32 lv) (.float .f32 qv) (by kernel_rfl) (by kernel_rfl) (q2 22 w')) SS ?_
              refine wpAnyH_take (i := 13) (v := .float .f32 (dS p (itL p b cs (fun _ => o) (fun _ => m) k) ns (i + 1))) rfl (by kernel_rfl) (by kernel_rfl) (by kernel_rfl) (fun _ _ _ h => h) (yif rfl fun w' hw' => hx_add 22 (.tmp 51) (.tmp 63) rfl (.float .f32 (dS p (itL p b cs (fun _ => o) (fun _ => m) k) ns i)) (.float .f32 dv) (by kernel_rfl) (by kernel_rfl) (q3 22 w')) SS ?_
              refine wpAnyH_take (i := 14) (v := .float .f32 (dS p (itL p b cs (fun _ => o) (fun _ => m) k) ns (i + 1))) rfl (by kernel_rfl) (by kernel_rfl) (by kernel_rfl) (fun _ _ _ h => h) (yif rfl fun w' hw' => by kernel_rfl) SS ?_
              refine wpAnyH_done (by kernel_rfl) ?_ _
              generalize hA : Act.put _ _ _ = A
              have eA : A = { tmps := #[.agg (rd cs p b l), .float .f32 o, .float .f32 m, .int .i64 (N : Int), .pointer (some ⟨w.heap.size, 0, none⟩), undef, undef, undef, .float .f32 0, .int .i64 0, .int .i64 0, .float .f32 (dAll p b cs (fun _ => o) (fun _ => m) k), .int .i64 (k : Int), .pointer (some ⟨gf, 0, none⟩), .float .f32 (dS p (itL p b cs (fun _ => o) (fun _ => m) k) ns (i + 1)), .int .i64 ((i : Int) + 1), undef, .float .f32 o, .float .f32 m, .int .i64 0, .int .i64 0, .bool true, .bool true, .int .i64 (N : Int), .bool true, .bool false, .bool false, .int .i64 0, .bool false, undef, .int .i64 (k : Int), .int .i64 (N : Int), .bool true, u33, u34, .float .f32 o, .float .f32 m, .agg (fl ns), .pointer (some ⟨w.heap.size, 0, none⟩), .pointer (some ⟨w.heap.size, 0, none⟩), .float .f32 (nth (itL p b cs (fun _ => o) (fun _ => m) k) 0), .pointer (some ⟨gf, 1, none⟩), .float .f32 (nth ns 1), .pointer (some ⟨w.heap.size, 16, none⟩), .float .f32 p, .float .f32 (divB (nth ns 1) p), .float .f32 (dS p (itL p b cs (fun _ => o) (fun _ => m) k) ns 0), .int .i64 ((i : Int) + 1), .bool true, u49, u50, .float .f32 (dS p (itL p b cs (fun _ => o) (fun _ => m) k) ns i), .int .i64 ((i : Int) + 1), .pointer (some ⟨w.heap.size, 0, none⟩), .pointer (some ⟨w.heap.size, 0 + (i + 1) * 1, none⟩), .float .f32 lv, .int .i64 ((i : Int) + 1), .int .i64 ((i : Int) + 1 + 1), .pointer (some ⟨gf, 0 + (i + 1 + 1) * 1, none⟩), .float .f32 fv, .pointer (some ⟨w.heap.size, 16, none⟩), .float .f32 p, .float .f32 qv, .float .f32 dv, .float .f32 (dS p (itL p b cs (fun _ => o) (fun _ => m) k) ns (i + 1)), u65, u66, u67, u68, undef, undef, undef, undef, undef, undef, undef, undef], defers := [] } := by rw [← hA]; kernel_rfl
              clear hA
              subst eA
              go_wp2
              exact ⟨⟨i + 1, by omega, rfl, by go_num, SS.1, SS.2, B8⟩, by simp [intOf]; omega⟩
            · obtain rfl : i = 15 := by omega
              have hadd : ∀ t w, (binOp .add t (.float .f32 (dAll p b cs (fun _ => o) (fun _ => m) k)) (.float .f32 (dS p (itL p b cs (fun _ => o) (fun _ => m) k) ns 15))).run Try.prog w = .ok (.float .f32 (dAll p b cs (fun _ => o) (fun _ => m) (k + 1))) w := fun t w => run_float_arith w .add t .f32 _ _ _ (by rw [HE.out.1]; exact dAll_add ok (fun _ => o) (fun _ => m) (by omega))
              go_wp2_with fail
              refine (KS _ gf R7 F7).mono ?_
              rintro e' w7 ⟨rfl, hb7⟩
              have R8 := R7.step hb7
              have B8 := Lib.hid (bthen B7.out hb7)
              clear R7 F7 B7 hb7
              have R9 := R8.setRow (rd (itL p b cs (fun _ => o) (fun _ => m) (k + 1)) p b l)
              have B9 := Lib.hid (bset B8.out (g := w.heap.size) (Nat.le_refl _) (rd (itL p b cs (fun _ => o) (fun _ => m) (k + 1)) p b l))
              go_wp2_with (((with_reducible refine is_store 28 (.tmp 4) (.tmp 68) rfl ?_); refine wpList_store_at rfl 28 (.tmp 4) (.tmp 68) rfl _ rfl (rd (itL p b cs (fun _ => o) (fun _ => m) (k + 1)) p b l) rfl (rd (itL p b cs (fun _ => o) (fun _ => m) k) p b l) _ R8 19 (SK1) (SKs) (by kernel_rfl) (fl_one _) ?_))
              exact ⟨⟨k + 1, by omega, by go_num, rfl, R9, B9⟩, by simp [intOf]; omega⟩
        · obtain rfl : N = k := by omega
          have df := delay_facts ok (fun _ => o) (fun _ => m) hNN
          have hmul : ∀ t w, (binOp .mul t (.float .f32 (dAll p b cs (fun _ => o) (fun _ => m) N)) (.float .f32 l)).run Try.prog w = .ok (.float .f32 (mulB (dAll p b cs (fun _ => o) (fun _ => m) N) l)) w := fun t w => run_float_arith w .mul t .f32 _ _ _ df.1
          have cl := R4.cell (rd_lanes (itL_ok ok (fun _ => o) (fun _ => m) N).len p b l)
          have KFN := fun w => l01Finite_any (mulB (dAll p b cs (fun _ => o) (fun _ => m) N) l) df.2.1 w
          rw [df.2.2.1] at KFN
          clear df
          go_wp2_with fail
          refine (KFN _).mono ?_
          rintro e' w8 ⟨rfl, n8, rfl⟩
          go_wp2_with fail
          go_ret2
          exact ⟨rfl, bdrew B4.out _⟩
    · have e : (vDelayOf cs p b l o m n) = (0, 2) := by unfold vDelayOf; rw [show stepsC (okB cs p b l) o m n = 2 from by unfold stepsC; rw [if_pos g, if_neg c]]; rfl
      have dn : decide (0 ≤ n ∧ n ≤ 400) = false := decide_eq_false c
      rw [e]
      rw [g] at KG
      clear e c g
      go_enter Try.func24, Try.ntmps24
      go_wp2_with fail
      refine KG.mono ?_
      rintro e' w1 ⟨rfl, n1, rfl⟩
      go_wp2_with fail
      refine (l00In_any n 0 400 _).mono ?_
      rw [dn]
      rintro e' w3 ⟨rfl, n3, rfl⟩
      go_wp2_with fail
      go_ret2
      exact ⟨rfl, bdrew B0.out _⟩
  · have e : (vDelayOf cs p b l o m n) = (0, givenC (okB cs p b l) o m) := by
      have e1 : stepsC (okB cs p b l) o m n = givenC (okB cs p b l) o m := by unfold stepsC; rw [if_neg g]
      unfold vDelayOf; rw [e1, if_neg g]
    rw [e]
    clear e
    generalize givenC (okB cs p b l) o m = c at KG g ⊢
    have gne : (c == 0) = false := by simp [g]
    go_enter Try.func24, Try.ntmps24
    go_wp2_with fail
    refine KG.mono ?_
    rintro e' w1 ⟨rfl, n1, rfl⟩
    go_wp2_with fail
    go_ret2
    exact ⟨rfl, bdrew B0.out _⟩

end Go.Proofs.Ytkaghfoaicbngaa
