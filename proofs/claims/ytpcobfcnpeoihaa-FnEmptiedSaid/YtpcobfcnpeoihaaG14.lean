/-
  SEVERAL TEXTS IN ONE.
-/
import Derived.OrdersHeld
import Derived.Test.YtpcobfcnpeoihaaNew
import Derived.Test.YtpcobfcnpeoihaaMag
import Derived.Test.YtpcobfcnpeoihaaSums

/-
  A STATEMENT WHOSE ORDER IS OPEN, by hand: reads are taken first, calls come in their chain: the pieces.
  No Go text in it. Conditions: those of each theorem.
-/
namespace Go.Proofs.Ytpcobfcnpeoihaa
open Go Go.RowKit
section
variable {P : Program} {ops : Array Oper} {Q : Exit → Act → World → Prop} {S : World → Prop} {o : Oper} {a : Act} {w : World} {v : Value} {i : Nat} {K : Act → World → Prop}
theorem yif (hg : o.guard = none) (h : ∀ w, S w → (execOp a.eval o).run P w = .ok (.value v) w) : YieldsIf P ops S o v a := by
  refine .inl ⟨wanted_none hg _, fun w hw => ?_⟩
  rw [h w hw]
theorem x_load (ty : TypeId) (x : Operand) (ho : o.op = .load ty x) (ad : Addr) (hx : a.eval x = .pointer (some ad)) (hrun : (Instr.loadAt ty (.pointer (some ad))).run P w = .ok v w) : (execOp a.eval o).run P w = .ok (.value v) w := by
  unfold execOp
  simp only [ho, hx, Sem.run_bind, hrun, Sem.run_pure, Result.andThen_ok]
theorem x_move (x : Operand) (ho : o.op = .move x) : (execOp a.eval o).run P w = .ok (.value (a.eval x)) w := by
  unfold execOp
  simp only [ho, Sem.run_pure]
theorem x_assign (x : Operand) (ho : o.op = .assign x) : (execOp a.eval o).run P w = .ok (.value (a.eval x)) w := by
  unfold execOp
  simp only [ho, Sem.run_pure]
theorem op_call {f : FuncId} {args : Array Value} (ho : ops[i]? = some o) (hg : o.guard = none) (hx : (execOp a.eval o).run P w = .ok (.enter f args) w) (hc : Calls P f args w fun e w' => ∃ v, e = .returned v ∧ K (a.put o.dst v) w') : wpOp P ops Q i K a w := by
  unfold wpOp
  simp only [ho, wanted_none hg, if_true]
  refine .inl ?_
  unfold Oper.wp
  rw [hx]
  exact hc.mono fun e w' ⟨v, h1, h2⟩ => by subst h1; exact h2
theorem op_value {w' : World} (ho : ops[i]? = some o) (hg : o.guard = none) (hx : (execOp a.eval o).run P w = .ok (.value v) w') (hK : K (a.put o.dst v) w') : wpOp P ops Q i K a w := by
  unfold wpOp
  simp only [ho, wanted_none hg, if_true]
  refine .inl ?_
  unfold Oper.wp
  rw [hx]
  exact hK
theorem op_skip {w' : World} (ho : ops[i]? = some o) (hg : o.guard = none) (hx : (execOp a.eval o).run P w = .ok .skip w') (hK : K (a.put o.dst undef) w') : wpOp P ops Q i K a w := by
  unfold wpOp
  simp only [ho, wanted_none hg, if_true]
  refine .inl ?_
  unfold Oper.wp
  rw [hx]
  exact hK
theorem one_of {i j : Nat} (h : i ∈ [j]) : i = j := by simpa using h
end
end Go.Proofs.Ytpcobfcnpeoihaa

/-
  OPERATIONS IN A WALK WHOSE ORDER IS OPEN, by hand: what each yields, its operands by the kernel.
  No Go text in it. Conditions: those of each theorem.
-/
namespace Go.Proofs.Ytpcobfcnpeoihaa
open Go Go.RowKit
section
variable {P : Program} {o : Oper} {a : Act} {w w' : World} {v : Value}
theorem hx_move (x : Operand) (ho : o.op = .move x) (hx : a.eval x = v) : (execOp a.eval o).run P w = .ok (.value v) w := by
  unfold execOp
  simp only [ho, hx, Sem.run_pure]
theorem hx_index (ty : TypeId) (x y : Operand) (ho : o.op = .indexAddr ty x y) (v1 v2 : Value) (h1 : a.eval x = v1) (h2 : a.eval y = v2) (hrun : (Instr.indexAt ty v1 v2).run P w = .ok v w) : (execOp a.eval o).run P w = .ok (.value v) w := by
  unfold execOp
  simp only [ho, h1, h2, Sem.run_bind, hrun, Sem.run_pure, Result.andThen_ok]
theorem hx_sub (ty : TypeId) (x y : Operand) {T : TypeId} (ho : o.op = .binOp .sub ty x y T) (v1 v2 : Value) (h1 : a.eval x = v1) (h2 : a.eval y = v2) (hrun : (binOp .sub ty v1 v2).run P w = .ok v w') : (execOp a.eval o).run P w = .ok (.value v) w' := by
  have hg : eqGuard .sub ty x y v1 v2 = pure () := rfl
  unfold execOp
  simp only [ho, h1, h2, hg, Sem.run_bind, hrun, Sem.run_pure, Result.andThen_ok]
theorem hx_store (ty : TypeId) (x y : Operand) (ho : o.op = .store ty x y) (v1 v2 : Value) (h1 : a.eval x = v1) (h2 : a.eval y = v2) (hrun : (Instr.storeAt ty v1 v2).run P w = .ok () w') : (execOp a.eval o).run P w = .ok .skip w' := by
  unfold execOp
  simp only [ho, h1, h2, Sem.run_bind, hrun, Sem.run_pure, Result.andThen_ok]
end
theorem run_sub_i64 {P : Program} (W : World) (t : TypeId) (a b : Int) : (binOp .sub t (.int .i64 a) (.int .i64 b)).run P W = .ok (.int .i64 (IntKind.i64.wrap (a - b))) W := by
  simp [binOp, Op.intArith]
end Go.Proofs.Ytpcobfcnpeoihaa

/-
  CONTRACTS: the delay in a step.
-/
namespace Go.Proofs.Ytpcobfcnpeoihaa
open Go Go.RowKit Go.Shelf
set_option maxRecDepth 100000

theorem hx_quo' {P : Program} {o : Oper} {a : Act} {w w' : World} {v : Value} (ty : TypeId) (x y : Operand) {T : TypeId} (ho : o.op = .binOp .quo ty x y T) (v1 v2 : Value) (h1 : a.eval x = v1) (h2 : a.eval y = v2) (hrun : (binOp .quo ty v1 v2).run P w = .ok v w') : (execOp a.eval o).run P w = .ok (.value v) w' := by
  have hg : eqGuard .quo ty x y v1 v2 = pure () := rfl
  unfold execOp
  simp only [ho, h1, h2, hg, Sem.run_bind, hrun, Sem.run_pure, Result.andThen_ok]
theorem hx_add {P : Program} {o : Oper} {a : Act} {w w' : World} {v : Value} (ty : TypeId) (x y : Operand) {T : TypeId} (ho : o.op = .binOp .add ty x y T) (v1 v2 : Value) (h1 : a.eval x = v1) (h2 : a.eval y = v2) (hrun : (binOp .add ty v1 v2).run P w = .ok v w') : (execOp a.eval o).run P w = .ok (.value v) w' := by
  have hg : eqGuard .add ty x y v1 v2 = pure () := rfl
  unfold execOp
  simp only [ho, h1, h2, hg, Sem.run_bind, hrun, Sem.run_pure, Result.andThen_ok]
theorem run_add_i64 {P : Program} (W : World) (t : TypeId) (a b : Int) : (binOp .add t (.int .i64 a) (.int .i64 b)).run P W = .ok (.int .i64 (IntKind.i64.wrap (a + b))) W := by
  simp [binOp, Op.intArith]
theorem run_indexA {P : Program} (w : World) (ty e : TypeId) (n k s : Nat) (g off : Nat) (hu : P.underlying ty = some (.array n e)) (he : (P.info? e).map (·.size) = some s) (hk : k < n) :
    (Instr.indexAt ty (.pointer (some ⟨g, off, none⟩)) (.int .i64 k)).run P w = .ok (.pointer (some ⟨g, off + k * s, none⟩)) w := by
  cases hq : P.info? e with
  | none => simp [hq] at he
  | some i =>
    have hs : i.size = s := by simpa [hq] using he
    by_cases h0 : k * s = 0
    · simp [Instr.indexAt, Instr.sureAddr, asIntOf, run_underlying hu, hk, sizeOf, typeInfo, hq, hs, Addr.add, h0]
    · simp [Instr.indexAt, Instr.sureAddr, asIntOf, run_underlying hu, hk, sizeOf, typeInfo, hq, hs, Addr.add, h0]

theorem stepRow_before {cs : List Nat} {p b l : Nat} (ok : OkR cs p b l) (oo mm : Nat → Nat) (k : Nat) {i : Nat} (hi : i < 19) : (stepRow p b l cs oo mm k)[i]? = (rd (itL p b cs oo mm k) p b l)[i]? := by
  unfold stepRow
  rw [Array.append_assoc, Array.getElem?_append_left (by rw [rd_size (itL_ok ok oo mm k).len]; exact hi)]
set_option maxHeartbeats 400000 in
theorem delayAt_any (cs : List Nat) (p b l : Nat) (ok : OkR cs p b l) (oo mm : Nat → Nat) (k : Nat) (i : Nat) (hi : i < 16) (w : World) :
    Calls Try.prog 60 #[.agg (stepRow p b l cs oo mm k), .int .i64 (i : Int)] w fun e w' => e = .returned (.float .f32 (dAt p (itL p b cs oo mm k) (itF p b cs oo mm k) i)) ∧ Below w.heap.size w w' := by
  have A0 := At.new w (stepRow p b l cs oo mm k) 66
  have B0 := Lib.hid (b0 w (.cells (stepRow p b l cs oo mm k) 66))
  have itf := it_facts ok oo mm k
  have df := dAt_facts ok.pace itf.1 itf.2 i
  have q1 : ∀ t w, (binOp .quo t (.float .f32 (nth (itF p b cs oo mm k) (i + 1))) (.float .f32 p)).run Try.prog w = .ok (.float .f32 (divB (nth (itF p b cs oo mm k) (i + 1)) p)) w := fun t w => run_float_arith w .quo t .f32 _ _ _ df.1
  have q2 : ∀ t w, (binOp .sub t (.float .f32 (nth (itL p b cs oo mm k) i)) (.float .f32 (divB (nth (itF p b cs oo mm k) (i + 1)) p))).run Try.prog w = .ok (.float .f32 (dAt p (itL p b cs oo mm k) (itF p b cs oo mm k) i)) w := fun t w => run_float_arith w .sub t .f32 _ _ _ df.2.1
  have c1 : (stepRow p b l cs oo mm k)[i]? = some (.float .f32 (nth (itL p b cs oo mm k) i)) := by rw [stepRow_before ok oo mm k (by omega)]; exact rd_cell (itL_ok ok oo mm k).len p b l hi
  have c2 : (stepRow p b l cs oo mm k)[16]? = some (.float .f32 p) := by rw [stepRow_before ok oo mm k (by omega)]; exact rd_pace (itL_ok ok oo mm k).len p b l
  have c3 : (stepRow p b l cs oo mm k)[19 + (i + 1)]? = some (.float .f32 (nth (itF p b cs oo mm k) (i + 1))) := stepRow_flow ok oo mm k (by omega)
  have s2 : IntKind.i64.wrap ((i : Int) + 1) = (i : Int) + 1 := IntWalk.i64_in _ (by omega)
  have i1 : (i : Int) < 16 := by omega
  have i2 : (i : Int) + 1 < 17 := by omega
  clear df itf
  generalize divB (nth (itF p b cs oo mm k) (i + 1)) p = qv at q1 q2
  generalize nth (itF p b cs oo mm k) (i + 1) = fv at q1 c3
  generalize nth (itL p b cs oo mm k) i = lv at q2 c1
  generalize (dAt p (itL p b cs oo mm k) (itF p b cs oo mm k) i) = dv at q2 ⊢
  go_enter Try.func60, Try.ntmps60
  go_wp2
  generalize hw0 : w.alloc (.cells (stepRow p b l cs oo mm k) 66) = w0 at A0 B0 ⊢
  clear hw0
  refine wp_region_held (S := fun w' => At w' w.heap.size (stepRow p b l cs oo mm k) 66) (by kernel_rfl) ?_
  show wpAnyH _ _ _ _ _ 16 (Array.replicate 16 false) _ _
  have A1 : At { w0 with drawn := w0.drawn + 1 } w.heap.size (stepRow p b l cs oo mm k) 66 := A0
  have B1 : Hid (Below w.heap.size w { w0 with drawn := w0.drawn + 1 }) := Lib.hid (bdrew B0.out 1)
  generalize ({ w0 with drawn := w0.drawn + 1 } : World) = w1 at A1 B1 ⊢
  clear A0 B0
  refine wpAnyH_take (i := 0) (v := .int .i64 (i : Int)) rfl (by kernel_rfl) (by kernel_rfl) (by kernel_rfl) (fun _ _ _ h => h) (yif rfl fun w' hw' => hx_move (.tmp 1) rfl (by kernel_rfl)) A1 ?_
  refine wpAnyH_take (i := 1) (v := .pointer (some ⟨w.heap.size, 0, none⟩)) rfl (by kernel_rfl) (by kernel_rfl) (by kernel_rfl) (fun _ _ _ h => h) (yif rfl fun w' hw' => by kernel_rfl) A1 ?_
  refine wpAnyH_take (i := 2) (v := .pointer (some ⟨w.heap.size, 0, none⟩)) rfl (by kernel_rfl) (by kernel_rfl) (by kernel_rfl) (fun _ _ _ h => h) (yif rfl fun w' hw' => by kernel_rfl) A1 ?_
  refine wpAnyH_take (i := 3) (v := .pointer (some ⟨w.heap.size, 0 + i * 1, none⟩)) rfl (by kernel_rfl) (by kernel_rfl) (by kernel_rfl) (fun _ _ _ h => h) (yif rfl fun w' hw' => hx_index 26 (.tmp 7) (.tmp 5) rfl (.pointer (some ⟨w.heap.size, 0, none⟩)) (.int .i64 ((i : Nat) : Int)) (by kernel_rfl) (by kernel_rfl) (run_indexA w' 26 24 16 (i) 1 _ _ Try.underlying26 (by kernel_rfl) hi)) A1 ?_
  refine wpAnyH_take (i := 4) (v := .float .f32 lv) rfl (by kernel_rfl) (by kernel_rfl) (by kernel_rfl) (fun _ _ _ h => h) (yif rfl fun w' hw' => x_load 24 (.tmp 8) rfl ⟨w.heap.size, 0 + i * 1, none⟩ (by kernel_rfl) (run_load_cell w' 24 _ Try.underlying24 _ _ (hw'.cell (by rw [show 0 + i * 1 = i from by omega]; exact c1)))) A1 ?_
  refine wpAnyH_take (i := 5) (v := .int .i64 (i : Int)) rfl (by kernel_rfl) (by kernel_rfl) (by kernel_rfl) (fun _ _ _ h => h) (yif rfl fun w' hw' => hx_move (.tmp 1) rfl (by kernel_rfl)) A1 ?_
  refine wpAnyH_take (i := 6) (v := .int .i64 ((i : Int) + 1)) rfl (by kernel_rfl) (by kernel_rfl) (by kernel_rfl) (fun _ _ _ h => h) (yif rfl fun w' hw' => hx_add 3 (.tmp 10) (.const (.int .i64 1)) rfl (.int .i64 (i : Int)) (.int .i64 1) (by kernel_rfl) (by kernel_rfl) (by rw [run_add_i64, s2])) A1 ?_
  refine wpAnyH_take (i := 7) (v := .pointer (some ⟨w.heap.size, 19, none⟩)) rfl (by kernel_rfl) (by kernel_rfl) (by kernel_rfl) (fun _ _ _ h => h) (yif rfl fun w' hw' => by kernel_rfl) A1 ?_
  refine wpAnyH_take (i := 8) (v := .pointer (some ⟨w.heap.size, 19 + (i + 1) * 1, none⟩)) rfl (by kernel_rfl) (by kernel_rfl) (by kernel_rfl) (fun _ _ _ h => h) (yif rfl fun w' hw' => hx_index 55 (.tmp 12) (.tmp 11) rfl (.pointer (some ⟨w.heap.size, 19, none⟩)) (.int .i64 ((i + 1 : Nat) : Int)) (by kernel_rfl) (by kernel_rfl) (run_indexA w' 55 24 17 (i + 1) 1 _ _ Try.underlying55 (by kernel_rfl) (by omega))) A1 ?_
  refine wpAnyH_take (i := 9) (v := .float .f32 fv) rfl (by kernel_rfl) (by kernel_rfl) (by kernel_rfl) (fun _ _ _ h => h) (yif rfl fun w' hw' => x_load 24 (.tmp 13) rfl ⟨w.heap.size, 19 + (i + 1) * 1, none⟩ (by kernel_rfl) (run_load_cell w' 24 _ Try.underlying24 _ _ (hw'.cell (by rw [show 19 + (i + 1) * 1 = 19 + (i + 1) from by omega]; exact c3)))) A1 ?_
  refine wpAnyH_take (i := 10) (v := .pointer (some ⟨w.heap.size, 0, none⟩)) rfl (by kernel_rfl) (by kernel_rfl) (by kernel_rfl) (fun _ _ _ h => h) (yif rfl fun w' hw' => by kernel_rfl) A1 ?_
  refine wpAnyH_take (i := 11) (v := .pointer (some ⟨w.heap.size, 16, none⟩)) rfl (by kernel_rfl) (by kernel_rfl) (by kernel_rfl) (fun _ _ _ h => h) (yif rfl fun w' hw' => by kernel_rfl) A1 ?_
  refine wpAnyH_take (i := 12) (v := .float .f32 p) rfl (by kernel_rfl) (by kernel_rfl) (by kernel_rfl) (fun _ _ _ h => h) (yif rfl fun w' hw' => x_load 24 (.tmp 16) rfl ⟨w.heap.size, 16, none⟩ (by kernel_rfl) (run_load_cell w' 24 _ Try.underlying24 _ _ (hw'.cell (c2)))) A1 ?_
  refine wpAnyH_take (i := 13) (v := .float .f32 qv) rfl (by kernel_rfl) (by kernel_rfl) (by kernel_rfl) (fun _ _ _ h => h) (yif rfl fun w' hw' => hx_quo' 24 (.tmp 14) (.tmp 17) rfl (.float .f32 fv) (.float .f32 p) (by kernel_rfl) (by kernel_rfl) (q1 24 w')) A1 ?_
  refine wpAnyH_take (i := 14) (v := .float .f32 dv) rfl (by kernel_rfl) (by kernel_rfl) (by kernel_rfl) (fun _ _ _ h => h) (yif rfl fun w' hw' => hx_sub 24 (.tmp 9) (.tmp 18) rfl (.float .f32 lv) (.float .f32 qv) (by kernel_rfl) (by kernel_rfl) (q2 24 w')) A1 ?_
  refine wpAnyH_take (i := 15) (v := .float .f32 dv) rfl (by kernel_rfl) (by kernel_rfl) (by kernel_rfl) (fun _ _ _ h => h) (yif rfl fun w' hw' => by kernel_rfl) A1 ?_
  refine wpAnyH_done (by kernel_rfl) ?_ _
  generalize hA : Act.put _ _ _ = A
  have HA := Lib.hid hA
  clear hA
  go_wp2
  have hA := HA.out
  subst hA
  go_ret
  exact ⟨by kernel_rfl, B1.out⟩

theorem delayIn_any (cs : List Nat) (p b l : Nat) (ok : OkR cs p b l) (oo mm : Nat → Nat) (k : Nat) (w : World) :
    Calls Try.prog 38 #[.agg (stepRow p b l cs oo mm k)] w fun e w' => e = .returned (.float .f32 (dS p (itL p b cs oo mm k) (itF p b cs oo mm k) 15)) ∧ Below w.heap.size w w' := by
  have A0 := At.new w (stepRow p b l cs oo mm k) 66
  have B0 := Lib.hid (b0 w (.cells (stepRow p b l cs oo mm k) 66))
  have SS : (stepRow p b l cs oo mm k).size = 55 := stepRow_size ok oo mm k
  have itf := it_facts ok oo mm k
  have HD := Lib.hid fun m (hm : m < 16) => dS_add ok.pace itf.1 itf.2 (m := m) hm
  clear itf
  go_enter Try.func38, Try.ntmps38
  go_wp2_with (((with_reducible refine is_load 66 _ rfl ?_); refine wpList_load_at rfl 66 _ rfl _ rfl (stepRow p b l cs oo mm k) _ A0 55 SS _ Try.underlying66 rfl (by kernel_rfl) ?_))
  refine (delayAt_any cs p b l ok oo mm k 0 (by omega) _).mono ?_
  rintro e w1 ⟨rfl, hb1⟩
  rw [show dAt p (itL p b cs oo mm k) (itF p b cs oo mm k) 0 = dS p (itL p b cs oo mm k) (itF p b cs oo mm k) 0 from rfl]
  have A1 := A0.step hb1
  have B1 := Lib.hid (bthen B0.out hb1)
  clear A0 B0 hb1
  go_wp2_with fail
  go_loopw [3, 4] (fun s i wr => ∃ m : Nat, m ≤ 15 ∧ s = .float .f32 (dS p (itL p b cs oo mm k) (itF p b cs oo mm k) m) ∧ i = .int .i64 ((m : Int) + 1) ∧ At wr w.heap.size (stepRow p b l cs oo mm k) 66 ∧ Hid (Below w.heap.size w wr)) (fun _ i _ => 17 - (intOf i).toNat)
  case atStart => exact ⟨0, by omega, rfl, rfl, A1, B1⟩
  case round =>
    clear A1 B1
    obtain ⟨m, hm, rfl, rfl, A2, B2⟩ := hrel
    by_cases hlt : m < 15
    · have s2 : IntKind.i64.wrap ((m : Int) + 1 + 1) = (m : Int) + 1 + 1 := IntWalk.i64_in _ (by omega)
      have md : (m : Int) + 1 < 16 := by omega
      have mdd : decide ((m : Int) + 1 < 16) = true := decide_eq_true (by omega)
      have hs : ∀ t w, (binOp .add t (.float .f32 (dS p (itL p b cs oo mm k) (itF p b cs oo mm k) m)) (.float .f32 (dAt p (itL p b cs oo mm k) (itF p b cs oo mm k) (m + 1)))).run Try.prog w = .ok (.float .f32 (dS p (itL p b cs oo mm k) (itF p b cs oo mm k) (m + 1))) w := fun t w => run_float_arith w .add t .f32 _ _ _ (HD.out m (by omega))
      have KA := fun w => delayAt_any cs p b l ok oo mm k (m + 1) (by omega) w
      rw [show ((m + 1 : Nat) : Int) = (m : Int) + 1 from rfl] at KA
      generalize dAt p (itL p b cs oo mm k) (itF p b cs oo mm k) (m + 1) = dv at hs KA
      go_wp2_with (((with_reducible refine is_load 66 _ rfl ?_); refine wpList_load_at rfl 66 _ rfl _ rfl (stepRow p b l cs oo mm k) _ A2 55 SS _ Try.underlying66 rfl (by kernel_rfl) ?_))
      refine (KA _).mono ?_
      rintro e w3 ⟨rfl, hb3⟩
      have A3 := A2.step hb3
      have B3 := Lib.hid (bthen B2.out hb3)
      clear KA A2 B2 hb3
      go_wp2_with fail
      exact ⟨⟨m + 1, by omega, rfl, by go_num, A3, B3⟩, by simp [intOf]; omega⟩
    · obtain rfl : m = 15 := by omega
      go_wp2
      go_ret
      exact ⟨rfl, B2.out⟩

end Go.Proofs.Ytpcobfcnpeoihaa
