/-
  SEVERAL TEXTS IN ONE.
-/
import Derived.Test.YtboahhipobcababAtIZ
import Derived.Test.YtboahhipobcababG17
import Derived.Test.YtboahhipobcababG13
import Derived.OrdersHeld
import Derived.Test.YtboahhipobcababNew
import Derived.Test.YtboahhipobcababToPlan

/-
  CONTRACTS: the next tick with green, of such a plan.
-/
namespace Go.Proofs.Ytboahhipobcabab
open Go Go.ChangeShapes Go.WideShapes Go.ChangeAt Go.RowKit
set_option maxRecDepth 100000


theorem hasGreenZ_any (cp : Nat) (zs : Array Value) (G : Nat) (xs : Slots) (b o : Int) (hW : SlW xs) (T : TypeId) (hok : okP xs b o = true) (m : Nat) (hm : m < 8) (t : Int) (ht : 0 ≤ t ∧ t ≤ 2000000000) (w : World) (A0 : At w G (slY xs zs) T) :
    Calls Try.prog 132 #[.agg (plC (.slice (some ⟨G, 0, none⟩) xs.length cp) b o), .int .i64 (m : Int), .int .i64 t] w fun e w' => e = .returned (.bool (gre b xs m ((t - o) % cyc xs b).toNat)) ∧ Below w.heap.size w w' := by
  have P0 := At.new w (plC (.slice (some ⟨G, 0, none⟩) xs.length cp) b o) 41
  have A1 := A0.alloc (.cells (plC (.slice (some ⟨G, 0, none⟩) xs.length cp) b o) 41)
  have B0 := Lib.hid (b0 w (.cells (plC (.slice (some ⟨G, 0, none⟩) xs.length cp) b o) 41))
  have KG := greenAtZ_any cp zs G xs b o hW T hok t ht _ A1
  have h8 : (atS b xs ((t - o) % cyc xs b)).1.length = 8 := atS_len hW
  have hcy : 0 < cyc xs b := by obtain ⟨-, -, -, -, ho⟩ := okP_parts hok; omega
  have hnn := Int.emod_nonneg (t - o) (show cyc xs b ≠ 0 by omega)
  have e : gre b xs m ((t - o) % cyc xs b).toNat = bn (atS b xs ((t - o) % cyc xs b)).1 m := by
    unfold gre; rw [Int.toNat_of_nonneg hnn]
  rw [e]
  clear e hnn hcy hok ht
  generalize (atS b xs ((t - o) % cyc xs b)).1 = rw8 at KG h8 ⊢
  generalize (atS b xs ((t - o) % cyc xs b)).2 = lf at KG
  have SZV : (bl rw8).size = 8 := by rw [bl_size, h8]
  go_enter Try.func132, Try.ntmps132
  go_wp2_with (((with_reducible refine is_load 41 _ rfl ?_); refine wpList_load_at rfl 41 _ rfl _ rfl ((plC (.slice (some ⟨G, 0, none⟩) xs.length cp) b o)) _ (by with_reducible assumption) 3 (plC_size _ _ _) _ Try.underlying41 rfl (by kernel_rfl) ?_))
  refine KG.mono ?_
  rintro e w1 ⟨rfl, hb1⟩
  have B1 := Lib.hid (bthen B0.out hb1)
  have N0 := At.new w1 #[.bool false, .bool false, .bool false, .bool false, .bool false, .bool false, .bool false, .bool false] 69
  have N1 := N0.setRow (bl rw8)
  have ct := N1.cell (bl_get (bs := rw8) (k := m) (by omega))
  have B2 := Lib.hid (bset (bnew B1.out (.cells #[.bool false, .bool false, .bool false, .bool false, .bool false, .bool false, .bool false, .bool false] 69)) (g := w1.heap.size) B1.out.size (bl rw8))
  clear P0 A0 A1 B0 B1 KG hb1
  go_wp2_with (((with_reducible refine is_store 69 _ _ rfl ?_); refine wpList_store_at rfl 69 _ _ rfl _ rfl (bl rw8) rfl (#[.bool false, .bool false, .bool false, .bool false, .bool false, .bool false, .bool false, .bool false]) _ (by with_reducible assumption) 8 (SZV) (rfl) (by kernel_rfl) (bl_one _) ?_))
  go_ret
  exact ⟨rfl, B2.out⟩


theorem nextGreenZ_any (cp : Nat) (zs : Array Value) (G : Nat) (xs : Slots) (b o : Int) (hW : SlW xs) (T : TypeId) (hok : okP xs b o = true) (m : Nat) (hm : m < 8) (t : Int) (ht : 0 ≤ t ∧ t ≤ 1000000000) (d : Nat) (hd : d ≤ 240) (hf : ∀ j, j < d → grp b xs m (cyc xs b) (t - o) j = false) (hy : grp b xs m (cyc xs b) (t - o) d = true) (w : World) (A0 : At w G (slY xs zs) T) :
    Calls Try.prog 108 #[.agg (plC (.slice (some ⟨G, 0, none⟩) xs.length cp) b o), .int .i64 (m : Int), .int .i64 t] w fun e w' => e = .returned (.int .i64 (t + (d : Int))) ∧ Below w.heap.size w w' := by
  have P0 := At.new w (plC (.slice (some ⟨G, 0, none⟩) xs.length cp) b o) 41
  have A1 := A0.alloc (.cells (plC (.slice (some ⟨G, 0, none⟩) xs.length cp) b o) 41)
  have B0 := Lib.hid (b0 w (.cells (plC (.slice (some ⟨G, 0, none⟩) xs.length cp) b o) 41))
  have KH := fun (j : Nat) (hj : j ≤ d) wr hA => hasGreenZ_any cp zs G xs b o hW T hok m hm (t + (j : Int)) ⟨by omega, by omega⟩ wr hA
  have hq := fun j : Nat => show gre b xs m ((t + (j : Int) - o) % cyc xs b).toNat = grp b xs m (cyc xs b) (t - o) j from by unfold grp; rw [show t + (j : Int) - o = t - o + j from by omega]
  have HF := Lib.hid (And.intro hf hy)
  clear hf hy A0 hok
  generalize xs.length = n at P0 A1 B0 KH ⊢
  go_enter Try.func108, Try.ntmps108
  go_wp2
  go_loopw [2] (fun c wr => ∃ j : Nat, j ≤ d ∧ c = .int .i64 (t + (j : Int)) ∧ At wr w.heap.size (plC (.slice (some ⟨G, 0, none⟩) n cp) b o) 41 ∧ At wr G (slY xs zs) T ∧ Hid (Below w.heap.size w wr)) (fun c _ => (t + d + 1 - intOf c).toNat)
  case atStart => exact ⟨0, by omega, by simp, P0, A1, B0⟩
  case round =>
    clear P0 A1 B0
    obtain ⟨j, hj, rfl, P1, A1, B1⟩ := hrel
    have KH1 := KH j hj wr A1
    rw [hq j] at KH1
    by_cases hlt : j < d
    · rw [HF.out.1 j hlt] at KH1
      have s2 : IntKind.i64.wrap (t + (j : Int) + 1) = t + (j : Int) + 1 := IntWalk.i64_in _ (by omega)
      go_wp2_with (((with_reducible refine is_load 41 _ rfl ?_); refine wpList_load_at rfl 41 _ rfl _ rfl ((plC (.slice (some ⟨G, 0, none⟩) n cp) b o)) _ (by with_reducible assumption) 3 (plC_size _ _ _) _ Try.underlying41 rfl (by kernel_rfl) ?_))
      refine KH1.mono ?_
      rintro e w1 ⟨rfl, hb1⟩
      have P2 := P1.step hb1
      have A2 := A1.step hb1
      have B2 := Lib.hid (bthen B1.out hb1)
      clear P1 A1 B1 hb1 KH1
      go_wp2_with fail
      exact ⟨⟨j + 1, by omega, by rw [show t + ((j + 1 : Nat) : Int) = t + (j : Int) + 1 from by omega], P2, A2, B2⟩, by simp [intOf]; omega⟩
    · obtain rfl : j = d := by omega
      rw [HF.out.2] at KH1
      go_wp2_with (((with_reducible refine is_load 41 _ rfl ?_); refine wpList_load_at rfl 41 _ rfl _ rfl ((plC (.slice (some ⟨G, 0, none⟩) n cp) b o)) _ (by with_reducible assumption) 3 (plC_size _ _ _) _ Try.underlying41 rfl (by kernel_rfl) ?_))
      refine KH1.mono ?_
      rintro e w1 ⟨rfl, hb1⟩
      go_wp2_with fail
      go_ret
      exact ⟨rfl, bthen B1.out hb1⟩

end Go.Proofs.Ytboahhipobcabab

/-
  CONTRACTS: firstGreen.
-/
namespace Go.Proofs.Ytboahhipobcabab
open Go Go.ChangeShapes Go.WideShapes Go.ChangeAt Go.RowKit
set_option maxRecDepth 100000

/-- the first tick of the cycle with green -/
def bg (xs : Slots) (b : Int) (m : Nat) : Nat := fnd (grp b xs m (cyc xs b) 0) (cyc xs b).toNat

theorem bg_lt {xs : Slots} {b : Int} {m : Nat} (hN : 0 < cyc xs b) (hg : 0 < cnt (gre b xs m) (cyc xs b).toNat) : grp b xs m (cyc xs b) 0 (bg xs b m) = true ∧ bg xs b m < (cyc xs b).toNat := by
  obtain ⟨j, hj, hf⟩ := grp_some (c := 0) hN hg
  exact fnd_yes hj hf

theorem firstGreenZ_any (cp : Nat) (zs : Array Value) (G : Nat) (xs : Slots) (b o : Int) (hW : SlW xs) (T : TypeId) (hok : okP xs b o = true) (m : Nat) (hm : m < 8) (hg : 0 < cnt (gre b xs m) (cyc xs b).toNat) (w : World) (A0 : At w G (slY xs zs) T) :
    Calls Try.prog 61 #[.agg (plC (.slice (some ⟨G, 0, none⟩) xs.length cp) b o), .int .i64 (m : Int)] w fun e w' => e = .returned (.int .i64 (o + (bg xs b m : Int))) ∧ Below w.heap.size w w' := by
  obtain ⟨hl, hb, ht, hc, ho⟩ := okP_parts hok
  obtain ⟨h1, h2⟩ := bg_lt (by omega) hg
  have KN := fun w' hA => nextGreenZ_any cp zs G xs b o hW T hok m hm o ⟨by omega, by omega⟩ (bg xs b m) (by omega) (fun j hj => by rw [Int.sub_self]; exact fnd_no hj) (by rw [Int.sub_self]; exact h1) w' hA
  have P0 := At.new w (plC (.slice (some ⟨G, 0, none⟩) xs.length cp) b o) 41
  have A1 := A0.alloc (.cells (plC (.slice (some ⟨G, 0, none⟩) xs.length cp) b o) 41)
  have B0 := Lib.hid (b0 w (.cells (plC (.slice (some ⟨G, 0, none⟩) xs.length cp) b o) 41))
  go_enter Try.func61, Try.ntmps61
  go_wp2_with (first | ((with_reducible refine is_load 41 _ rfl ?_); refine wpList_load_at rfl 41 _ rfl _ rfl (plC (.slice (some ⟨G, 0, none⟩) xs.length cp) b o) _ (by with_reducible assumption) 3 (plC_size _ _ _) _ Try.underlying41 rfl (by kernel_rfl) ?_) | ((with_reducible refine is_load 2 _ rfl ?_); refine wpList_load_cell rfl 2 _ rfl _ 2 rfl (plC (.slice (some ⟨G, 0, none⟩) xs.length cp) b o) _ (by with_reducible assumption) _ Try.underlying2 rfl (.int .i64 o) (plC_2 _ _ _) ?_))
  refine (KN _ A1).mono ?_
  rintro e w1 ⟨rfl, hb1⟩
  go_wp2_with fail
  go_ret
  exact ⟨rfl, bthen B0.out hb1⟩

end Go.Proofs.Ytboahhipobcabab

/-
  A STATEMENT WHOSE ORDER IS OPEN, by hand: reads are taken first, calls come in their chain: the pieces.
  No Go text in it. Conditions: those of each theorem.
-/
namespace Go.Proofs.Ytboahhipobcabab
open Go Go.RowKit
section
variable {P : Program} {ops : Array Oper} {Q : Exit → Act → World → Prop} {S : World → Prop} {o : Oper} {a : Act} {w : World} {v : Value} {i : Nat} {K : Act → World → Prop}
theorem yif (hg : o.guard = none) (h : ∀ w, S w → (execOp a.eval o).run P w = .ok (.value v) w) : YieldsIf P ops S o v a := by
  refine .inl ⟨wanted_none hg _, fun w hw => ?_⟩
  rw [h w hw]
theorem x_load (ty : TypeId) (x : Operand) (ho : o.op = .load ty x) (ad : Addr) (hx : a.eval x = .pointer (some ad)) (hrun : (Instr.loadAt ty (.pointer (some ad))).run P w = .ok v w) : (execOp a.eval o).run P w = .ok (.value v) w := by
  unfold execOp
  simp only [ho, hx, Sem.run_bind, hrun, Sem.run_pure, Result.andThen_ok]
theorem x_move (x : Operand) (ho : o.op = .move x) : (execOp a.eval o).run P w = .ok (.value (a.eval x)) w := by
  unfold execOp
  simp only [ho, Sem.run_pure]
theorem x_assign (x : Operand) (ho : o.op = .assign x) : (execOp a.eval o).run P w = .ok (.value (a.eval x)) w := by
  unfold execOp
  simp only [ho, Sem.run_pure]
theorem op_call {f : FuncId} {args : Array Value} (ho : ops[i]? = some o) (hg : o.guard = none) (hx : (execOp a.eval o).run P w = .ok (.enter f args) w) (hc : Calls P f args w fun e w' => ∃ v, e = .returned v ∧ K (a.put o.dst v) w') : wpOp P ops Q i K a w := by
  unfold wpOp
  simp only [ho, wanted_none hg, if_true]
  refine .inl ?_
  unfold Oper.wp
  rw [hx]
  exact hc.mono fun e w' ⟨v, h1, h2⟩ => by subst h1; exact h2
theorem op_value {w' : World} (ho : ops[i]? = some o) (hg : o.guard = none) (hx : (execOp a.eval o).run P w = .ok (.value v) w') (hK : K (a.put o.dst v) w') : wpOp P ops Q i K a w := by
  unfold wpOp
  simp only [ho, wanted_none hg, if_true]
  refine .inl ?_
  unfold Oper.wp
  rw [hx]
  exact hK
theorem op_skip {w' : World} (ho : ops[i]? = some o) (hg : o.guard = none) (hx : (execOp a.eval o).run P w = .ok .skip w') (hK : K (a.put o.dst undef) w') : wpOp P ops Q i K a w := by
  unfold wpOp
  simp only [ho, wanted_none hg, if_true]
  refine .inl ?_
  unfold Oper.wp
  rw [hx]
  exact hK
theorem one_of {i j : Nat} (h : i ∈ [j]) : i = j := by simpa using h
end
end Go.Proofs.Ytboahhipobcabab

/-
  CONTRACTS: operations of a statement whose order is open, by hand.
-/
namespace Go.Proofs.Ytboahhipobcabab
open Go Go.ChangeShapes Go.WideShapes Go.ChangeAt Go.RowKit
set_option maxRecDepth 100000

theorem x_index {P : Program} {o : Oper} {a : Act} {w : World} {v : Value} (ty : TypeId) (x i : Operand) (ho : o.op = .indexAddr ty x i) (vx vi : Value) (hx : a.eval x = vx) (hi : a.eval i = vi) (hrun : (Instr.indexAt ty vx vi).run P w = .ok v w) : (execOp a.eval o).run P w = .ok (.value v) w := by
  unfold execOp
  simp only [ho, hx, hi, Sem.run_bind, hrun, Sem.run_pure, Result.andThen_ok]
theorem x_moved {P : Program} {o : Oper} {a : Act} {w : World} {v : Value} (x : Operand) (ho : o.op = .move x) (hx : a.eval x = v) : (execOp a.eval o).run P w = .ok (.value v) w := by
  subst hx
  exact x_move x ho
theorem x_assigned {P : Program} {o : Oper} {a : Act} {w : World} {v : Value} (x : Operand) (ho : o.op = .assign x) (hx : a.eval x = v) : (execOp a.eval o).run P w = .ok (.value v) w := by
  subst hx
  exact x_assign x ho
theorem x_bslice {P : Program} {o : Oper} {a : Act} {w w' : World} {v : Value} (t : TypeId) (len : Nat) (parts : Array (Nat × Operand)) (ho : o.op = .buildSlice t len parts) (ps : Array (Nat × Value)) (hps : (parts.map fun (i, x) => (i, a.eval x)) = ps) (hrun : (Instr.buildSlice t len ps).run P w = .ok v w') : (execOp a.eval o).run P w = .ok (.value v) w' := by
  unfold execOp
  simp only [ho, hps, Sem.run_bind, hrun, Sem.run_pure, Result.andThen_ok]
theorem op_wp {P : Program} {ops : Array Oper} {Q : Exit → Act → World → Prop} {o : Oper} {i : Nat} {K : Act → World → Prop} {a : Act} {w : World} (ho : ops[i]? = some o) (hg : o.guard = none) (h : ∀ Q', o.wp P a w K Q') : wpOp P ops Q i K a w := by
  unfold wpOp
  simp only [ho, wanted_none hg, if_true]
  exact .inl (h _)
theorem x_cell {P : Program} {o : Oper} {a : Act} {w : World} {v : Value} (ty : TypeId) (x : Operand) (ho : o.op = .load ty x) (ad : Addr) (hx : a.eval x = .pointer (some ad)) (d : TypeDesc) (hu : P.underlying ty = some d) (hd : (match d with | .struct _ | .array _ _ => true | _ => false) = false) (hc : w.cell? ad = some v) : (execOp a.eval o).run P w = .ok (.value v) w :=
  x_load ty x ho ad hx (run_load_one w ty d hu hd ad v hc)
theorem is_bslS {P : Program} {w : World} {ops : Array Oper} {rest : List Oper} {o : Oper} {a : Act} {Q : Exit → Act → World → Prop} (t : TypeId) (len : Nat) (parts : Array (Nat × Operand)) (_ho : o.op = .buildSlice t len parts) (h : wpList P ops Q (o :: rest) a w) : wpList P ops Q (o :: rest) a w := h
theorem wpList_bslS {P : Program} {w w' : World} {ops : Array Oper} {rest : List Oper} {o : Oper} {a : Act} {Q : Exit → Act → World → Prop} (hg : o.guard = none) (t : TypeId) (len : Nat) (parts : Array (Nat × Operand)) (ho : o.op = .buildSlice t len parts)
    (ps : Array (Nat × Value)) (hps : (parts.map fun (i, x) => (i, a.eval x)) = ps) (v : Value) (hrun : (Instr.buildSlice t len ps).run P w = .ok v w') (h : wpList P ops Q rest (a.put o.dst v) w') : wpList P ops Q (o :: rest) a w := by
  refine wpList_plain hg fun K hK' => ?_
  unfold Oper.wp execOp
  simp only [ho, hps, Sem.run_bind, hrun, Sem.run_pure, Result.andThen_ok]
  exact hK' _ _ h

end Go.Proofs.Ytboahhipobcabab
