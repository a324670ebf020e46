/-
  SEVERAL TEXTS IN ONE.
-/
import Derived.Test.YtapnkkbkhifmeaaStepRds
import Derived.Test.YtapnkkbkhifmeaaG14
import Derived.Test.YtapnkkbkhifmeaaG4
import Derived.Test.YtapnkkbkhifmeaaG15
import Derived.Test.YtapnkkbkhifmeaaLawS
import Derived.Test.YtapnkkbkhifmeaaG5
import Derived.OwnWalk

/-
  CONTRACTS: StepRoads, at all arguments.
-/
namespace Go.Proofs.Ytapnkkbkhifmeaa
open Go Go.RowKit
set_option maxRecDepth 100000

def vStepRoads (cs : List Nat) (p b l o m : Nat) (n : Int) : List Nat × Nat × Nat × Nat × Nat × Nat × Int :=
  if stepsC (okB cs p b l) o m n = 0 then (itL p b cs (fun _ => o) (fun _ => m) n.toNat, p, b, l, itS p b cs (fun _ => o) (fun _ => m) 0 n.toNat, itS p b cs (fun _ => o) (fun _ => m) 16 n.toNat, 0) else (zeros 16, 0, 0, 0, 0, 0, stepsC (okB cs p b l) o m n)
theorem stepsC_zero {ok : Bool} {o m : Nat} {n : Int} (h : stepsC ok o m n = 0) : givenC ok o m = 0 ∧ 0 ≤ n ∧ n ≤ 400 := by
  unfold stepsC at h
  by_cases g : givenC ok o m = 0
  · rw [if_pos g] at h
    by_cases c : 0 ≤ n ∧ n ≤ 400
    · exact ⟨g, c⟩
    · rw [if_neg c] at h; cases h
  · rw [if_neg g] at h; exact absurd h g
theorem vStepRoads_good {cs : List Nat} (hl : cs.length = 16) (p b l o m : Nat) (n : Int) : goodL (vStepRoads cs p b l o m n).1 (vStepRoads cs p b l o m n).2.1 (vStepRoads cs p b l o m n).2.2.1 (vStepRoads cs p b l o m n).2.2.2.1 ∧ ((vStepRoads cs p b l o m n).2.2.2.2.1 < 4294967296 ∧ nanB (vStepRoads cs p b l o m n).2.2.2.2.1 = false) ∧ ((vStepRoads cs p b l o m n).2.2.2.2.2.1 < 4294967296 ∧ nanB (vStepRoads cs p b l o m n).2.2.2.2.2.1 = false) := by
  unfold vStepRoads
  by_cases h : stepsC (okB cs p b l) o m n = 0
  · rw [if_pos h]
    obtain ⟨hg, -⟩ := stepsC_zero h
    have hok := (given_zero hg).1
    have ok := OkR.of hl hok
    obtain ⟨g1, g2, g3, g4, g5⟩ := okB_good hl hok
    have ok2 := itL_ok ok (fun _ => o) (fun _ => m) n.toNat
    exact ⟨⟨ok2.len, fun y hy => nan_le (ok2.cars y hy) (by omega), g3, g4, g5⟩, nan_le (itS_facts ok (fun _ => o) (fun _ => m) 0 n.toNat) (by omega), nan_le (itS_facts ok (fun _ => o) (fun _ => m) 16 n.toNat) (by omega)⟩
  · rw [if_neg h]
    exact ⟨zero_good, ⟨show 0 < 4294967296 by decide, show nanB 0 = false by decide⟩, ⟨show 0 < 4294967296 by decide, show nanB 0 = false by decide⟩⟩

theorem StepRoads_any (cs : List Nat) (p b l : Nat) (hl : cs.length = 16) (hc : ∀ x ∈ cs, x < 4294967296) (hp : p < 4294967296) (hb : b < 4294967296) (hla : l < 4294967296) (o : Nat) (ho : o < 4294967296) (m : Nat) (hm : m < 4294967296) (n : Int) (w : World) :
    Calls Try.prog 15 #[.agg (rd cs p b l), .float .f32 o, .float .f32 m, .int .i64 n] w fun e w' => e = .returned (.tuple #[.agg (rd (vStepRoads cs p b l o m n).1 (vStepRoads cs p b l o m n).2.1 (vStepRoads cs p b l o m n).2.2.1 (vStepRoads cs p b l o m n).2.2.2.1), .float .f32 (vStepRoads cs p b l o m n).2.2.2.2.1, .float .f32 (vStepRoads cs p b l o m n).2.2.2.2.2.1, .int .i64 (vStepRoads cs p b l o m n).2.2.2.2.2.2]) ∧ Below w.heap.size w w' := by
  by_cases h : stepsC (okB cs p b l) o m n = 0
  · have e : (vStepRoads cs p b l o m n) = (itL p b cs (fun _ => o) (fun _ => m) n.toNat, p, b, l, itS p b cs (fun _ => o) (fun _ => m) 0 n.toNat, itS p b cs (fun _ => o) (fun _ => m) 16 n.toNat, 0) := by unfold vStepRoads; rw [if_pos h]
    rw [e]
    obtain ⟨hg, h0, h4⟩ := stepsC_zero h
    obtain ⟨k, rfl⟩ := Int.eq_ofNat_of_zero_le h0
    rw [Int.toNat_natCast]
    exact StepRoads_yes cs p b l hl hc hp hb hla o m ho hm k (by omega) hg w
  · have e : (vStepRoads cs p b l o m n) = (zeros 16, 0, 0, 0, 0, 0, stepsC (okB cs p b l) o m n) := by unfold vStepRoads; rw [if_neg h]
    rw [e]
    exact StepRoads_no cs p b l hl hc hp hb hla o m ho hm n h w

end Go.Proofs.Ytapnkkbkhifmeaa

/-
  CONTRACTS: StepRoad, at all arguments.
-/
namespace Go.Proofs.Ytapnkkbkhifmeaa
open Go Go.RowKit
set_option maxRecDepth 100000

def vStepRoad (cs : List Nat) (p b l o m : Nat) : List Nat × Nat × Nat × Nat × Nat × Nat × Int :=
  if givenC (okB cs p b l) o m = 0 then (nextL p b cs o m, p, b, l, nth (fluxL p b cs o m) 0, nth (fluxL p b cs o m) 16, 0) else (zeros 16, 0, 0, 0, 0, 0, givenC (okB cs p b l) o m)

theorem zero_addB {x : Nat} (hx : x < 2139095040) : addB 0 x = x := by
  rw [(add_eq (show 0 < 2139095040 by omega) hx).2, show rv 23 0 = 0 from by decide, Nat.zero_add, RU_rv0]
  omega

theorem vStepRoad_one (cs : List Nat) (p b l o m : Nat) (hl : cs.length = 16) : vStepRoads cs p b l o m 1 = (vStepRoad cs p b l o m) := by
  unfold vStepRoads vStepRoad
  have e : stepsC (okB cs p b l) o m 1 = givenC (okB cs p b l) o m := by
    unfold stepsC
    by_cases g : givenC (okB cs p b l) o m = 0
    · rw [if_pos g, if_pos (by omega), g]
    · rw [if_neg g]
  rw [e]
  by_cases g : givenC (okB cs p b l) o m = 0
  · rw [if_pos g, if_pos g]
    have ok := OkR.of hl (given_zero g).1
    have h1 := nth_le (fluxL_le ok o m) 0
    have h2 := nth_le (fluxL_le ok o m) 16
    show (nextL p b cs o m, p, b, l, addB 0 (nth (fluxL p b cs o m) 0), addB 0 (nth (fluxL p b cs o m) 16), (0 : Int)) = _
    rw [zero_addB (by omega), zero_addB (by omega)]
  · rw [if_neg g, if_neg g]

theorem vStepRoad_good {cs : List Nat} (hl : cs.length = 16) (p b l o m : Nat) : goodL (vStepRoad cs p b l o m).1 (vStepRoad cs p b l o m).2.1 (vStepRoad cs p b l o m).2.2.1 (vStepRoad cs p b l o m).2.2.2.1 ∧ ((vStepRoad cs p b l o m).2.2.2.2.1 < 4294967296 ∧ nanB (vStepRoad cs p b l o m).2.2.2.2.1 = false) ∧ ((vStepRoad cs p b l o m).2.2.2.2.2.1 < 4294967296 ∧ nanB (vStepRoad cs p b l o m).2.2.2.2.2.1 = false) := by
  rw [← vStepRoad_one cs p b l o m hl]
  exact vStepRoads_good hl p b l o m 1

theorem sStepRoad_any (cs : List Nat) (p b l : Nat) (hl : cs.length = 16) (hc : ∀ x ∈ cs, x < 4294967296) (hp : p < 4294967296) (hb : b < 4294967296) (hla : l < 4294967296) (o : Nat) (ho : o < 4294967296) (m : Nat) (hm : m < 4294967296) (w : World) :
    Calls Try.prog 8 #[.agg (rd cs p b l), .float .f32 o, .float .f32 m] w fun e w' => e = .returned (.tuple #[.agg (rd (vStepRoad cs p b l o m).1 (vStepRoad cs p b l o m).2.1 (vStepRoad cs p b l o m).2.2.1 (vStepRoad cs p b l o m).2.2.2.1), .float .f32 (vStepRoad cs p b l o m).2.2.2.2.1, .float .f32 (vStepRoad cs p b l o m).2.2.2.2.2.1, .int .i64 (vStepRoad cs p b l o m).2.2.2.2.2.2]) ∧ Below w.heap.size w w' := by
  by_cases h : givenC (okB cs p b l) o m = 0
  · have e : (vStepRoad cs p b l o m) = (nextL p b cs o m, p, b, l, nth (fluxL p b cs o m) 0, nth (fluxL p b cs o m) 16, 0) := by unfold vStepRoad; rw [if_pos h]
    rw [e]
    exact sStepRoad_yes cs p b l hl hc hp hb hla o m ho hm h w
  · have e : (vStepRoad cs p b l o m) = (zeros 16, 0, 0, 0, 0, 0, givenC (okB cs p b l) o m) := by unfold vStepRoad; rw [if_neg h]
    rw [e]
    exact sStepRoad_no cs p b l hl hc hp hb hla o m ho hm h w

theorem StepRoad_any (cs : List Nat) (p b l : Nat) (hl : cs.length = 16) (hc : ∀ x ∈ cs, x < 4294967296) (hp : p < 4294967296) (hb : b < 4294967296) (hla : l < 4294967296) (o : Nat) (ho : o < 4294967296) (m : Nat) (hm : m < 4294967296) (w : World) :
    Calls Try.prog 7 #[.agg (rd cs p b l), .float .f32 o, .float .f32 m] w fun e w' => e = .returned (.tuple #[.agg (rd (vStepRoad cs p b l o m).1 (vStepRoad cs p b l o m).2.1 (vStepRoad cs p b l o m).2.2.1 (vStepRoad cs p b l o m).2.2.2.1), .float .f32 (vStepRoad cs p b l o m).2.2.2.2.1, .float .f32 (vStepRoad cs p b l o m).2.2.2.2.2.1, .int .i64 (vStepRoad cs p b l o m).2.2.2.2.2.2]) ∧ Below w.heap.size w w' := by
  have R0 : At ((w.alloc (.cells (rd cs p b l) 28)).alloc (.cells (rd (zeros 16) 0 0 0) 28)) w.heap.size (rd cs p b l) 28 := (At.new w _ _).alloc _
  have Y0 : At ((w.alloc (.cells (rd cs p b l) 28)).alloc (.cells (rd (zeros 16) 0 0 0) 28)) (w.heap.size + 1) (rd (zeros 16) 0 0 0) 28 := At.last1 w _ _ _
  have B0 := Lib.hid (bnew (b0 w (.cells (rd cs p b l) 28)) (.cells (rd (zeros 16) 0 0 0) 28))
  have KR := fun w => StepRoads_any cs p b l hl hc hp hb hla o ho m hm 1 w
  rw [vStepRoad_one cs p b l o m hl] at KR
  have GD := vStepRoad_good hl p b l o m
  have SZ : (rd (vStepRoad cs p b l o m).1 (vStepRoad cs p b l o m).2.1 (vStepRoad cs p b l o m).2.2.1 (vStepRoad cs p b l o m).2.2.2.1).size = 19 := rd_size GD.1.1 _ _ _
  clear GD
  generalize (vStepRoad cs p b l o m).2.2.2.2.1 = v4 at KR ⊢
  generalize (vStepRoad cs p b l o m).2.2.2.2.2.1 = v5 at KR ⊢
  generalize (vStepRoad cs p b l o m).2.2.2.2.2.2 = v6 at KR ⊢
  go_enter Try.func7, Try.ntmps7
  go_wp2_with (((with_reducible refine is_load 28 _ rfl ?_); refine wpList_load_at rfl 28 _ rfl _ rfl (rd cs p b l) _ (by assumption) 19 (rd_size hl p b l) _ Try.underlying28 rfl (by kernel_rfl) ?_))
  refine (KR _).mono ?_
  rintro e' w1 ⟨rfl, hb1⟩
  have Y1 := Y0.step hb1
  have B1 := Lib.hid (bthen B0.out hb1)
  clear KR R0 Y0 B0 hb1
  have Y9 := Y1.setRow (rd (vStepRoad cs p b l o m).1 (vStepRoad cs p b l o m).2.1 (vStepRoad cs p b l o m).2.2.1 (vStepRoad cs p b l o m).2.2.2.1)
  have B9 := Lib.hid (bset B1.out (g := w.heap.size + 1) (by omega) (rd (vStepRoad cs p b l o m).1 (vStepRoad cs p b l o m).2.1 (vStepRoad cs p b l o m).2.2.1 (vStepRoad cs p b l o m).2.2.2.1))
  go_wp2_with (((with_reducible refine is_store 28 (.tmp 6) (.tmp 14) rfl ?_); refine wpList_store_at rfl 28 (.tmp 6) (.tmp 14) rfl _ rfl (rd (vStepRoad cs p b l o m).1 (vStepRoad cs p b l o m).2.1 (vStepRoad cs p b l o m).2.2.1 (vStepRoad cs p b l o m).2.2.2.1) rfl (rd (zeros 16) 0 0 0) _ (by assumption) 19 (SZ) (rd_size (zeros_len 16) _ _ _) (by kernel_rfl) (fl_one _) ?_))
  exact bodyPost_ret (v := .tuple #[.agg (rd (vStepRoad cs p b l o m).1 (vStepRoad cs p b l o m).2.1 (vStepRoad cs p b l o m).2.2.1 (vStepRoad cs p b l o m).2.2.2.1), .float .f32 v4, .float .f32 v5, .int .i64 v6]) (results_at3 (p := 6) (ty := 28) rfl _ _ _ (rd (vStepRoad cs p b l o m).1 (vStepRoad cs p b l o m).2.1 (vStepRoad cs p b l o m).2.2.1 (vStepRoad cs p b l o m).2.2.2.1) _ _ _ _ rfl rfl rfl rfl Y9 _ Try.underlying28 rfl 19 SZ (by kernel_rfl)) rfl ⟨rfl, B9.out⟩
end Go.Proofs.Ytapnkkbkhifmeaa

/-
  CONTRACTS: SumOfFour.
-/
namespace Go.Proofs.Ytapnkkbkhifmeaa
open Go Go.RowKit
set_option maxRecDepth 100000

end Go.Proofs.Ytapnkkbkhifmeaa

/-
  OPERATIONS IN A WALK WHOSE ORDER IS OPEN, by hand: what each yields, its operands by the kernel.
  No Go text in it. Conditions: those of each theorem.
-/
namespace Go.Proofs.Ytapnkkbkhifmeaa
open Go Go.RowKit
section
variable {P : Program} {o : Oper} {a : Act} {w w' : World} {v : Value}
theorem hx_move (x : Operand) (ho : o.op = .move x) (hx : a.eval x = v) : (execOp a.eval o).run P w = .ok (.value v) w := by
  unfold execOp
  simp only [ho, hx, Sem.run_pure]
theorem hx_index (ty : TypeId) (x y : Operand) (ho : o.op = .indexAddr ty x y) (v1 v2 : Value) (h1 : a.eval x = v1) (h2 : a.eval y = v2) (hrun : (Instr.indexAt ty v1 v2).run P w = .ok v w) : (execOp a.eval o).run P w = .ok (.value v) w := by
  unfold execOp
  simp only [ho, h1, h2, Sem.run_bind, hrun, Sem.run_pure, Result.andThen_ok]
theorem hx_sub (ty : TypeId) (x y : Operand) {T : TypeId} (ho : o.op = .binOp .sub ty x y T) (v1 v2 : Value) (h1 : a.eval x = v1) (h2 : a.eval y = v2) (hrun : (binOp .sub ty v1 v2).run P w = .ok v w') : (execOp a.eval o).run P w = .ok (.value v) w' := by
  have hg : eqGuard .sub ty x y v1 v2 = pure () := rfl
  unfold execOp
  simp only [ho, h1, h2, hg, Sem.run_bind, hrun, Sem.run_pure, Result.andThen_ok]
theorem hx_store (ty : TypeId) (x y : Operand) (ho : o.op = .store ty x y) (v1 v2 : Value) (h1 : a.eval x = v1) (h2 : a.eval y = v2) (hrun : (Instr.storeAt ty v1 v2).run P w = .ok () w') : (execOp a.eval o).run P w = .ok .skip w' := by
  unfold execOp
  simp only [ho, h1, h2, Sem.run_bind, hrun, Sem.run_pure, Result.andThen_ok]
end
theorem run_sub_i64 {P : Program} (W : World) (t : TypeId) (a b : Int) : (binOp .sub t (.int .i64 a) (.int .i64 b)).run P W = .ok (.int .i64 (IntKind.i64.wrap (a - b))) W := by
  simp [binOp, Op.intArith]
end Go.Proofs.Ytapnkkbkhifmeaa

/-
  CONTRACTS: a law's slice of numbers copied; two copies compared.
-/
namespace Go.Proofs.Ytapnkkbkhifmeaa
open Go Go.RowKit
set_option maxRecDepth 100000
variable {w : World}

end Go.Proofs.Ytapnkkbkhifmeaa
