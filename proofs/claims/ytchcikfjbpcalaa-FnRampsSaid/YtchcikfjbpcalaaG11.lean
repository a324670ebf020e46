/-
  SEVERAL TEXTS IN ONE.
-/
import Derived.Test.YtchcikfjbpcalaaRamp
import Derived.Test.YtchcikfjbpcalaaRampS
import Derived.Test.YtchcikfjbpcalaaG5
import Derived.Test.YtchcikfjbpcalaaG8

/-
  CONTRACTS: RampStep, at all arguments.
-/
namespace Go.Proofs.Ytchcikfjbpcalaa
open Go Go.RowKit
set_option maxRecDepth 100000

theorem vRampStep_good {cs : List Nat} (hl : cs.length = 16) (p b l : Nat) (k : Int) (o m j : Nat) : goodL (vRampStep cs p b l k o m j).1 (vRampStep cs p b l k o m j).2.1 (vRampStep cs p b l k o m j).2.2.1 (vRampStep cs p b l k o m j).2.2.2.1 ∧ ((vRampStep cs p b l k o m j).2.2.2.2.1 < 4294967296 ∧ nanB (vRampStep cs p b l k o m j).2.2.2.2.1 = false) ∧ ((vRampStep cs p b l k o m j).2.2.2.2.2.1 < 4294967296 ∧ nanB (vRampStep cs p b l k o m j).2.2.2.2.2.1 = false) ∧ ((vRampStep cs p b l k o m j).2.2.2.2.2.2.1 < 4294967296 ∧ nanB (vRampStep cs p b l k o m j).2.2.2.2.2.2.1 = false) := by
  unfold vRampStep
  by_cases h : rampC (okB cs p b l) k o m j = 0
  · rw [if_pos h]
    obtain ⟨hok, hk, ho, hm, hj⟩ := rampC_zero h
    have ok := OkR.of hl hok
    obtain ⟨g1, g2, g3, g4, g5⟩ := okB_good hl hok
    have rf := ramp_facts ok o m hj (k := k.toNat) (by omega)
    refine ⟨⟨stepL_len _ _ _, fun y hy => nan_le (stepL_le _ _ _ y hy) (by omega), g3, g4, g5⟩, nan_le (nth_le (fluxL_le ok o m) 0) (by omega), nan_le (nth_le (fluxL_le ok o m) 16) (by omega), nan_le rf.2.2.2.1 (by omega)⟩
  · rw [if_neg h]
    exact ⟨zero_good, ⟨show 0 < 4294967296 by decide, show nanB 0 = false by decide⟩, ⟨show 0 < 4294967296 by decide, show nanB 0 = false by decide⟩, ⟨show 0 < 4294967296 by decide, show nanB 0 = false by decide⟩⟩

theorem RampStep_any (cs : List Nat) (p b l : Nat) (hl : cs.length = 16) (hc : ∀ x ∈ cs, x < 4294967296) (hp : p < 4294967296) (hb : b < 4294967296) (hla : l < 4294967296) (k : Int) (hk : -9223372036854775808 ≤ k ∧ k ≤ 9223372036854775807) (o m j : Nat) (ho : o < 4294967296) (hm : m < 4294967296) (hj : j < 4294967296) (w : World) :
    Calls Try.prog 8 #[.agg (rd cs p b l), .int .i64 k, .float .f32 o, .float .f32 m, .float .f32 j] w fun e w' => e = .returned (.tuple #[.agg (rd (vRampStep cs p b l k o m j).1 (vRampStep cs p b l k o m j).2.1 (vRampStep cs p b l k o m j).2.2.1 (vRampStep cs p b l k o m j).2.2.2.1), .float .f32 (vRampStep cs p b l k o m j).2.2.2.2.1, .float .f32 (vRampStep cs p b l k o m j).2.2.2.2.2.1, .float .f32 (vRampStep cs p b l k o m j).2.2.2.2.2.2.1, .int .i64 (vRampStep cs p b l k o m j).2.2.2.2.2.2.2]) ∧ Below w.heap.size w w' := by
  by_cases h : rampC (okB cs p b l) k o m j = 0
  · have e : (vRampStep cs p b l k o m j) = (stepL cs (rampIn p b cs o m j k.toNat) (outL (fluxL p b cs o m)), p, b, l, nth (fluxL p b cs o m) 0, nth (fluxL p b cs o m) 16, joinW p b cs o m j k.toNat, 0) := by unfold vRampStep; rw [if_pos h]
    rw [e]
    obtain ⟨-, hk2, -⟩ := rampC_zero h
    obtain ⟨n, rfl⟩ := Int.eq_ofNat_of_zero_le hk2.1
    rw [Int.toNat_natCast]
    exact RampStep_yes cs p b l hl hc hp hb hla n (by omega) o m j ho hm hj h w
  · have e : (vRampStep cs p b l k o m j) = (zeros 16, 0, 0, 0, 0, 0, 0, rampC (okB cs p b l) k o m j) := by unfold vRampStep; rw [if_neg h]
    rw [e]
    exact RampStep_no cs p b l hl hc hp hb hla k hk o m j ho hm hj h w

theorem sRampStep_any (cs : List Nat) (p b l : Nat) (hl : cs.length = 16) (hc : ∀ x ∈ cs, x < 4294967296) (hp : p < 4294967296) (hb : b < 4294967296) (hla : l < 4294967296) (k : Int) (hk : -9223372036854775808 ≤ k ∧ k ≤ 9223372036854775807) (o m j : Nat) (ho : o < 4294967296) (hm : m < 4294967296) (hj : j < 4294967296) (w : World) :
    Calls Try.prog 9 #[.agg (rd cs p b l), .int .i64 k, .float .f32 o, .float .f32 m, .float .f32 j] w fun e w' => e = .returned (.tuple #[.agg (rd (vRampStep cs p b l k o m j).1 (vRampStep cs p b l k o m j).2.1 (vRampStep cs p b l k o m j).2.2.1 (vRampStep cs p b l k o m j).2.2.2.1), .float .f32 (vRampStep cs p b l k o m j).2.2.2.2.1, .float .f32 (vRampStep cs p b l k o m j).2.2.2.2.2.1, .float .f32 (vRampStep cs p b l k o m j).2.2.2.2.2.2.1, .int .i64 (vRampStep cs p b l k o m j).2.2.2.2.2.2.2]) ∧ Below w.heap.size w w' := by
  by_cases h : rampC (okB cs p b l) k o m j = 0
  · have e : (vRampStep cs p b l k o m j) = (stepL cs (rampIn p b cs o m j k.toNat) (outL (fluxL p b cs o m)), p, b, l, nth (fluxL p b cs o m) 0, nth (fluxL p b cs o m) 16, joinW p b cs o m j k.toNat, 0) := by unfold vRampStep; rw [if_pos h]
    rw [e]
    obtain ⟨-, hk2, -⟩ := rampC_zero h
    obtain ⟨n, rfl⟩ := Int.eq_ofNat_of_zero_le hk2.1
    rw [Int.toNat_natCast]
    exact sRampStep_yes cs p b l hl hc hp hb hla n (by omega) o m j ho hm hj h w
  · have e : (vRampStep cs p b l k o m j) = (zeros 16, 0, 0, 0, 0, 0, 0, rampC (okB cs p b l) k o m j) := by unfold vRampStep; rw [if_neg h]
    rw [e]
    exact sRampStep_no cs p b l hl hc hp hb hla k hk o m j ho hm hj h w
end Go.Proofs.Ytchcikfjbpcalaa

/-
  CONTRACTS: TakesAt.
-/
namespace Go.Proofs.Ytchcikfjbpcalaa
open Go Go.RowKit

def vTakesAt (cs : List Nat) (p b l : Nat) (k : Int) : Nat × Int := if okB cs p b l then (if 0 ≤ k ∧ k ≤ 15 then (takesW p b (nth cs k.toNat), 0) else (0, 2)) else (0, 1)

theorem vTakesAt_yes {cs : List Nat} {p b l k : Nat} (h : okB cs p b l = true) (hk : k < 16) : vTakesAt cs p b l k = (takesW p b (nth cs k), 0) := by unfold vTakesAt; rw [if_pos h, if_pos (by omega), Int.toNat_natCast]

theorem vTakesAt_no {cs : List Nat} {p b l : Nat} {k : Int} (h : okB cs p b l = false) : vTakesAt cs p b l k = (0, 1) := by unfold vTakesAt; rw [h]; rfl

theorem vTakesAt_bad {cs : List Nat} {p b l : Nat} {k : Int} (h : okB cs p b l = true) (hk : ¬ (0 ≤ k ∧ k ≤ 15)) : vTakesAt cs p b l k = (0, 2) := by unfold vTakesAt; rw [if_pos h, if_neg hk]

theorem TakesAt_any (cs : List Nat) (p b l : Nat) (hl : cs.length = 16) (hc : ∀ x ∈ cs, x < 4294967296) (hp : p < 4294967296) (hb : b < 4294967296) (hla : l < 4294967296) (k : Int) (_hk : -9223372036854775808 ≤ k ∧ k ≤ 9223372036854775807) (w : World) :
    Calls Try.prog 11 #[.agg (rd cs p b l), .int .i64 k] w fun e w' => e = .returned (.tuple #[.float .f32 (vTakesAt cs p b l k).1, .int .i64 (vTakesAt cs p b l k).2]) ∧ Below w.heap.size w w' := by
  have A0 := At.new w (rd cs p b l) 28
  clear _hk
  cases h : okB cs p b l
  · rw [vTakesAt_no h]
    go_enter Try.func11, Try.ntmps11
    go_wp2_with (((with_reducible refine is_load 28 _ rfl ?_); refine wpList_load_at rfl 28 _ rfl _ rfl (rd cs p b l) _ (by assumption) 19 (rd_size hl p b l) _ Try.underlying28 rfl (by kernel_rfl) ?_))
    refine (ValidRoad_any cs p b l hl hc hp hb hla _).mono ?_
    rintro e w1 ⟨rfl, hb1⟩
    go_wp2_with fail
    go_ret2
    exact ⟨rfl, bthen (b0 _ _) hb1⟩
  · have ok := OkR.of hl h
    by_cases c : 0 ≤ k ∧ k ≤ 15
    · obtain ⟨n, rfl⟩ := Int.eq_ofNat_of_zero_le c.1
      have hn : n < 16 := by omega
      rw [vTakesAt_yes h hn]
      clear c
      go_enter Try.func11, Try.ntmps11
      go_wp2_with (((with_reducible refine is_load 28 _ rfl ?_); refine wpList_load_at rfl 28 _ rfl _ rfl (rd cs p b l) _ (by assumption) 19 (rd_size hl p b l) _ Try.underlying28 rfl (by kernel_rfl) ?_))
      refine (ValidRoad_any cs p b l hl hc hp hb hla _).mono ?_
      rintro e w1 ⟨rfl, hb1⟩
      have A1 := A0.step hb1
      go_wp2_with fail
      refine (isCell_any n _).mono ?_
      rw [decide_eq_true (by omega : 0 ≤ (n : Int) ∧ (n : Int) < 16)]
      rintro e w2 ⟨rfl, n2, rfl⟩
      have A2 := A1.drewN n2
      go_wp2_with (((with_reducible refine is_load 28 _ rfl ?_); refine wpList_load_at rfl 28 _ rfl _ rfl (rd cs p b l) _ (by assumption) 19 (rd_size hl p b l) _ Try.underlying28 rfl (by kernel_rfl) ?_))
      refine (takesAt_any n (by omega) cs p b l ok _).mono ?_
      rintro e w2 ⟨rfl, hb2⟩
      go_wp2_with fail
      go_ret2
      exact ⟨rfl, bthen (bthen (b0 _ _) hb1) (Below.trans (Below.drewN0 _ _) hb2)⟩
    · rw [vTakesAt_bad h c]
      go_enter Try.func11, Try.ntmps11
      go_wp2_with (((with_reducible refine is_load 28 _ rfl ?_); refine wpList_load_at rfl 28 _ rfl _ rfl (rd cs p b l) _ (by assumption) 19 (rd_size hl p b l) _ Try.underlying28 rfl (by kernel_rfl) ?_))
      refine (ValidRoad_any cs p b l hl hc hp hb hla _).mono ?_
      rintro e w1 ⟨rfl, hb1⟩
      go_wp2_with fail
      refine (isCell_any k _).mono ?_
      rw [decide_eq_false (by omega : ¬ (0 ≤ k ∧ k < 16))]
      rintro e w2 ⟨rfl, n2, rfl⟩
      go_wp2_with fail
      go_ret2
      exact ⟨rfl, bdrew (bthen (b0 _ _) hb1) _⟩

theorem vTakesAt_good {cs : List Nat} (hl : cs.length = 16) (p b l : Nat) (k : Int) : (vTakesAt cs p b l k).1 < 4294967296 ∧ nanB (vTakesAt cs p b l k).1 = false := by
  cases h : okB cs p b l
  · rw [vTakesAt_no h]; exact ⟨by decide, by decide⟩
  · have ok := OkR.of hl h
    by_cases c : 0 ≤ k ∧ k ≤ 15
    · obtain ⟨n, rfl⟩ := Int.eq_ofNat_of_zero_le c.1
      rw [vTakesAt_yes h (by omega)]
      exact nan_le (takesW_le ok.pace ok.back) (by omega)
    · rw [vTakesAt_bad h c]; exact ⟨by decide, by decide⟩
end Go.Proofs.Ytchcikfjbpcalaa

/-
  OPERATIONS IN A WALK WHOSE ORDER IS OPEN, by hand: what each yields, its operands by the kernel.
  No Go text in it. Conditions: those of each theorem.
-/
namespace Go.Proofs.Ytchcikfjbpcalaa
open Go Go.RowKit
section
variable {P : Program} {o : Oper} {a : Act} {w w' : World} {v : Value}
theorem hx_move (x : Operand) (ho : o.op = .move x) (hx : a.eval x = v) : (execOp a.eval o).run P w = .ok (.value v) w := by
  unfold execOp
  simp only [ho, hx, Sem.run_pure]
theorem hx_index (ty : TypeId) (x y : Operand) (ho : o.op = .indexAddr ty x y) (v1 v2 : Value) (h1 : a.eval x = v1) (h2 : a.eval y = v2) (hrun : (Instr.indexAt ty v1 v2).run P w = .ok v w) : (execOp a.eval o).run P w = .ok (.value v) w := by
  unfold execOp
  simp only [ho, h1, h2, Sem.run_bind, hrun, Sem.run_pure, Result.andThen_ok]
theorem hx_sub (ty : TypeId) (x y : Operand) {T : TypeId} (ho : o.op = .binOp .sub ty x y T) (v1 v2 : Value) (h1 : a.eval x = v1) (h2 : a.eval y = v2) (hrun : (binOp .sub ty v1 v2).run P w = .ok v w') : (execOp a.eval o).run P w = .ok (.value v) w' := by
  have hg : eqGuard .sub ty x y v1 v2 = pure () := rfl
  unfold execOp
  simp only [ho, h1, h2, hg, Sem.run_bind, hrun, Sem.run_pure, Result.andThen_ok]
theorem hx_store (ty : TypeId) (x y : Operand) (ho : o.op = .store ty x y) (v1 v2 : Value) (h1 : a.eval x = v1) (h2 : a.eval y = v2) (hrun : (Instr.storeAt ty v1 v2).run P w = .ok () w') : (execOp a.eval o).run P w = .ok .skip w' := by
  unfold execOp
  simp only [ho, h1, h2, Sem.run_bind, hrun, Sem.run_pure, Result.andThen_ok]
end
theorem run_sub_i64 {P : Program} (W : World) (t : TypeId) (a b : Int) : (binOp .sub t (.int .i64 a) (.int .i64 b)).run P W = .ok (.int .i64 (IntKind.i64.wrap (a - b))) W := by
  simp [binOp, Op.intArith]
end Go.Proofs.Ytchcikfjbpcalaa
