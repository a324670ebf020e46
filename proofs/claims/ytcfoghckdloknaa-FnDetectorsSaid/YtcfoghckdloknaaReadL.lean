/-
  CONTRACTS: what is read off, in numbers; how full.
-/
import Derived.Test.YtcfoghckdloknaaVDet
import Derived.Test.YtcfoghckdloknaaCnt
import Derived.Test.YtcfoghckdloknaaG3
import Derived.Test.YtcfoghckdloknaaG6
import Derived.Test.YtcfoghckdloknaaLate
import Derived.Test.YtcfoghckdloknaaOneCell
namespace Go.Proofs.Ytcfoghckdloknaa
open Go Go.ChangeShapes Go.WideShapes Go.ChangeAt Go.RowKit
set_option maxRecDepth 100000

theorem results_two {P : Program} {fn : Func} {p q u : Tmp} {ty1 ty2 : TypeId} (h : fn.results = #[.cell p ty1, .cell q ty2, .tmp u]) (tmps : Array Value) (W : World) (g1 : Nat) (c1 : Array Value) (T1 : TypeId) (g2 : Nat) (c2 : Array Value) (T2 : TypeId) (v : Value)
    (hp : tmps.getD p undef = .pointer (some ⟨g1, 0, none⟩)) (hq : tmps.getD q undef = .pointer (some ⟨g2, 0, none⟩)) (hv : tmps.getD u undef = v) (hA1 : At W g1 c1 T1) (hA2 : At W g2 c2 T2)
    (d1 : TypeDesc) (hu1 : P.underlying ty1 = some d1) (hd1 : (match d1 with | .struct _ | .array _ _ => true | _ => false) = true) (n1 : Nat) (hn1 : c1.size = n1) (hi1 : (P.info? ty1).map (·.size) = some n1)
    (d2 : TypeDesc) (hu2 : P.underlying ty2 = some d2) (hd2 : (match d2 with | .struct _ | .array _ _ => true | _ => false) = true) (n2 : Nat) (hn2 : c2.size = n2) (hi2 : (P.info? ty2).map (·.size) = some n2) :
    (results fn tmps).run P W = .ok (.tuple #[.agg c1, .agg c2, v]) W := by
  have e : (results fn tmps).run P W = ((asAddr (tmps.getD p undef)).run P W).andThen fun a w₁ => ((loadVar ty1 a).run P w₁).andThen fun v1 w₂ => ((asAddr (tmps.getD q undef)).run P w₂).andThen fun b w₃ => ((loadVar ty2 b).run P w₃).andThen fun v2 w₄ => .ok (.tuple #[v1, v2, tmps.getD u undef]) w₄ := by
    simp only [results, h]
    simp [Sem.run_bind, Result.andThen]
  rw [e, hp, hq, hv]
  have l1 := run_loadVar_row (P := P) W g1 T1 ty1 c1 (0, 0) d1 hA1 hu1 hd1 (by rw [hn1]; exact hi1)
  have l2 := run_loadVar_row (P := P) W g2 T2 ty2 c2 (0, 0) d2 hA2 hu2 hd2 (by rw [hn2]; exact hi2)
  simp only [asAddr, Sem.run_pure, Result.andThen_ok, l1, l2]
theorem run_load_i {P : Program} (w : World) (ty : TypeId) (k : IntKind) (hu : P.underlying ty = some (.int k)) (ad : Addr) (v : Value) (hc : w.cell? ad = some v) : (Instr.loadAt ty (.pointer (some ad))).run P w = .ok v w := by
  have hagg : (isAgg ty).run P w = .ok false w := by
    unfold isAgg
    rw [Sem.run_bind, run_underlying hu w]
    rfl
  simp only [Instr.loadAt, Instr.sureAddr, Sem.run_bind, Sem.run_pure, Result.andThen]
  simp [loadVar, Sem.run_bind, hagg, hc]
theorem product_comm (a b : Ieee.Datum) : a.product b = b.product a := by
  cases a <;> cases b <;> simp [Ieee.Datum.product, Bool.xor_comm, Nat.mul_comm, Int.add_comm]
/-- a great number times an amount -/
theorem mul_big {q : Nat} (hq : q ≤ 2139095040) : floatBits .mul .f32 1148846080 q = some (mulB 1148846080 q) ∧ mulB 1148846080 q ≤ 2139095040 := by
  obtain ⟨h1, h2⟩ := mul_any (x := q) (y := 1148846080) hq (by omega) (by omega)
  have e : S32.mul 1148846080 q = S32.mul q 1148846080 := by unfold Ieee.Format.mul; rw [product_comm]
  have e2 : mulB 1148846080 q = mulB q 1148846080 := by unfold mulB; rw [e]
  rw [e2]
  exact ⟨e.trans h1, h2⟩
/-- how full a tally is -/
def fullD (f : Nat) (t : Int) : Int := if t = 0 then 0 else cntB (mulB 1148846080 (divB f (fN t.toNat)))
theorem fullD_0 (f : Nat) : fullD f 0 = 0 := rfl
theorem full_num {f : Nat} {t : Nat} (hf : f < 2139095040) (h0 : 0 < t) (ht : t ≤ 1000000) :
    floatBits .quo .f32 f (fN t) = some (divB f (fN t)) ∧ floatBits .mul .f32 1148846080 (divB f (fN t)) = some (mulB 1148846080 (divB f (fN t))) ∧ mulB 1148846080 (divB f (fN t)) < 4294967296 ∧ fullD f (t : Int) = cntB (mulB 1148846080 (divB f (fN t))) := by
  have a := fN_le (n := t) (by omega)
  have b := fN_pos h0
  obtain ⟨h1, h2⟩ := div_some (x := f) (y := fN t) hf (by omega) b
  obtain ⟨h3, h4⟩ := mul_big h2
  refine ⟨h1, h3, by omega, ?_⟩
  unfold fullD
  rw [if_neg (by omega), Int.toNat_natCast]
def vRead (c : Int) (y : Nat) (n : Int) (f : Nat) (t : Int) (u : Int) : Int × Int × Int × Int × Nat × Int := if okD c y n f t then (if inB 0 65535 u then (u, n, fullD f t, c, y, 0) else (0, 0, 0, 0, 0, 2)) else (0, 0, 0, 0, 0, 1)
section
variable {c : Int} {y : Nat} {n : Int} {f : Nat} {t : Int} {u : Int}
theorem vRead_1 (h : okD c y n f t = false) : vRead c y n f t u = (0, 0, 0, 0, 0, 1) := by unfold vRead; rw [h]; rfl
theorem vRead_2 (h : okD c y n f t = true) (h2 : inB 0 65535 u = false) : vRead c y n f t u = (0, 0, 0, 0, 0, 2) := by unfold vRead; rw [if_pos h, h2]; rfl
theorem vRead_0 (h : okD c y n f t = true) (h2 : inB 0 65535 u = true) : vRead c y n f t u = (u, n, fullD f t, c, y, 0) := by unfold vRead; rw [if_pos h, if_pos h2]
theorem vRead_y : (vRead c y n f t u).2.2.2.2.1 < 4294967296 ∧ nanB (vRead c y n f t u).2.2.2.2.1 = false := by
  cases h : okD c y n f t
  · rw [vRead_1 h]; decide
  · cases h2 : inB 0 65535 u
    · rw [vRead_2 h h2]; decide
    · rw [vRead_0 h h2]
      have := (okD_of h).2.1
      exact nan_le (c := 1065353216) (by show y ≤ _; omega) (by omega)
end

theorem fullOf_any (c : Int) (y : Nat) (n : Int) (f : Nat) (t : Int) (hf : f < 2139095040) (ht : 0 ≤ t ∧ t ≤ 1000000) (w : World) :
    Calls Try.prog 34 #[.agg (dt c y n f t)] w fun e w' => e = .returned (.int .i16 (fullD f t)) ∧ Below w.heap.size w w' := by
  have P0 := At.new w (dt c y n f t) 33
  have B0 := Lib.hid (b0 w (.cells (dt c y n f t) 33))
  have c3 := P0.cell (dt_3 _ _ _ _ _)
  have c4 := P0.cell (dt_4 _ _ _ _ _)
  clear P0
  by_cases z : t = 0
  · subst z
    rw [fullD_0]
    go_enter Try.func34, Try.ntmps34
    go_wp2
    go_ret
    exact ⟨rfl, B0.out⟩
  · obtain ⟨s, rfl⟩ : ∃ s : Nat, t = (s : Int) := ⟨t.toNat, by omega⟩
    obtain ⟨h1, h2, h3, h4⟩ := full_num (f := f) (t := s) hf (by omega) (by omega)
    rw [h4]
    have z1 : ((s : Int) == 0) = false := by simpa using z
    have f1 := floatOfInt_nat s
    have hq := fun t w => run_float_arith (P := Try.prog) w .quo t .f32 _ _ _ h1
    have hm := fun t w => run_float_arith (P := Try.prog) w .mul t .f32 _ _ _ h2
    have KC := ToCount_any _ h3
    clear h1 h2 h3 h4 z
    generalize fN s = S at *
    generalize divB f S = Q at *
    generalize mulB 1148846080 Q = V at *
    go_enter Try.func34, Try.ntmps34
    go_wp2_with (simp only [hq, hm])
    refine (KC _).mono ?_
    rintro e w1 ⟨rfl, hb1⟩
    go_wp2_with fail
    go_ret
    exact ⟨rfl, bthen B0.out hb1⟩

end Go.Proofs.Ytcfoghckdloknaa
