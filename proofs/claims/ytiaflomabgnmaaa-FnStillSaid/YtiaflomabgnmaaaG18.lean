/-
  SEVERAL TEXTS IN ONE.
-/
import Derived.Test.YtiaflomabgnmaaaG17
import Derived.Test.YtiaflomabgnmaaaG6
import Derived.Test.YtiaflomabgnmaaaG4
import Derived.Test.YtiaflomabgnmaaaFint
import Derived.Test.YtiaflomabgnmaaaLate

/-
  CONTRACTS: the nearest short number, on both sides.
-/
namespace Go.Proofs.Ytiaflomabgnmaaa
open Go Go.ChangeShapes Go.WideShapes Go.ChangeAt Go.RowKit
set_option maxRecDepth 100000

/-- a narrow float that is no NaN: sign, rung -/
theorem parts32 {a : Nat} (ha : a < 4294967296) (hn : nanB a = false) : ∃ s r, a = S32.word s r ∧ r ≤ 2139095040 ∧ cntB a = cntR s r := by
  have hs := split32 ha
  refine ⟨decide (2147483648 ≤ a), a % 2147483648, hs, ?_, ?_⟩
  · unfold nanB at hn; simpa using hn
  · unfold cntB; rw [hn]; rfl

/-- the two bounds, in new blocks -/
def countW (w : World) : World := (w.alloc (.cells #[.float .f32 3338665984] 24)).alloc (.cells #[.float .f32 1191181824] 24)

theorem countW_below (w : World) : Below w.heap.size w (countW w) := bnew (b0 w _) _

theorem countW_0 (w : World) : At (countW w) w.heap.size #[.float .f32 3338665984] 24 := (At.new w _ _).alloc _

theorem countW_1 (w : World) : At (countW w) (w.heap.size + 1) #[.float .f32 1191181824] 24 := At.last1 w _ _ _

theorem holdCount_any (w : World) :
    Calls Try.prog 20 #[.float .f32 3338665984, .float .f32 1191181824] w fun e w' => e = .returned (.func (.func 36) #[] #[.pointer (some ⟨w.heap.size, 0, none⟩), .pointer (some ⟨(w.heap.size + 1), 0, none⟩)]) ∧ w' = countW w := by
  have hmf : ∀ (fn : Fn) (first cap : Array Value) (w : World), (Instr.makeFunc fn first cap).run Try.prog w = .ok (.func fn first cap) w := fun _ _ _ _ => rfl
  go_enter Try.func20, Try.ntmps20
  go_wp2
  go_ret
  exact ⟨rfl, rfl⟩

theorem heldCount_any (g0 g1 : Nat) (s : Bool) (r : Nat) (hr : r ≤ 2139095040) (w : World) (A0 : At w g0 #[.float .f32 3338665984] 24) (A1 : At w g1 #[.float .f32 1191181824] 24) :
    Calls Try.prog 36 #[.float .f32 (S32.word s r), .pointer (some ⟨g0, 0, none⟩), .pointer (some ⟨g1, 0, none⟩)] w fun e w' => e = .returned (.float .f32 (S32.word s (min r (hC s)))) ∧ w' = w := by
  have c0 := A0.cell (k := 0) (v := .float .f32 3338665984) rfl
  have c1 := A1.cell (k := 0) (v := .float .f32 1191181824) rfl
  have m0 : ∀ ts t w, _ := fun ts t w => run_max_lo (P := Try.prog) w ts t s hr
  have m1 : ∀ ts t w, _ := fun ts t w => run_min_hi (P := Try.prog) w ts t s hr
  generalize S32.word s (if s then min r 1191182336 else r) = z at m0 m1
  generalize S32.word s (min r (hC s)) = z2 at m1 ⊢
  generalize S32.word s r = z0 at m0 ⊢
  clear A0 A1
  go_enter Try.func36, Try.ntmps36
  go_wp2
  go_ret
  exact ⟨rfl, rfl⟩

end Go.Proofs.Ytiaflomabgnmaaa

/-
  CONTRACTS: detectors, a law's made the program's, and held against each other.
-/
namespace Go.Proofs.Ytiaflomabgnmaaa
open Go Go.ChangeShapes Go.WideShapes Go.ChangeAt Go.RowKit
set_option maxRecDepth 100000

end Go.Proofs.Ytiaflomabgnmaaa

/-
  CONTRACTS: what is read off, in numbers; how full.
-/
namespace Go.Proofs.Ytiaflomabgnmaaa
open Go Go.ChangeShapes Go.WideShapes Go.ChangeAt Go.RowKit
set_option maxRecDepth 100000

theorem results_two {P : Program} {fn : Func} {p q u : Tmp} {ty1 ty2 : TypeId} (h : fn.results = #[.cell p ty1, .cell q ty2, .tmp u]) (tmps : Array Value) (W : World) (g1 : Nat) (c1 : Array Value) (T1 : TypeId) (g2 : Nat) (c2 : Array Value) (T2 : TypeId) (v : Value)
    (hp : tmps.getD p undef = .pointer (some ⟨g1, 0, none⟩)) (hq : tmps.getD q undef = .pointer (some ⟨g2, 0, none⟩)) (hv : tmps.getD u undef = v) (hA1 : At W g1 c1 T1) (hA2 : At W g2 c2 T2)
    (d1 : TypeDesc) (hu1 : P.underlying ty1 = some d1) (hd1 : (match d1 with | .struct _ | .array _ _ => true | _ => false) = true) (n1 : Nat) (hn1 : c1.size = n1) (hi1 : (P.info? ty1).map (·.size) = some n1)
    (d2 : TypeDesc) (hu2 : P.underlying ty2 = some d2) (hd2 : (match d2 with | .struct _ | .array _ _ => true | _ => false) = true) (n2 : Nat) (hn2 : c2.size = n2) (hi2 : (P.info? ty2).map (·.size) = some n2) :
    (results fn tmps).run P W = .ok (.tuple #[.agg c1, .agg c2, v]) W := by
  have e : (results fn tmps).run P W = ((asAddr (tmps.getD p undef)).run P W).andThen fun a w₁ => ((loadVar ty1 a).run P w₁).andThen fun v1 w₂ => ((asAddr (tmps.getD q undef)).run P w₂).andThen fun b w₃ => ((loadVar ty2 b).run P w₃).andThen fun v2 w₄ => .ok (.tuple #[v1, v2, tmps.getD u undef]) w₄ := by
    simp only [results, h]
    simp [Sem.run_bind, Result.andThen]
  rw [e, hp, hq, hv]
  have l1 := run_loadVar_row (P := P) W g1 T1 ty1 c1 (0, 0) d1 hA1 hu1 hd1 (by rw [hn1]; exact hi1)
  have l2 := run_loadVar_row (P := P) W g2 T2 ty2 c2 (0, 0) d2 hA2 hu2 hd2 (by rw [hn2]; exact hi2)
  simp only [asAddr, Sem.run_pure, Result.andThen_ok, l1, l2]

theorem run_load_i {P : Program} (w : World) (ty : TypeId) (k : IntKind) (hu : P.underlying ty = some (.int k)) (ad : Addr) (v : Value) (hc : w.cell? ad = some v) : (Instr.loadAt ty (.pointer (some ad))).run P w = .ok v w := by
  have hagg : (isAgg ty).run P w = .ok false w := by
    unfold isAgg
    rw [Sem.run_bind, run_underlying hu w]
    rfl
  simp only [Instr.loadAt, Instr.sureAddr, Sem.run_bind, Sem.run_pure, Result.andThen]
  simp [loadVar, Sem.run_bind, hagg, hc]

theorem product_comm (a b : Ieee.Datum) : a.product b = b.product a := by
  cases a <;> cases b <;> simp [Ieee.Datum.product, Bool.xor_comm, Nat.mul_comm, Int.add_comm]

/-- a great number times an amount -/
theorem mul_big {q : Nat} (hq : q ≤ 2139095040) : floatBits .mul .f32 1148846080 q = some (mulB 1148846080 q) ∧ mulB 1148846080 q ≤ 2139095040 := by
  obtain ⟨h1, h2⟩ := mul_any (x := q) (y := 1148846080) hq (by omega) (by omega)
  have e : S32.mul 1148846080 q = S32.mul q 1148846080 := by unfold Ieee.Format.mul; rw [product_comm]
  have e2 : mulB 1148846080 q = mulB q 1148846080 := by unfold mulB; rw [e]
  rw [e2]
  exact ⟨e.trans h1, h2⟩

/-- how full a tally is -/
def fullD (f : Nat) (t : Int) : Int := if t = 0 then 0 else cntB (mulB 1148846080 (divB f (fN t.toNat)))

theorem fullD_0 (f : Nat) : fullD f 0 = 0 := rfl

theorem full_num {f : Nat} {t : Nat} (hf : f < 2139095040) (h0 : 0 < t) (ht : t ≤ 1000000) :
    floatBits .quo .f32 f (fN t) = some (divB f (fN t)) ∧ floatBits .mul .f32 1148846080 (divB f (fN t)) = some (mulB 1148846080 (divB f (fN t))) ∧ mulB 1148846080 (divB f (fN t)) < 4294967296 ∧ fullD f (t : Int) = cntB (mulB 1148846080 (divB f (fN t))) := by
  have a := fN_le (n := t) (by omega)
  have b := fN_pos h0
  obtain ⟨h1, h2⟩ := div_some (x := f) (y := fN t) hf (by omega) b
  obtain ⟨h3, h4⟩ := mul_big h2
  refine ⟨h1, h3, by omega, ?_⟩
  unfold fullD
  rw [if_neg (by omega), Int.toNat_natCast]

def vRead (c : Int) (y : Nat) (n : Int) (f : Nat) (t : Int) (u : Int) : Int × Int × Int × Int × Nat × Int := if okD c y n f t then (if inB 0 65535 u then (u, n, fullD f t, c, y, 0) else (0, 0, 0, 0, 0, 2)) else (0, 0, 0, 0, 0, 1)
section
variable {c : Int} {y : Nat} {n : Int} {f : Nat} {t : Int} {u : Int}
theorem vRead_1 (h : okD c y n f t = false) : vRead c y n f t u = (0, 0, 0, 0, 0, 1) := by unfold vRead; rw [h]; rfl

theorem vRead_2 (h : okD c y n f t = true) (h2 : inB 0 65535 u = false) : vRead c y n f t u = (0, 0, 0, 0, 0, 2) := by unfold vRead; rw [if_pos h, h2]; rfl

theorem vRead_0 (h : okD c y n f t = true) (h2 : inB 0 65535 u = true) : vRead c y n f t u = (u, n, fullD f t, c, y, 0) := by unfold vRead; rw [if_pos h, if_pos h2]

theorem vRead_y : (vRead c y n f t u).2.2.2.2.1 < 4294967296 ∧ nanB (vRead c y n f t u).2.2.2.2.1 = false := by
  cases h : okD c y n f t
  · rw [vRead_1 h]; decide
  · cases h2 : inB 0 65535 u
    · rw [vRead_2 h h2]; decide
    · rw [vRead_0 h h2]
      have := (okD_of h).2.1
      exact nan_le (c := 1065353216) (by show y ≤ _; omega) (by omega)
end

end Go.Proofs.Ytiaflomabgnmaaa
