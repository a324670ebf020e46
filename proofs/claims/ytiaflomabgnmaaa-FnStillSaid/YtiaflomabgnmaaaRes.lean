/-
  ANSWERS OF SEVERAL VALUES, THE FIRST ONE OUT OF A BLOCK; whole numbers read in whatever order; the least of an amount and a number of either sign.
  No Go text in it. Conditions: those of each theorem.
-/
import Derived.Test.YtiaflomabgnmaaaLate
import Derived.Test.YtiaflomabgnmaaaG11
namespace Go.Proofs.Ytiaflomabgnmaaa
open Go Go.RowKit

theorem results_cell_tmp3 {fn : Func} {p u1 u2 u3 : Tmp} {ty : TypeId} (h : fn.results = #[.cell p ty, .tmp u1, .tmp u2, .tmp u3]) (tmps : Array Value) (P : Program) (w : World) :
    (results fn tmps).run P w = ((asAddr (tmps.getD p undef)).run P w).andThen fun a w₁ => ((loadVar ty a).run P w₁).andThen fun v w₂ => .ok (.tuple #[v, tmps.getD u1 undef, tmps.getD u2 undef, tmps.getD u3 undef]) w₂ := by
  simp only [results, h]
  simp [Sem.run_bind, Result.andThen]

theorem results_cell_tmp4 {fn : Func} {p u1 u2 u3 u4 : Tmp} {ty : TypeId} (h : fn.results = #[.cell p ty, .tmp u1, .tmp u2, .tmp u3, .tmp u4]) (tmps : Array Value) (P : Program) (w : World) :
    (results fn tmps).run P w = ((asAddr (tmps.getD p undef)).run P w).andThen fun a w₁ => ((loadVar ty a).run P w₁).andThen fun v w₂ => .ok (.tuple #[v, tmps.getD u1 undef, tmps.getD u2 undef, tmps.getD u3 undef, tmps.getD u4 undef]) w₂ := by
  simp only [results, h]
  simp [Sem.run_bind, Result.andThen]
section
variable {P : Program}
theorem results_at3 {fn : Func} {p u1 u2 u3 : Tmp} {ty : TypeId} (h : fn.results = #[.cell p ty, .tmp u1, .tmp u2, .tmp u3]) (tmps : Array Value) (W : World) (g : Nat) (c : Array Value) (T : TypeId) (v1 v2 v3 : Value) (hp : tmps.getD p undef = .pointer (some ⟨g, 0, none⟩))
    (h1 : tmps.getD u1 undef = v1) (h2 : tmps.getD u2 undef = v2) (h3 : tmps.getD u3 undef = v3) (hA : At W g c T)
    (d : TypeDesc) (hu : P.underlying ty = some d) (hd : (match d with | .struct _ | .array _ _ => true | _ => false) = true) (n : Nat) (hn : c.size = n) (hi : (P.info? ty).map (·.size) = some n) :
    (results fn tmps).run P W = .ok (.tuple #[.agg c, v1, v2, v3]) W := by
  rw [results_cell_tmp3 h, hp, h1, h2, h3]
  have := run_loadVar_row (P := P) W g T ty c (0, 0) d hA hu hd (by rw [hn]; exact hi)
  simp only [asAddr, Sem.run_pure, Result.andThen_ok, this]

theorem results_at4 {fn : Func} {p u1 u2 u3 u4 : Tmp} {ty : TypeId} (h : fn.results = #[.cell p ty, .tmp u1, .tmp u2, .tmp u3, .tmp u4]) (tmps : Array Value) (W : World) (g : Nat) (c : Array Value) (T : TypeId) (v1 v2 v3 v4 : Value) (hp : tmps.getD p undef = .pointer (some ⟨g, 0, none⟩))
    (h1 : tmps.getD u1 undef = v1) (h2 : tmps.getD u2 undef = v2) (h3 : tmps.getD u3 undef = v3) (h4 : tmps.getD u4 undef = v4) (hA : At W g c T)
    (d : TypeDesc) (hu : P.underlying ty = some d) (hd : (match d with | .struct _ | .array _ _ => true | _ => false) = true) (n : Nat) (hn : c.size = n) (hi : (P.info? ty).map (·.size) = some n) :
    (results fn tmps).run P W = .ok (.tuple #[.agg c, v1, v2, v3, v4]) W := by
  rw [results_cell_tmp4 h, hp, h1, h2, h3, h4]
  have := run_loadVar_row (P := P) W g T ty c (0, 0) d hA hu hd (by rw [hn]; exact hi)
  simp only [asAddr, Sem.run_pure, Result.andThen_ok, this]
end

theorem run_load_int {P : Program} (w : World) (ty : TypeId) (k : IntKind) (hu : P.underlying ty = some (.int k)) (ad : Addr) (v : Value) (hc : w.cell? ad = some v) : (Instr.loadAt ty (.pointer (some ad))).run P w = .ok v w := by
  have hagg : (isAgg ty).run P w = .ok false w := by
    unfold isAgg
    rw [Sem.run_bind, run_underlying hu w]
    rfl
  simp only [Instr.loadAt, Instr.sureAddr, Sem.run_bind, Sem.run_pure, Result.andThen]
  simp [loadVar, Sem.run_bind, hagg, hc]

theorem q_int {P : Program} {W : World} {o : Oper} {a : Act} {K : Act → Prop} {g : Nat} {c : Array Value} {T : TypeId} (ty : TypeId) (x : Operand) (ho : o.op = .load ty x) (kd : IntKind) (hu : P.underlying ty = some (.int kd)) (k : Nat) (hx : a.eval x = .pointer (some ⟨g, k, none⟩)) (hA : At W g c T) (v : Value) (hk : c[k]? = some v) (hK : K (a.put o.dst v)) : o.quiet P a (Cb W) K :=
  q_load ty x ho _ hx v (fun w hw => run_load_int w ty kd hu _ v (At.cell (At.step hA hw) hk)) hK

/-- an amount, after a number of either sign -/
theorem order_pos_neg {r y : Nat} (hr : r < 2139095040) (h0 : 0 < r) (hy : y < 2139095040) : FloatKind.f32.format.order y (2147483648 + r) = some .gt := by
  show S32.order y (2147483648 + r) = _
  have := order_fin S32 false true (r := y) (q := r) (by rw [s_inf]; exact hy) (by rw [s_inf]; exact hr)
  rw [word_true, word_false, s_sw] at this
  rw [this]
  have hp := rv_pos (p := S32.fractionBits) h0
  rw [Int.compare_eq_gt.2]
  show -((rv S32.fractionBits r : Nat) : Int) < ((rv S32.fractionBits y : Nat) : Int)
  omega

/-- a finite number of either sign, no -0 -/
def Fin (v : Nat) : Prop := v < 2139095040 ∨ ∃ r, v = 2147483648 + r ∧ 0 < r ∧ r < 2139095040

theorem Fin.sgn {v : Nat} (h : Fin v) : Sgn v := by
  rcases h with h | ⟨r, rfl, h1, h2⟩
  · exact .inl (by omega)
  · exact .inr ⟨r, rfl, h1, by omega⟩

theorem dif_fin {x y : Nat} (hx : x < 2139095040) (hy : y < 2139095040) : Fin (difB x y) := by
  unfold difB
  by_cases c : y ≤ x
  · rw [if_pos c]; exact .inl (by have := sub_le hx c; omega)
  · rw [if_neg c]
    exact .inr ⟨_, rfl, sub_pos hy (by omega), by have := sub_le hy (show x ≤ y by omega); omega⟩

/-- the lesser one of an amount and of a number of either sign -/
def minS (j d : Nat) : Nat := if 2147483648 ≤ d then d else min j d

theorem minS_sgn {j d : Nat} (hj : j < 2139095040) (hd : Fin d) : Sgn (minS j d) := by
  unfold minS
  rcases hd with h | ⟨r, rfl, h1, h2⟩
  · rw [if_neg (by omega)]; exact .inl (by omega)
  · rw [if_pos (by omega)]; exact .inr ⟨r, rfl, h1, by omega⟩

theorem minS_pos {j d : Nat} (hj : j < 2139095040) (hd : Fin d) : posB (minS j d) = min j (posB d) := by
  unfold minS posB
  rcases hd with h | ⟨r, rfl, h1, h2⟩
  · rw [show (if 2147483648 ≤ d then d else min j d) = min j d from if_neg (by omega), if_neg (by omega), if_neg (by omega)]
  · rw [show (if 2147483648 ≤ 2147483648 + r then 2147483648 + r else min j (2147483648 + r)) = 2147483648 + r from if_pos (by omega), if_pos (by omega)]; omega

theorem run_minS {P : Program} (w : World) (ts : Array TypeId) (t : TypeId) {j d : Nat} (hj : j < 2139095040) (hd : Fin d) :
    (Builtin.min_ ts t #[.float .f32 j, .float .f32 d]).run P w = .ok (.float .f32 (minS j d)) w := by
  unfold minS
  rcases hd with h | ⟨r, rfl, h1, h2⟩
  · rw [if_neg (by omega)]; exact run_min_amt w ts t (by omega) (by omega)
  · have ho := order_pos_neg h2 h1 hj
    rw [if_pos (by omega)]
    simp [Builtin.min_, Builtin.min2, ho]

theorem posB_dif {x y : Nat} (hx : x < 2139095040) (_hy : y < 2139095040) : posB (difB x y) ≤ x := by
  unfold posB difB
  by_cases c : y ≤ x
  · rw [if_pos c]; have := sub_le hx c; rw [if_neg (by omega)]; exact this
  · rw [if_neg c, if_pos (by omega)]; omega
end Go.Proofs.Ytiaflomabgnmaaa
