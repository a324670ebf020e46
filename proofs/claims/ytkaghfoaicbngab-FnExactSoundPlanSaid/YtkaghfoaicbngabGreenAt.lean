/-
  CONTRACTS: the phase at a tick: contracts.
-/
import Derived.Test.YtkaghfoaicbngabAtI
namespace Go.Proofs.Ytkaghfoaicbngab
open Go Go.ChangeShapes Go.WideShapes Go.ChangeAt Go.RowKit
set_option maxRecDepth 100000

theorem results_cell_tmp2 {fn : Func} {p u1 u2 : Tmp} {ty : TypeId} (h : fn.results = #[.cell p ty, .tmp u1, .tmp u2]) (tmps : Array Value) (P : Program) (w : World) :
    (results fn tmps).run P w = ((asAddr (tmps.getD p undef)).run P w).andThen fun a w₁ => ((loadVar ty a).run P w₁).andThen fun v w₂ => .ok (.tuple #[v, tmps.getD u1 undef, tmps.getD u2 undef]) w₂ := by
  simp only [results, h]
  simp [Sem.run_bind, Result.andThen]
theorem results_at2 {P : Program} {fn : Func} {p u1 u2 : Tmp} {ty : TypeId} (h : fn.results = #[.cell p ty, .tmp u1, .tmp u2]) (tmps : Array Value) (W : World) (g : Nat) (c : Array Value) (T : TypeId) (v1 v2 : Value) (hp : tmps.getD p undef = .pointer (some ⟨g, 0, none⟩))
    (h1 : tmps.getD u1 undef = v1) (h2 : tmps.getD u2 undef = v2) (hA : At W g c T)
    (d : TypeDesc) (hu : P.underlying ty = some d) (hd : (match d with | .struct _ | .array _ _ => true | _ => false) = true) (n : Nat) (hn : c.size = n) (hi : (P.info? ty).map (·.size) = some n) :
    (results fn tmps).run P W = .ok (.tuple #[.agg c, v1, v2]) W := by
  rw [results_cell_tmp2 h, hp, h1, h2]
  have := run_loadVar_row (P := P) W g T ty c (0, 0) d hA hu hd (by rw [hn]; exact hi)
  simp only [asAddr, Sem.run_pure, Result.andThen_ok, this]
/-- the code of a plan and a tick -/
def gC (xs : Slots) (b o k : Int) : Int := if okP xs b o then (if inB 0 1000000000 k then 0 else 2) else 1
theorem gC_no {xs : Slots} {b o k : Int} (h : okP xs b o = false) : gC xs b o k = 1 := by unfold gC; rw [h]; rfl
theorem gC_bad {xs : Slots} {b o k : Int} (h : okP xs b o = true) (hk : inB 0 1000000000 k = false) : gC xs b o k = 2 := by unfold gC; rw [h, hk]; rfl
theorem gC_yes {xs : Slots} {b o k : Int} (h : okP xs b o = true) (hk : inB 0 1000000000 k = true) : gC xs b o k = 0 := by unfold gC; rw [h, hk]; rfl
/-- a phase, what is left, and a code -/
def vGr (xs : Slots) (b o k : Int) : List Bool × Int × Int := if gC xs b o k = 0 then ((atS b xs ((k - o) % cyc xs b)).1, (atS b xs ((k - o) % cyc xs b)).2, 0) else (noes 8, 0, gC xs b o k)
theorem vGr_yes {xs : Slots} {b o k : Int} (h : gC xs b o k = 0) : vGr xs b o k = ((atS b xs ((k - o) % cyc xs b)).1, (atS b xs ((k - o) % cyc xs b)).2, 0) := by unfold vGr; rw [if_pos h]
theorem vGr_no {xs : Slots} {b o k : Int} (h : gC xs b o k ≠ 0) : vGr xs b o k = (noes 8, 0, gC xs b o k) := by unfold vGr; rw [if_neg h]
theorem vGr_len {xs : Slots} {b o k : Int} (hW : SlW xs) : (vGr xs b o k).1.length = 8 := by
  unfold vGr
  split
  · exact atS_len hW
  · exact noes_len 8
theorem okC_zero {xs : Slots} {b o : Int} (h : okC xs b o = 0) : okP xs b o = true := by
  cases hk : okP xs b o
  · rw [okC_no hk] at h; cases h
  · rfl
theorem okC_not {xs : Slots} {b o : Int} (h : okC xs b o ≠ 0) : okP xs b o = false := by
  cases hk : okP xs b o
  · rfl
  · rw [okC_yes hk] at h; exact absurd rfl h

end Go.Proofs.Ytkaghfoaicbngab
