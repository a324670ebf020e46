/-
  CONTRACTS: the nearest short number: the call.
-/
import Derived.Test.YtcfoghckdloknaaCntF
import Derived.Test.YtcfoghckdloknaaNum
import Derived.Test.YtcfoghckdloknaaG4
namespace Go.Proofs.Ytcfoghckdloknaa
open Go Go.ChangeShapes Go.WideShapes Go.ChangeAt Go.RowKit
set_option maxRecDepth 100000

theorem rte_run (b : Nat) (w : World) : (callFunc 40 #[.float .f64 b]).run Try.prog w = (do let v ← Go.Extern.MathFloor.toIntegral "math.RoundToEven" .even #[.float .f64 b]; pure (Next.value v) : Sem Next).run Try.prog w := by kernel_rfl
theorem rte_form (name : String) (way : Ieee.Toward) (b : Nat) : ∃ (X : Bool → Nat → Sem Value), Go.Extern.MathFloor.toIntegral name way #[.float .f64 b] = (match FloatKind.f64.decode b with | .nan s t => X s t | d => pure (Value.float .f64 (FloatKind.f64.encode (d.integral way)))) := ⟨_, rfl⟩
theorem rte_number {b : Nat} {s : Bool} {m : Nat} {i : Int} (name : String) (way : Ieee.Toward) (h : FloatKind.f64.decode b = .number s m i) :
    Go.Extern.MathFloor.toIntegral name way #[.float .f64 b] = pure (.float .f64 (S64.write ((Ieee.Datum.number s m i).integral way))) := by
  obtain ⟨X, e⟩ := rte_form name way b
  rw [e, h]
  rfl
theorem call_rte (s : Bool) {R : Nat} (h : R < 9218868437227405312) (w : World) :
    (callFunc 40 #[.float .f64 (S64.word s R)]).run Try.prog w = .ok (.value (.float .f64 (S64.word s (min (wIk 1074 (nIk 1074 R)) 9218868437227405312)))) w := by
  rw [rte_run]
  have h1 := integral_word s (k := 1074) h rfl
  obtain ⟨m, i, h2, -, -⟩ := read_fin S64 s (r := R) (by rw [d_inf]; exact h)
  rw [h2] at h1
  rw [rte_number _ _ h2, h1, write_word s _ 1074 rfl]
  rfl
theorem call_rte_inf (s : Bool) (w : World) :
    (callFunc 40 #[.float .f64 (S64.word s 9218868437227405312)]).run Try.prog w = .ok (.value (.float .f64 (S64.word s 9218868437227405312))) w := by
  cases s <;> kernel_rfl

end Go.Proofs.Ytcfoghckdloknaa
