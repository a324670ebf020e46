/-
  SEVERAL TEXTS IN ONE.
-/
import Derived.Test.YtcnbccjkcaoflaaFltRun
import Derived.Test.YtcnbccjkcaoflaaArith
import Derived.Laws.Cover2
import Derived.Test.YtcnbccjkcaoflaaG1
import Derived.Test.YtcnbccjkcaoflaaJn
import Derived.Deep.LoopGhost
import Derived.IntWalk
import Derived.Test.YtcnbccjkcaoflaaNan

/-
  WHOLE NUMBERS MADE NARROW FLOATS.
  No Go text in it. Conditions: those of each theorem.
-/
namespace Go.Proofs.Ytcnbccjkcaoflaa
open Go

/-- a whole number from 0 on, as a narrow float -/
def fN (n : Nat) : Nat := min (RU 23 (n * P2 149) 0) 2139095040
theorem floatOfInt_nat (n : Nat) : floatOfInt .f32 (n : Int) = fN n := by
  unfold floatOfInt FloatKind.nearest
  show S32.write (.number (decide ((n : Int) < 0)) (n : Int).natAbs 0) = _
  rw [decide_eq_false (by omega), Int.natAbs_natCast]
  show S32.nearest false n 0 = _
  rw [nearest_eq, s_L, s_fb, s_inf, word_false]
  rfl
theorem fN_le {n : Nat} (h : n ≤ 1048576) : fN n ≤ 1233125376 := by
  unfold fN
  have e : rv 23 1233125376 = P2 169 := by decide
  have h2 : n * P2 149 ≤ 1048576 * P2 149 := Nat.mul_le_mul_right _ h
  have h3 : 1048576 * P2 149 = P2 169 := by decide
  have := RU_le (p := 23) (mag := n * P2 149) (D := 0) (r := 1233125376) (by rw [Nat.pow_zero, Nat.mul_one, e]; omega)
  omega
theorem fN_pos {n : Nat} (h : 0 < n) : 0 < fN n := by
  unfold fN
  have e : rv 23 1 = 1 := by decide
  have hp := P2_pos 149
  have h2 : 1 * 1 ≤ n * P2 149 := Nat.mul_le_mul h hp
  have := le_RU (p := 23) (mag := n * P2 149) (D := 0) (r := 1) (by rw [Nat.pow_zero, Nat.mul_one, e]; omega)
  omega
end Go.Proofs.Ytcnbccjkcaoflaa

/-
  A part of a row, read in a statement whose order is open.
  No Go text in it. Conditions: those of the theorem.
-/
namespace Go.Proofs.Ytcnbccjkcaoflaa
open Go Go.RowKit
theorem q_part {P : Program} {W : World} {o : Oper} {a : Act} {K : Act → Prop} {g : Nat} {c : Array Value} {T : TypeId} (ty : TypeId) (x : Operand) (ho : o.op = .load ty x) (off : Nat) (hx : a.eval x = .pointer (some ⟨g, off, none⟩)) (hA : At W g c T) (n : Nat) (hn : off + n ≤ c.size) (d : TypeDesc)
    (hu : P.underlying ty = some d) (hd : (match d with | .struct _ | .array _ _ => true | _ => false) = true) (hi : (P.info? ty).map (·.size) = some n) (c' : Array Value) (hc : c.extract off (off + n) = c') (hK : K (a.put o.dst (.agg c'))) : o.quiet P a (Cb W) K :=
  q_load ty x ho _ hx (.agg c') (fun w hw => by
    have := run_loadAt_part (P := P) w g off n ty c T (0, 0) d (At.step hA hw) hu hd hi hn
    rw [hc] at this
    exact this) hK
end Go.Proofs.Ytcnbccjkcaoflaa

/-
  CONTRACTS: four rows of four numbers, a law's made the program's, and held against each other.
-/
namespace Go.Proofs.Ytcnbccjkcaoflaa
open Go Go.RowKit
set_option maxRecDepth 100000

end Go.Proofs.Ytcnbccjkcaoflaa

/-
  CONTRACTS: SumOfFour.
-/
namespace Go.Proofs.Ytcnbccjkcaoflaa
open Go Go.RowKit
set_option maxRecDepth 100000

end Go.Proofs.Ytcnbccjkcaoflaa
