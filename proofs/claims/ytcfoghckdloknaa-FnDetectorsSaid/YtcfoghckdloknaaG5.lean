/-
  SEVERAL TEXTS IN ONE.
-/
import Derived.Test.YtcfoghckdloknaaTl
import Derived.Test.YtcfoghckdloknaaG2
import Derived.Test.YtcfoghckdloknaaMix
import Derived.Test.YtcfoghckdloknaaJn
import Derived.Test.YtcfoghckdloknaaOneCell
import Derived.Test.YtcfoghckdloknaaLaw
import Derived.Deep.LoopGhost
import Derived.IntWalk

/-
  DETECTORS IN MEMORY: a cell, a carry, a count, how full, ticks.
  No Go text in it. Conditions: those of each theorem.
-/
namespace Go.Proofs.Ytcfoghckdloknaa
open Go Go.RowKit
def dt (c : Int) (y : Nat) (n : Int) (f : Nat) (t : Int) : Array Value := #[.int .i64 c, .float .f32 y, .int .i16 n, .float .f32 f, .int .i64 t]
theorem dt_size (c : Int) (y : Nat) (n : Int) (f : Nat) (t : Int) : (dt c y n f t).size = 5 := rfl
theorem dt_one (c : Int) (y : Nat) (n : Int) (f : Nat) (t : Int) : (dt c y n f t).all (·.oneCell') = true := by unfold dt; rw [List.all_toArray]; rfl
theorem dt_z : (#[.int .i64 0, .float .f32 0, .int .i16 0, .float .f32 0, .int .i64 0] : Array Value) = dt 0 0 0 0 0 := rfl
theorem dt_0 (c : Int) (y : Nat) (n : Int) (f : Nat) (t : Int) : (dt c y n f t)[0]? = some (.int .i64 c) := rfl
theorem dt_s0 (c : Int) (y : Nat) (n : Int) (f : Nat) (t : Int) (x : Int) : (dt c y n f t).setIfInBounds 0 (.int .i64 x) = dt x y n f t := rfl
theorem dt_1 (c : Int) (y : Nat) (n : Int) (f : Nat) (t : Int) : (dt c y n f t)[1]? = some (.float .f32 y) := rfl
theorem dt_s1 (c : Int) (y : Nat) (n : Int) (f : Nat) (t : Int) (x : Nat) : (dt c y n f t).setIfInBounds 1 (.float .f32 x) = dt c x n f t := rfl
theorem dt_2 (c : Int) (y : Nat) (n : Int) (f : Nat) (t : Int) : (dt c y n f t)[2]? = some (.int .i16 n) := rfl
theorem dt_s2 (c : Int) (y : Nat) (n : Int) (f : Nat) (t : Int) (x : Int) : (dt c y n f t).setIfInBounds 2 (.int .i16 x) = dt c y x f t := rfl
theorem dt_3 (c : Int) (y : Nat) (n : Int) (f : Nat) (t : Int) : (dt c y n f t)[3]? = some (.float .f32 f) := rfl
theorem dt_s3 (c : Int) (y : Nat) (n : Int) (f : Nat) (t : Int) (x : Nat) : (dt c y n f t).setIfInBounds 3 (.float .f32 x) = dt c y n x t := rfl
theorem dt_4 (c : Int) (y : Nat) (n : Int) (f : Nat) (t : Int) : (dt c y n f t)[4]? = some (.int .i64 t) := rfl
theorem dt_s4 (c : Int) (y : Nat) (n : Int) (f : Nat) (t : Int) (x : Int) : (dt c y n f t).setIfInBounds 4 (.int .i64 x) = dt c y n f x := rfl
theorem dt_sz (c : Int) : (#[.int .i64 0, .float .f32 0, .int .i16 0, .float .f32 0, .int .i64 0] : Array Value).setIfInBounds 0 (.int .i64 c) = dt c 0 0 0 0 := rfl
end Go.Proofs.Ytcfoghckdloknaa

/-
  A part of a row, read in a statement whose order is open.
  No Go text in it. Conditions: those of the theorem.
-/
namespace Go.Proofs.Ytcfoghckdloknaa
open Go Go.RowKit
theorem q_part {P : Program} {W : World} {o : Oper} {a : Act} {K : Act → Prop} {g : Nat} {c : Array Value} {T : TypeId} (ty : TypeId) (x : Operand) (ho : o.op = .load ty x) (off : Nat) (hx : a.eval x = .pointer (some ⟨g, off, none⟩)) (hA : At W g c T) (n : Nat) (hn : off + n ≤ c.size) (d : TypeDesc)
    (hu : P.underlying ty = some d) (hd : (match d with | .struct _ | .array _ _ => true | _ => false) = true) (hi : (P.info? ty).map (·.size) = some n) (c' : Array Value) (hc : c.extract off (off + n) = c') (hK : K (a.put o.dst (.agg c'))) : o.quiet P a (Cb W) K :=
  q_load ty x ho _ hx (.agg c') (fun w hw => by
    have := run_loadAt_part (P := P) w g off n ty c T (0, 0) d (At.step hA hw) hu hd hi hn
    rw [hc] at this
    exact this) hK
end Go.Proofs.Ytcfoghckdloknaa

/-
  CONTRACTS: tallies, a law's made the program's, and held against each other.
-/
namespace Go.Proofs.Ytcfoghckdloknaa
open Go Go.ChangeShapes Go.WideShapes Go.ChangeAt Go.RowKit
set_option maxRecDepth 100000

end Go.Proofs.Ytcfoghckdloknaa
