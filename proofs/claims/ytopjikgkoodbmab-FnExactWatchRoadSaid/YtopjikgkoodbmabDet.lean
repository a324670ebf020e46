/-
  DETECTORS IN MEMORY: a cell, a carry, a count, how full, ticks.
  No Go text in it. Conditions: those of each theorem.
-/
import Derived.Test.YtopjikgkoodbmabTl
namespace Go.Proofs.Ytopjikgkoodbmab
open Go Go.RowKit
def dt (c : Int) (y : Nat) (n : Int) (f : Nat) (t : Int) : Array Value := #[.int .i64 c, .float .f32 y, .int .i16 n, .float .f32 f, .int .i64 t]
theorem dt_size (c : Int) (y : Nat) (n : Int) (f : Nat) (t : Int) : (dt c y n f t).size = 5 := rfl
theorem dt_one (c : Int) (y : Nat) (n : Int) (f : Nat) (t : Int) : (dt c y n f t).all (·.oneCell') = true := by unfold dt; rw [List.all_toArray]; rfl
theorem dt_z : (#[.int .i64 0, .float .f32 0, .int .i16 0, .float .f32 0, .int .i64 0] : Array Value) = dt 0 0 0 0 0 := rfl
theorem dt_0 (c : Int) (y : Nat) (n : Int) (f : Nat) (t : Int) : (dt c y n f t)[0]? = some (.int .i64 c) := rfl
theorem dt_s0 (c : Int) (y : Nat) (n : Int) (f : Nat) (t : Int) (x : Int) : (dt c y n f t).setIfInBounds 0 (.int .i64 x) = dt x y n f t := rfl
theorem dt_1 (c : Int) (y : Nat) (n : Int) (f : Nat) (t : Int) : (dt c y n f t)[1]? = some (.float .f32 y) := rfl
theorem dt_s1 (c : Int) (y : Nat) (n : Int) (f : Nat) (t : Int) (x : Nat) : (dt c y n f t).setIfInBounds 1 (.float .f32 x) = dt c x n f t := rfl
theorem dt_2 (c : Int) (y : Nat) (n : Int) (f : Nat) (t : Int) : (dt c y n f t)[2]? = some (.int .i16 n) := rfl
theorem dt_s2 (c : Int) (y : Nat) (n : Int) (f : Nat) (t : Int) (x : Int) : (dt c y n f t).setIfInBounds 2 (.int .i16 x) = dt c y x f t := rfl
theorem dt_3 (c : Int) (y : Nat) (n : Int) (f : Nat) (t : Int) : (dt c y n f t)[3]? = some (.float .f32 f) := rfl
theorem dt_s3 (c : Int) (y : Nat) (n : Int) (f : Nat) (t : Int) (x : Nat) : (dt c y n f t).setIfInBounds 3 (.float .f32 x) = dt c y n x t := rfl
theorem dt_4 (c : Int) (y : Nat) (n : Int) (f : Nat) (t : Int) : (dt c y n f t)[4]? = some (.int .i64 t) := rfl
theorem dt_s4 (c : Int) (y : Nat) (n : Int) (f : Nat) (t : Int) (x : Int) : (dt c y n f t).setIfInBounds 4 (.int .i64 x) = dt c y n f x := rfl
theorem dt_sz (c : Int) : (#[.int .i64 0, .float .f32 0, .int .i16 0, .float .f32 0, .int .i64 0] : Array Value).setIfInBounds 0 (.int .i64 c) = dt c 0 0 0 0 := rfl
end Go.Proofs.Ytopjikgkoodbmab
