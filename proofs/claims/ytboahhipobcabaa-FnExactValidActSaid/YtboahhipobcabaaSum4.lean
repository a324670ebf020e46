/-
  CONTRACTS: SumOfFour.
-/
import Derived.Test.YtboahhipobcabaaNan
namespace Go.Proofs.Ytboahhipobcabaa
open Go Go.RowKit
set_option maxRecDepth 100000

theorem SumOfFour_any (xs : List Nat) (hl : xs.length = 4) (w : World) :
    Calls Try.prog 156 #[.agg (fl xs)] w fun e w' => ∃ v, e = .returned (.float .f32 v) ∧ Sum4 (nth xs 0) (nth xs 1) (nth xs 2) (nth xs 3) v ∧ Below w.heap.size w w' := by
  obtain ⟨y, n1, e1, r1⟩ := run_add_any (P := Try.prog) 26 (nth xs 0) (nth xs 1) (w.alloc (.cells (fl xs) 70))
  obtain ⟨z, n2, e2, r2⟩ := run_add_any (P := Try.prog) 26 y (nth xs 2) ((w.alloc (.cells (fl xs) 70)).drewN n1)
  obtain ⟨v, n3, e3, r3⟩ := run_add_any (P := Try.prog) 26 z (nth xs 3) ((w.alloc (.cells (fl xs) 70)).drewN (n1 + n2))
  have A0 := At.new w (fl xs) 70
  have c0 := A0.cell (fl_get (xs := xs) (k := 0) (by omega))
  have c1 := A0.cell (fl_get (xs := xs) (k := 1) (by omega))
  have c2 := (A0.drewN n1).cell (fl_get (xs := xs) (k := 2) (by omega))
  have c3 := (A0.drewN (n1 + n2)).cell (fl_get (xs := xs) (k := 3) (by omega))
  go_enter Try.func156, Try.ntmps156
  go_wp2
  go_ret
  exact ⟨v, rfl, ⟨y, z, r1, r2, r3⟩, bdrew (b0 _ _) _⟩

/-- two numbers that agree, made wide -/
theorem wide_agr {x : Nat} (hx : x < 4294967296) (w : World) : ∃ X n, (convert 26 87 (.float .f32 x)).run Try.prog w = .ok (.float .f64 X) (w.drewN n) ∧ (nanB x = true → X < 18446744073709551616 ∧ 9218868437227405312 < X % 9223372036854775808) ∧ (nanB x = false → X = wideB x) := by
  cases h : nanB x
  · exact ⟨_, 0, wide_at hx h w, fun k => by simp at k, fun _ => rfl⟩
  · exact ⟨_, 1, wide_nan_at hx h w, fun _ => tapeNan64 w x, fun k => by simp at k⟩
theorem sameFloat_agr {x y X Y : Nat} (h : Agr x y) (hX : (nanB x = true → X < 18446744073709551616 ∧ 9218868437227405312 < X % 9223372036854775808) ∧ (nanB x = false → X = wideB x))
    (hY : (nanB y = true → Y < 18446744073709551616 ∧ 9218868437227405312 < Y % 9223372036854775808) ∧ (nanB y = false → Y = wideB y)) (w : World) :
    Calls Try.prog 39 #[.float .f64 X, .float .f64 Y] w fun e w' => e = .returned (.bool true) ∧ w = w' := by
  rcases h.2.2 with ⟨n1, n2⟩ | ⟨n1, rfl⟩
  · exact sameFloat_nan (hX.1 n1).1 (hX.1 n1).2 (hY.1 n2).1 (hY.1 n2).2 w
  · rw [hX.2 n1, hY.2 n1]; exact sameFloat_same _ h.1 n1 w
theorem Agr.symm {x y : Nat} (h : Agr x y) : Agr y x := ⟨h.2.1, h.1, h.2.2.imp (fun h => ⟨h.2, h.1⟩) fun ⟨h1, h2⟩ => by subst h2; exact ⟨h1, rfl⟩⟩
end Go.Proofs.Ytboahhipobcabaa
