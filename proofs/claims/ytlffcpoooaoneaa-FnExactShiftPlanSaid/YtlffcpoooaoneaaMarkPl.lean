/-
  CONTRACTS: plans, marked and held.
-/
import Derived.Test.YtlffcpoooaoneaaHeldSl
namespace Go.Proofs.Ytlffcpoooaoneaa
open Go Go.ChangeShapes Go.WideShapes Go.ChangeAt Go.RowKit
set_option maxRecDepth 100000

theorem markPlan_of (a : Option Addr) (n c : Nat) (b o M : Int) (R : World → Prop) (w : World)
    (H : Calls Try.prog 107 #[.slice a n c, .int .i64 1] (w.alloc (.cells (plC (.slice a n c) b o) 58)) fun e w' => e = .returned (.int .i64 M) ∧ R w') :
    Calls Try.prog 36 #[.agg (plC (.slice a n c) b o), .int .i64 1] w fun e w' => e = .returned (.int .i64 M) ∧ R w' := by
  have A0 := At.new w (plC (.slice a n c) b o) 58
  go_enter Try.func36, Try.ntmps36
  go_wp2_with (((with_reducible refine is_load 56 _ rfl ?_); refine wpList_load_cell rfl 56 _ rfl _ 0 rfl (plC (.slice a n c) b o) _ (by with_reducible assumption) _ Try.underlying56 rfl (.slice a n c) (plC_0 _ _ _) ?_))
  refine H.mono ?_
  rintro e w1 ⟨rfl, h⟩
  go_wp2_with fail
  go_ret
  exact ⟨rfl, h⟩
theorem heldPlan_of (a : Option Addr) (n c : Nat) (b o M : Int) (hM : 0 ≤ M) (R : World → Prop) (w : World)
    (H : Calls Try.prog 108 #[.slice a n c, .int .i64 1] (w.alloc (.cells (plC (.slice a n c) b o) 58)) fun e w' => e = .returned (.int .i64 M) ∧ R w') :
    Calls Try.prog 37 #[.agg (plC (.slice a n c) b o), .int .i64 1] w fun e w' => e = .returned (.int .i64 M) ∧ R w' := by
  have A0 := At.new w (plC (.slice a n c) b o) 58
  have hM' : ¬ M < 0 := by omega
  go_enter Try.func37, Try.ntmps37
  go_wp2_with (((with_reducible refine is_load 56 _ rfl ?_); refine wpList_load_cell rfl 56 _ rfl _ 0 rfl (plC (.slice a n c) b o) _ (by with_reducible assumption) _ Try.underlying56 rfl (.slice a n c) (plC_0 _ _ _) ?_))
  refine H.mono ?_
  rintro e w1 ⟨rfl, h⟩
  go_wp2_with fail
  go_ret
  exact ⟨rfl, h⟩

end Go.Proofs.Ytlffcpoooaoneaa
