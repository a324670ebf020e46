/-
  CONTRACTS: which of an act's parts its form has.
-/
import Derived.Test.YtboahhipobcabaaNum
namespace Go.Proofs.Ytboahhipobcabaa
open Go Go.RowKit
set_option maxRecDepth 100000

theorem upon_eq {P : Program} {o : Oper} {a : Act} {K : Act → World → Prop} {Q : Exit → Act → World → Prop} {r r' : Result Next} (h : r = r') (H : Oper.upon P o a K Q r') : Oper.upon P o a K Q r := by
  rw [h]; exact H

theorem cont_1A (w : World) : Calls Try.prog 56 #[.string ⟨#[111, 102, 102, 101, 114, 32, 65, 32, 70]⟩, .string ⟨#[65]⟩] w fun e w' => e = .returned (.bool true) ∧ w' = w := by
  go_enter Try.func56, Try.ntmps56
  go_wp2
  refine upon_eq (r' := Result.ok (Next.value (.int .i64 (6))) w) (by kernel_rfl) ?_
  go_wp2
  go_ret
  exact ⟨rfl, rfl⟩

theorem cont_1B (w : World) : Calls Try.prog 56 #[.string ⟨#[111, 102, 102, 101, 114, 32, 65, 32, 70]⟩, .string ⟨#[66]⟩] w fun e w' => e = .returned (.bool false) ∧ w' = w := by
  go_enter Try.func56, Try.ntmps56
  go_wp2
  refine upon_eq (r' := Result.ok (Next.value (.int .i64 (-1))) w) (by kernel_rfl) ?_
  go_wp2
  go_ret
  exact ⟨rfl, rfl⟩

theorem cont_1C (w : World) : Calls Try.prog 56 #[.string ⟨#[111, 102, 102, 101, 114, 32, 65, 32, 70]⟩, .string ⟨#[67]⟩] w fun e w' => e = .returned (.bool false) ∧ w' = w := by
  go_enter Try.func56, Try.ntmps56
  go_wp2
  refine upon_eq (r' := Result.ok (Next.value (.int .i64 (-1))) w) (by kernel_rfl) ?_
  go_wp2
  go_ret
  exact ⟨rfl, rfl⟩

theorem cont_1F (w : World) : Calls Try.prog 56 #[.string ⟨#[111, 102, 102, 101, 114, 32, 65, 32, 70]⟩, .string ⟨#[70]⟩] w fun e w' => e = .returned (.bool true) ∧ w' = w := by
  go_enter Try.func56, Try.ntmps56
  go_wp2
  refine upon_eq (r' := Result.ok (Next.value (.int .i64 (8))) w) (by kernel_rfl) ?_
  go_wp2
  go_ret
  exact ⟨rfl, rfl⟩

theorem cont_2A (w : World) : Calls Try.prog 56 #[.string ⟨#[98, 108, 111, 99, 107, 32, 65, 32, 66, 32, 70]⟩, .string ⟨#[65]⟩] w fun e w' => e = .returned (.bool true) ∧ w' = w := by
  go_enter Try.func56, Try.ntmps56
  go_wp2
  refine upon_eq (r' := Result.ok (Next.value (.int .i64 (6))) w) (by kernel_rfl) ?_
  go_wp2
  go_ret
  exact ⟨rfl, rfl⟩

theorem cont_2B (w : World) : Calls Try.prog 56 #[.string ⟨#[98, 108, 111, 99, 107, 32, 65, 32, 66, 32, 70]⟩, .string ⟨#[66]⟩] w fun e w' => e = .returned (.bool true) ∧ w' = w := by
  go_enter Try.func56, Try.ntmps56
  go_wp2
  refine upon_eq (r' := Result.ok (Next.value (.int .i64 (8))) w) (by kernel_rfl) ?_
  go_wp2
  go_ret
  exact ⟨rfl, rfl⟩

theorem cont_2C (w : World) : Calls Try.prog 56 #[.string ⟨#[98, 108, 111, 99, 107, 32, 65, 32, 66, 32, 70]⟩, .string ⟨#[67]⟩] w fun e w' => e = .returned (.bool false) ∧ w' = w := by
  go_enter Try.func56, Try.ntmps56
  go_wp2
  refine upon_eq (r' := Result.ok (Next.value (.int .i64 (-1))) w) (by kernel_rfl) ?_
  go_wp2
  go_ret
  exact ⟨rfl, rfl⟩

theorem cont_2F (w : World) : Calls Try.prog 56 #[.string ⟨#[98, 108, 111, 99, 107, 32, 65, 32, 66, 32, 70]⟩, .string ⟨#[70]⟩] w fun e w' => e = .returned (.bool true) ∧ w' = w := by
  go_enter Try.func56, Try.ntmps56
  go_wp2
  refine upon_eq (r' := Result.ok (Next.value (.int .i64 (10))) w) (by kernel_rfl) ?_
  go_wp2
  go_ret
  exact ⟨rfl, rfl⟩

theorem cont_3A (w : World) : Calls Try.prog 56 #[.string ⟨#[112, 108, 97, 110, 32, 65, 32, 66]⟩, .string ⟨#[65]⟩] w fun e w' => e = .returned (.bool true) ∧ w' = w := by
  go_enter Try.func56, Try.ntmps56
  go_wp2
  refine upon_eq (r' := Result.ok (Next.value (.int .i64 (5))) w) (by kernel_rfl) ?_
  go_wp2
  go_ret
  exact ⟨rfl, rfl⟩

theorem cont_3B (w : World) : Calls Try.prog 56 #[.string ⟨#[112, 108, 97, 110, 32, 65, 32, 66]⟩, .string ⟨#[66]⟩] w fun e w' => e = .returned (.bool true) ∧ w' = w := by
  go_enter Try.func56, Try.ntmps56
  go_wp2
  refine upon_eq (r' := Result.ok (Next.value (.int .i64 (7))) w) (by kernel_rfl) ?_
  go_wp2
  go_ret
  exact ⟨rfl, rfl⟩

theorem cont_3C (w : World) : Calls Try.prog 56 #[.string ⟨#[112, 108, 97, 110, 32, 65, 32, 66]⟩, .string ⟨#[67]⟩] w fun e w' => e = .returned (.bool false) ∧ w' = w := by
  go_enter Try.func56, Try.ntmps56
  go_wp2
  refine upon_eq (r' := Result.ok (Next.value (.int .i64 (-1))) w) (by kernel_rfl) ?_
  go_wp2
  go_ret
  exact ⟨rfl, rfl⟩

theorem cont_3F (w : World) : Calls Try.prog 56 #[.string ⟨#[112, 108, 97, 110, 32, 65, 32, 66]⟩, .string ⟨#[70]⟩] w fun e w' => e = .returned (.bool false) ∧ w' = w := by
  go_enter Try.func56, Try.ntmps56
  go_wp2
  refine upon_eq (r' := Result.ok (Next.value (.int .i64 (-1))) w) (by kernel_rfl) ?_
  go_wp2
  go_ret
  exact ⟨rfl, rfl⟩

theorem cont_4A (w : World) : Calls Try.prog 56 #[.string ⟨#[102, 114, 101, 101, 32, 65]⟩, .string ⟨#[65]⟩] w fun e w' => e = .returned (.bool true) ∧ w' = w := by
  go_enter Try.func56, Try.ntmps56
  go_wp2
  refine upon_eq (r' := Result.ok (Next.value (.int .i64 (5))) w) (by kernel_rfl) ?_
  go_wp2
  go_ret
  exact ⟨rfl, rfl⟩

theorem cont_4B (w : World) : Calls Try.prog 56 #[.string ⟨#[102, 114, 101, 101, 32, 65]⟩, .string ⟨#[66]⟩] w fun e w' => e = .returned (.bool false) ∧ w' = w := by
  go_enter Try.func56, Try.ntmps56
  go_wp2
  refine upon_eq (r' := Result.ok (Next.value (.int .i64 (-1))) w) (by kernel_rfl) ?_
  go_wp2
  go_ret
  exact ⟨rfl, rfl⟩

theorem cont_4C (w : World) : Calls Try.prog 56 #[.string ⟨#[102, 114, 101, 101, 32, 65]⟩, .string ⟨#[67]⟩] w fun e w' => e = .returned (.bool false) ∧ w' = w := by
  go_enter Try.func56, Try.ntmps56
  go_wp2
  refine upon_eq (r' := Result.ok (Next.value (.int .i64 (-1))) w) (by kernel_rfl) ?_
  go_wp2
  go_ret
  exact ⟨rfl, rfl⟩

theorem cont_4F (w : World) : Calls Try.prog 56 #[.string ⟨#[102, 114, 101, 101, 32, 65]⟩, .string ⟨#[70]⟩] w fun e w' => e = .returned (.bool false) ∧ w' = w := by
  go_enter Try.func56, Try.ntmps56
  go_wp2
  refine upon_eq (r' := Result.ok (Next.value (.int .i64 (-1))) w) (by kernel_rfl) ?_
  go_wp2
  go_ret
  exact ⟨rfl, rfl⟩

theorem cont_5A (w : World) : Calls Try.prog 56 #[.string ⟨#[116, 117, 114, 110, 32, 65, 32, 66, 32, 67, 32, 70]⟩, .string ⟨#[65]⟩] w fun e w' => e = .returned (.bool true) ∧ w' = w := by
  go_enter Try.func56, Try.ntmps56
  go_wp2
  refine upon_eq (r' := Result.ok (Next.value (.int .i64 (5))) w) (by kernel_rfl) ?_
  go_wp2
  go_ret
  exact ⟨rfl, rfl⟩

theorem cont_5B (w : World) : Calls Try.prog 56 #[.string ⟨#[116, 117, 114, 110, 32, 65, 32, 66, 32, 67, 32, 70]⟩, .string ⟨#[66]⟩] w fun e w' => e = .returned (.bool true) ∧ w' = w := by
  go_enter Try.func56, Try.ntmps56
  go_wp2
  refine upon_eq (r' := Result.ok (Next.value (.int .i64 (7))) w) (by kernel_rfl) ?_
  go_wp2
  go_ret
  exact ⟨rfl, rfl⟩

theorem cont_5C (w : World) : Calls Try.prog 56 #[.string ⟨#[116, 117, 114, 110, 32, 65, 32, 66, 32, 67, 32, 70]⟩, .string ⟨#[67]⟩] w fun e w' => e = .returned (.bool true) ∧ w' = w := by
  go_enter Try.func56, Try.ntmps56
  go_wp2
  refine upon_eq (r' := Result.ok (Next.value (.int .i64 (9))) w) (by kernel_rfl) ?_
  go_wp2
  go_ret
  exact ⟨rfl, rfl⟩

theorem cont_5F (w : World) : Calls Try.prog 56 #[.string ⟨#[116, 117, 114, 110, 32, 65, 32, 66, 32, 67, 32, 70]⟩, .string ⟨#[70]⟩] w fun e w' => e = .returned (.bool true) ∧ w' = w := by
  go_enter Try.func56, Try.ntmps56
  go_wp2
  refine upon_eq (r' := Result.ok (Next.value (.int .i64 (11))) w) (by kernel_rfl) ?_
  go_wp2
  go_ret
  exact ⟨rfl, rfl⟩

theorem cont_6A (w : World) : Calls Try.prog 56 #[.string ⟨#[119, 97, 105, 116, 32, 65]⟩, .string ⟨#[65]⟩] w fun e w' => e = .returned (.bool true) ∧ w' = w := by
  go_enter Try.func56, Try.ntmps56
  go_wp2
  refine upon_eq (r' := Result.ok (Next.value (.int .i64 (5))) w) (by kernel_rfl) ?_
  go_wp2
  go_ret
  exact ⟨rfl, rfl⟩

theorem cont_6B (w : World) : Calls Try.prog 56 #[.string ⟨#[119, 97, 105, 116, 32, 65]⟩, .string ⟨#[66]⟩] w fun e w' => e = .returned (.bool false) ∧ w' = w := by
  go_enter Try.func56, Try.ntmps56
  go_wp2
  refine upon_eq (r' := Result.ok (Next.value (.int .i64 (-1))) w) (by kernel_rfl) ?_
  go_wp2
  go_ret
  exact ⟨rfl, rfl⟩

theorem cont_6C (w : World) : Calls Try.prog 56 #[.string ⟨#[119, 97, 105, 116, 32, 65]⟩, .string ⟨#[67]⟩] w fun e w' => e = .returned (.bool false) ∧ w' = w := by
  go_enter Try.func56, Try.ntmps56
  go_wp2
  refine upon_eq (r' := Result.ok (Next.value (.int .i64 (-1))) w) (by kernel_rfl) ?_
  go_wp2
  go_ret
  exact ⟨rfl, rfl⟩

theorem cont_6F (w : World) : Calls Try.prog 56 #[.string ⟨#[119, 97, 105, 116, 32, 65]⟩, .string ⟨#[70]⟩] w fun e w' => e = .returned (.bool false) ∧ w' = w := by
  go_enter Try.func56, Try.ntmps56
  go_wp2
  refine upon_eq (r' := Result.ok (Next.value (.int .i64 (-1))) w) (by kernel_rfl) ?_
  go_wp2
  go_ret
  exact ⟨rfl, rfl⟩

end Go.Proofs.Ytboahhipobcabaa
