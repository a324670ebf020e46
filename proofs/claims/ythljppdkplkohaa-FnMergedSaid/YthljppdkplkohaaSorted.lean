/-
  CONTRACTS: slices.Sort of three numbers.
-/
import Derived.Test.YthljppdkplkohaaSort3
namespace Go.Proofs.Ythljppdkplkohaa
open Go Go.RowKit
set_option maxRecDepth 100000

theorem len64_3 (w : World) : Calls Try.prog 48 #[.int .u64 3] w (Rd (.int .i64 2) w) := by
  go_enter Try.func48, Try.ntmps48
  go_wp2
  go_ret
  exact ⟨by kernel_rfl, 0, rfl⟩
theorem len_3 (w : World) : Calls Try.prog 33 #[.int .u64 3] w (Rd (.int .i64 2) w) := by
  go_enter Try.func33, Try.ntmps33
  go_wp2_with fail
  refine (len64_3 _).mono ?_
  rintro e w1 ⟨rfl, n1, rfl⟩
  go_wp2_with fail
  go_ret
  exact Rd.mkN
set_option maxHeartbeats 1000000 in
theorem pdq_any (g : Nat) (L : List Nat) (hL : L.length = 3) (hN : Nums L) (T : TypeId) (w : World) (hA : At w g (fl L) T) :
    Calls Try.prog 32 #[.slice (some ⟨g, 0, none⟩) 3 3, .int .i64 0, .int .i64 3, .int .i64 2] w fun e w' => e = .returned (.tuple #[]) ∧ At w' g (fl (srt L)) T ∧ Below g w w' := by
  go_enter Try.func32, Try.ntmps32
  go_wp2
  go_loopw [1, 2] (fun a b wr => a = .int .i64 0 ∧ b = .int .i64 3 ∧ wr = w) (fun _ _ _ => 0)
  case atStart => exact ⟨rfl, rfl, rfl⟩
  case round =>
    obtain ⟨rfl, rfl, rfl⟩ := hrel
    go_wp2_with fail
    refine (insertionSort_any g L hL hN T _ hA).mono ?_
    rintro e w1 ⟨rfl, hA1, hb1⟩
    go_wp2_with fail
    exact bodyPost_ret (results_none rfl _ _ _) rfl ⟨rfl, hA1, hb1⟩
theorem Sort_any (g : Nat) (L : List Nat) (hL : L.length = 3) (hN : Nums L) (T : TypeId) (w : World) (hA : At w g (fl L) T) :
    Calls Try.prog 20 #[.slice (some ⟨g, 0, none⟩) 3 3] w fun e w' => e = .returned (.tuple #[]) ∧ At w' g (fl (srt L)) T ∧ Below g w w' := by
  go_enter Try.func20, Try.ntmps20
  go_wp2_with fail
  refine (len_3 _).mono ?_
  rintro e w1 ⟨rfl, n1, rfl⟩
  go_wp2_with fail
  refine (pdq_any g L hL hN T _ (hA.drewN n1)).mono ?_
  rintro e w2 ⟨rfl, hA2, hb2⟩
  go_wp2_with fail
  go_end0
  exact ⟨rfl, hA2, (bdrew (Below.refl g w) n1).trans hb2⟩

end Go.Proofs.Ythljppdkplkohaa
