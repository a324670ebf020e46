/-
  CONTRACTS: a number many times.
-/
import Derived.Test.YtkaghfoaicbngaaIter
namespace Go.Proofs.Ytkaghfoaicbngaa
open Go Go.RowKit
set_option maxRecDepth 100000

theorem repeated_any (a n : Nat) (hn : n ≤ 400) (w : World) :
    Calls Try.prog 57 #[.float .f32 a, .int .i64 n] w fun e w' => e = .returned (.slice (some ⟨w.heap.size, 0, none⟩) n n) ∧ w'.heap.size = w.heap.size + 1 ∧ At w' w.heap.size (fl (List.replicate 400 a)) 94 ∧ Below w.heap.size w w' := by
  have A0 : At (w.alloc (.cells (fl (zeros 400)) 94)) w.heap.size (fl (zeros 400)) 94 := At.new w _ _
  have B0 := Lib.hid (b0 w (.cells (fl (zeros 400)) 94))
  have S0 : (w.alloc (.cells (fl (zeros 400)) 94)).heap.size = w.heap.size + 1 := World.size_alloc _ _
  go_enter Try.func57, Try.ntmps57
  go_wp2
  have BB0 := B0
  go_loopw [7] (fun i wr => ∃ k : Nat, k ≤ 400 ∧ i = .int .i64 k ∧ At wr w.heap.size (fl (mixTo (List.replicate 400 a) (zeros 400) k)) 94 ∧ wr.heap.size = w.heap.size + 1 ∧ Hid (Below w.heap.size w wr)) (fun i _ => 400 - (intOf i).toNat)
  case atStart => exact ⟨0, by omega, rfl, by rw [mixTo_zero]; exact A0, S0, BB0⟩
  case round =>
    obtain ⟨k, hk, rfl, A4, S4, B4⟩ := hrel
    clear A0 S0 B0 BB0
    have hr := List.length_replicate (n := 400) (a := a)
    have hM := mixTo_len hr (zeros_len 400) hk
    by_cases hlt : k < 400
    · have hki : (k : Int) < 400 := by omega
      have s2 : IntKind.i64.wrap ((k : Int) + 1) = (k : Int) + 1 := IntWalk.i64_in _ (by omega)
      have G := run_store_one (P := Try.prog) wr w.heap.size k 94 (fl (mixTo (List.replicate 400 a) (zeros 400) k)) (.float .f32 a) A4 (by rw [fl_size, hM]; omega) rfl
      have ea : nth (List.replicate 400 a) k = a := by unfold nth; rw [List.getD_eq_getElem?_getD, List.getElem?_replicate, if_pos hlt]; rfl
      have e1 : ((mixTo (List.replicate 400 a) (zeros 400) k).set k a) = mixTo (List.replicate 400 a) (zeros 400) (k + 1) := by rw [← mixTo_set hr (zeros_len 400) hlt, ea]
      rw [fl_set, e1] at G
      have A6 := A4.setRow (fl (mixTo (List.replicate 400 a) (zeros 400) (k + 1)))
      have S6 : (wr.setRow w.heap.size (fl (mixTo (List.replicate 400 a) (zeros 400) (k + 1)))).heap.size = w.heap.size + 1 := by simpa using S4
      have B6 := Lib.hid (bset B4.out (g := w.heap.size) (Nat.le_refl _) (fl (mixTo (List.replicate 400 a) (zeros 400) (k + 1))))
      clear A4 S4 B4 hM hr ea e1
      go_wp2
      exact ⟨⟨k + 1, by omega, by go_num, A6, S6, B6⟩, by simp [intOf]; omega⟩
    · obtain rfl : k = 400 := by omega
      rw [mixTo_all hr (zeros_len 400)] at A4
      clear hM hr
      have hn0 : (0 : Int) ≤ (n : Int) := by omega
      have hn4 : (n : Int) ≤ ((Try.prog.arrayLen 94 : Nat) : Int) := by rw [show Try.prog.arrayLen 94 = 400 by kernel_rfl]; omega
      have hsl : ∀ w', (Instr.sliceAt 94 (.pointer (some ⟨w.heap.size, 0, none⟩)) none (some (.int .i64 n)) (some (.int .i64 n))).run Try.prog w' = .ok (.slice (some ⟨w.heap.size, 0, none⟩) n n) w' := fun w' => by
        rw [run_sliceAt_array_hm w' 94 ⟨w.heap.size, 0, none⟩ (by kernel_rfl) .i64 .i64 n n hn0 (Int.le_refl _) hn4]
        rw [show (sizeOf (Try.prog.elem 94)).run Try.prog w' = .ok 1 w' by kernel_rfl]
        simp only [Result.andThen, slicedAt, Int.toNat_natCast, Nat.sub_zero]
        by_cases h0 : n = 0
        · subst h0; rfl
        · rw [if_neg h0]; rfl
      go_wp2
      go_ret
      exact ⟨rfl, S4, A4, B4.out⟩
end Go.Proofs.Ytkaghfoaicbngaa
