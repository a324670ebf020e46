/-
  CONTRACTS: the number of a phase.
-/
import Derived.Test.YtboahhipobcababToTab
import Derived.Test.YtboahhipobcababConf
namespace Go.Proofs.Ytboahhipobcabab
open Go Go.ChangeShapes Go.WideShapes Go.ChangeAt Go.RowKit
set_option maxRecDepth 100000

theorem two_pow (k : Nat) : (2 : Int) ^ k = ((2 ^ k : Nat) : Int) := by simp
theorem shl_sum (k m : Nat) (h : k < 8) (hm : m + 2 ^ k < 256) : Value.int .i64 (RowKit.wrap64 ((m : Int) + RowKit.wrap64 (2 ^ k))) = .int .i64 ((m + 2 ^ k : Nat) : Int) := by
  rw [two_pow]
  generalize 2 ^ k = p at hm ⊢
  rw [IntWalk.wrap64_in (p : Int) (by omega), IntWalk.wrap64_in _ (by omega)]
  simp

theorem NumberOfPhase_any (bs : List Bool) (hl : bs.length = 8) (w : World) :
    Calls Try.prog 51 #[.agg (bl bs)] w fun e w' => e = .returned (.int .i64 (numB bs : Nat)) ∧ Below w.heap.size w w' := by
  have A0 := At.new w (bl bs) 69
  have SZ : (bl bs).size = 8 := by rw [bl_size, hl]
  have B0 := Lib.hid (b0 w (.cells (bl bs) 69))
  go_enter Try.func51, Try.ntmps51
  go_wp2_with (((with_reducible refine is_load 69 _ rfl ?_); refine wpList_load_at rfl 69 _ rfl _ rfl (bl bs) _ (by assumption) 8 (SZ) _ Try.underlying69 rfl (by kernel_rfl) ?_))
  go_loopw [3, 7] (fun n i wr => ∃ k m : Nat, k ≤ 8 ∧ i = .int .i64 k ∧ n = .int .i64 m ∧ Hid (m = numTo bs k) ∧ m < 256 ∧ wr = w.alloc (.cells (bl bs) 69)) (fun _ i _ => 8 - (intOf i).toNat)
  case atStart => exact ⟨0, 0, by omega, rfl, rfl, Lib.hid rfl, by omega, rfl⟩
  case round =>
    obtain ⟨k, m, hk, rfl, rfl, hm, hm2, rfl⟩ := hrel
    by_cases hlt : k < 8
    · have hi : ∀ W, (Instr.index 69 (.agg (bl bs)) (.int .i64 k)).run Try.prog W = .ok (.bool (bn bs k)) W := fun W =>
        run_index_bl W 69 4 8 bs k Try.underlying69 Try.underlying4 (by kernel_rfl) hlt hl.symm
      have s2 : IntKind.i64.wrap ((k : Int) + 1) = (k : Int) + 1 := IntWalk.i64_in _ (by omega)
      cases hb : bn bs k
      · rw [hb] at hi
        have hmn := Lib.hid (numTo_n hb)
        have hlt8 := numTo_lt8 bs (k := k + 1) (by omega)
        clear hb
        go_wp2
        exact ⟨⟨k + 1, m, by omega, by go_num, rfl, Lib.hid (by rw [hmn.out]; exact hm.out), hm2, by first | rfl | trivial⟩, by simp [intOf]; omega⟩
      · rw [hb] at hi
        have hmn := Lib.hid (numTo_y hb)
        have hlt8 := numTo_lt8 bs (k := k + 1) (by omega)
        have hpw := pow_lt8 hlt
        clear hb
        rw [hmn.out, ← hm.out] at hlt8
        clear hpw
        go_wp2
        exact ⟨⟨k + 1, m + 2 ^ k, by omega, by go_num, shl_sum k m hlt hlt8, Lib.hid (by rw [hmn.out, hm.out]), hlt8, by first | rfl | trivial⟩, by simp [intOf]; omega⟩
    · obtain rfl : k = 8 := by omega
      go_wp2
      go_ret
      exact ⟨by rw [hm.out]; rfl, B0.out⟩

theorem sNumberOfPhase_any (bs : List Bool) (hl : bs.length = 8) (w : World) :
    Calls Try.prog 84 #[.agg (bl bs)] w fun e w' => e = .returned (.int .i64 (numB bs : Nat)) ∧ Below w.heap.size w w' := by
  have B0 := Lib.hid (b0 w (.cells (bl bs) 69))
  go_enter Try.func84, Try.ntmps84
  go_wp2
  go_loopw [3, 4] (fun n i wr => ∃ k m : Nat, k ≤ 8 ∧ i = .int .i64 k ∧ n = .int .i64 m ∧ Hid (m = numTo bs k) ∧ m < 256 ∧ wr = w.alloc (.cells (bl bs) 69)) (fun _ i _ => 8 - (intOf i).toNat)
  case atStart => exact ⟨0, 0, by omega, rfl, rfl, Lib.hid rfl, by omega, rfl⟩
  case round =>
    obtain ⟨k, m, hk, rfl, rfl, hm, hm2, rfl⟩ := hrel
    by_cases hlt : k < 8
    · have hi := bl_get (bs := bs) (k := k) (by omega)
      have s2 : IntKind.i64.wrap ((k : Int) + 1) = (k : Int) + 1 := IntWalk.i64_in _ (by omega)
      cases hb : bn bs k
      · rw [hb] at hi
        have hmn := Lib.hid (numTo_n hb)
        clear hb
        go_wp2
        exact ⟨⟨k + 1, m, by omega, by go_num, rfl, Lib.hid (by rw [hmn.out]; exact hm.out), hm2, by first | rfl | trivial⟩, by simp [intOf]; omega⟩
      · rw [hb] at hi
        have hmn := Lib.hid (numTo_y hb)
        have hlt8 := numTo_lt8 bs (k := k + 1) (by omega)
        have hpw := pow_lt8 hlt
        clear hb
        rw [hmn.out, ← hm.out] at hlt8
        clear hpw
        go_wp2
        exact ⟨⟨k + 1, m + 2 ^ k, by omega, by go_num, shl_sum k m hlt hlt8, Lib.hid (by rw [hmn.out, hm.out]), hlt8, by first | rfl | trivial⟩, by simp [intOf]; omega⟩
    · obtain rfl : k = 8 := by omega
      go_wp2
      go_ret
      exact ⟨by rw [hm.out]; rfl, B0.out⟩

end Go.Proofs.Ytboahhipobcabab
