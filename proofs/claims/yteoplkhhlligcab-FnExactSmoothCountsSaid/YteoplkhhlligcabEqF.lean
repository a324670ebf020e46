/-
  CONTRACTS: slices of floats of one's own, held against each other.
-/
import Derived.Test.YteoplkhhlligcabOwnF
import Derived.Test.YteoplkhhlligcabEq
namespace Go.Proofs.Yteoplkhhlligcab
open Go Go.ChangeShapes Go.WideShapes Go.ChangeAt Go.RowKit
set_option maxRecDepth 100000

theorem eqF_own (v1 v2 : Value) (ys : List Nat) (lo1 lo2 : Nat) (hx : ∀ x ∈ ys, x < 2139095040) (hn : ys.length ≤ 1048576) (w : World) (h1 : OwnF w lo1 v1 ys) (h2 : OwnF w lo2 v2 ys) :
    Calls Try.prog 17 #[v1, v2] w fun e w' => e = .returned (.bool true) ∧ Below w.heap.size w w' := by
  by_cases z : ys.length = 0
  · obtain ⟨a1, c1, rfl⟩ := h1.any
    obtain ⟨a2, c2, rfl⟩ := h2.any
    rw [z]
    clear h1 h2
    go_enter Try.func17, Try.ntmps17
    go_wp2
    go_loopw [5] (fun i wr => i = .int .i64 0 ∧ wr = w) (fun _ _ => 0)
    case atStart => exact ⟨rfl, rfl⟩
    case round =>
      obtain ⟨rfl, rfl⟩ := hrel
      go_wp2
      go_ret
      exact ⟨rfl, Below.refl _ _⟩
  · obtain ⟨g1, cap1, cur1, rfl, -, A1, -, -, hc1⟩ := h1.at z
    obtain ⟨g2, cap2, cur2, rfl, -, A2, -, -, hc2⟩ := h2.at z
    have HL := Lib.hid (And.intro (And.intro A1 hc1) (And.intro A2 hc2))
    have HX := Lib.hid hx
    clear h1 h2 A1 A2 hc1 hc2 hx
    obtain ⟨n, hnn⟩ : ∃ n, n = ys.length := ⟨_, rfl⟩
    rw [← hnn] at hn z ⊢
    have HN := Lib.hid hnn
    clear hnn
    go_enter Try.func17, Try.ntmps17
    go_wp2
    go_loopw [5] (fun i wr => ∃ k : Nat, k ≤ n ∧ i = .int .i64 (k : Int) ∧ Hid (Below w.heap.size w wr)) (fun i _ => n - (intOf i).toNat)
    case atStart => exact ⟨0, by omega, rfl, Lib.hid (Below.refl _ _)⟩
    case round =>
      obtain ⟨k, hk, rfl, B1⟩ := hrel
      by_cases hlt : k < n
      · have s2 : IntKind.i64.wrap ((k : Int) + 1) = (k : Int) + 1 := IntWalk.i64_in _ (by omega)
        have kd : (k : Int) < (n : Int) := by omega
        have hkl : k < ys.length := by rw [← HN.out]; exact hlt
        have q1 := (HL.out.1.1.step B1.out).cell (HL.out.1.2 k hkl)
        have q2 := (HL.out.2.1.step B1.out).cell (HL.out.2.2 k hkl)
        have hxk : nth ys k < 2139095040 := HX.out _ (nth_mem hkl)
        obtain ⟨hx1, hx2⟩ := nan_le (c := 2139095040) (Nat.le_of_lt hxk) (Nat.le_refl _)
        have hw := wide_at hx1 hx2
        clear hkl hxk
        go_wp2
        go_quiet ((go_at_call 65; exact Calls.quiet_of (sameFloat_rd _ hx1 hx2 _)))
        go_wp2
        exact ⟨⟨k + 1, by omega, by go_num, Lib.hid (bdrew B1.out _)⟩, by simp [intOf]; omega⟩
      · obtain rfl : n = k := by omega
        go_wp2
        go_ret
        exact ⟨rfl, B1.out⟩

end Go.Proofs.Yteoplkhhlligcab
