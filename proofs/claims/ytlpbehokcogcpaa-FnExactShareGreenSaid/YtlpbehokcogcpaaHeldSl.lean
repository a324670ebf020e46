/-
  CONTRACTS: slices of slots, their marks read back.
-/
import Derived.Test.YtlpbehokcogcpaaMarkSl
namespace Go.Proofs.Ytlpbehokcogcpaa
open Go Go.ChangeShapes Go.WideShapes Go.ChangeAt Go.RowKit
set_option maxRecDepth 100000

set_option maxHeartbeats 1000000 in
theorem heldSl_any (g n cap : Nat) (hn : n ≤ 1048576) (w : World) (hc : ∀ p, p < n * 9 → w.cell? ⟨g, p, none⟩ = some (mkS p)) :
    Calls Try.prog 32 #[.slice (some ⟨g, 0, none⟩) n cap, .int .i64 1] w fun e w' => e = .returned (.int .i64 ((n : Int) * 9 + 1)) ∧ w' = w := by
  have HC := Lib.hid hc
  clear hc
  go_enter Try.func32, Try.ntmps32
  go_wp2
  go_loopw [1, 5] (fun s i wr => ∃ k : Nat, ∃ m : Int, k ≤ n ∧ i = .int .i64 (k : Int) ∧ s = .int .i64 m ∧ Hid (m = (k : Int) * 9 + 1) ∧ wr = w) (fun _ i _ => n - (intOf i).toNat)
  case atStart => exact ⟨0, 1, by omega, rfl, rfl, Lib.hid rfl, rfl⟩
  case round =>
    obtain ⟨k, m, hk, rfl, rfl, hm, rfl⟩ := hrel
    by_cases hlt : k < n
    · have s2 : IntKind.i64.wrap ((k : Int) + 1) = (k : Int) + 1 := IntWalk.i64_in _ (by omega)
      have kd : (k : Int) < (n : Int) := by omega
      have M0 := hm
      go_wp2
      go_loopw [1, 6] (fun s j wq => ∃ q : Nat, ∃ m : Int, q ≤ 8 ∧ j = .int .i64 (q : Int) ∧ s = .int .i64 m ∧ Hid (m = (k : Int) * 9 + (q : Int) + 1) ∧ wq = wr) (fun _ j _ => 8 - (intOf j).toNat)
      case atStart => exact ⟨0, m, by omega, rfl, rfl, Lib.hid (by have := M0.out; omega), rfl⟩
      case round =>
        clear M0 hm
        obtain ⟨q, m, hq, rfl, rfl, hm, rfl⟩ := hrel
        have hmo := hm.out
        have s3 : IntKind.i64.wrap (m + 1) = m + 1 := IntWalk.i64_in _ (by omega)
        by_cases hql : q < 8
        · have s4 : IntKind.i64.wrap ((q : Int) + 1) = (q : Int) + 1 := IntWalk.i64_in _ (by omega)
          have qd : (q : Int) < 8 := by omega
          have c0 := HC.out (k * 9 + q) (by omega)
          rw [mkS_b (m := m) (by omega) (by omega)] at c0
          have hm2 := Lib.hid (show m + 1 = (k : Int) * 9 + ((q + 1 : Nat) : Int) + 1 from by omega)
          clear hmo hm
          go_wp2
          exact ⟨⟨q + 1, m + 1, by omega, by go_num, rfl, hm2, by trivial⟩, by simp [intOf]; omega⟩
        · obtain rfl : q = 8 := by omega
          have c0 := HC.out (k * 9 + 8) (by omega)
          rw [mkS_8 (m := m) (by omega) (by omega)] at c0
          have hm2 := Lib.hid (show m + 1 = ((k + 1 : Nat) : Int) * 9 + 1 from by omega)
          clear hmo hm
          go_wp2
          exact ⟨⟨k + 1, m + 1, by omega, by go_num, rfl, hm2, by trivial⟩, by simp [intOf]; omega⟩
    · obtain rfl : n = k := by omega
      go_wp2
      go_ret
      exact ⟨by rw [hm.out]; rfl, by trivial⟩

theorem heldSl_none (a : Option Addr) (cap : Nat) (w : World) :
    Calls Try.prog 32 #[.slice a 0 cap, .int .i64 1] w fun e w' => e = .returned (.int .i64 1) ∧ w' = w := by
  go_enter Try.func32, Try.ntmps32
  go_wp2
  go_loopw [1, 5] (fun s i wr => s = .int .i64 1 ∧ i = .int .i64 0 ∧ wr = w) (fun _ _ _ => 0)
  case atStart => exact ⟨rfl, rfl, rfl⟩
  case round =>
    obtain ⟨rfl, rfl, rfl⟩ := hrel
    go_wp2
    go_ret
    exact ⟨rfl, rfl⟩

/-- slots of one's own are marked, and the marks are read back, now and later, as long as their block stays -/
theorem OwnSl.marks {w : World} {lo : Nat} {v : Value} {xs : Slots} (h : OwnSl w lo v xs) (hn : xs.length ≤ 1048576) :
    ∃ M : Int, 0 ≤ M ∧ Calls Try.prog 31 #[v, .int .i64 1] w fun e w' => e = .returned (.int .i64 M) ∧ Below lo w w' ∧ w'.heap.size = w.heap.size ∧ (∀ k, v.ownBlock ≠ some k → w'.heap[k]? = w.heap[k]?) ∧
      ∀ w2, Below w'.heap.size w' w2 → Calls Try.prog 32 #[v, .int .i64 1] w2 fun e w3 => e = .returned (.int .i64 M) ∧ w3 = w2 := by
  by_cases z : xs.length = 0
  · obtain ⟨a, cap, rfl⟩ := h.any
    rw [z]
    refine ⟨1, by omega, (markSl_none a cap w).mono ?_⟩
    rintro e w' ⟨rfl, rfl⟩
    exact ⟨rfl, Below.refl _ _, rfl, fun _ _ => rfl, fun w2 _ => heldSl_none a cap w2⟩
  · obtain ⟨g, cap, cur, rfl, hg, hA, hcap, hsz, -⟩ := h.at z
    refine ⟨(xs.length : Int) * 9 + 1, by omega, (markSl_any g xs.length cap cur 49 hn hsz w hA).mono ?_⟩
    rintro e w' ⟨rfl, rfl⟩
    have hA' := hA.setRow (msR cur (xs.length * 9))
    refine ⟨rfl, Below.setRow (Below.refl _ _) hg _, by simp [World.setRow], fun k hk => heap_setRow_other _ _ _ _ (fun e => hk (by subst e; rfl)), fun w2 hb => heldSl_any g xs.length cap hn w2 (fun p hp => ?_)⟩
    exact (hA'.step hb).cell (msR_get cur _ p hp (by omega))

end Go.Proofs.Ytlpbehokcogcpaa
