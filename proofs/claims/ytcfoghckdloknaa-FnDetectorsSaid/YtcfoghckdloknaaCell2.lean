/-
  CONTRACTS: cells: their codes.
-/
import Derived.Test.YtcfoghckdloknaaFlow
import Derived.Test.YtcfoghckdloknaaG1
namespace Go.Proofs.Ytcfoghckdloknaa
open Go Go.RowKit

theorem Below.drewN0 (w : World) (n : Nat) : Below w.heap.size w (w.drewN n) := below_drewN (Below.refl _ _) n

theorem l00In_any (k a b : Int) (w : World) : Calls Try.prog 44 #[.int .i64 k, .int .i64 a, .int .i64 b] w (Rd (.bool (decide (a ≤ k ∧ k ≤ b))) w) := by
  by_cases h : a ≤ k
  · by_cases h2 : k ≤ b
    · rw [decide_eq_true ⟨h, h2⟩]
      go_enter Try.func44, Try.ntmps44
      go_wp2
      go_ret
      exact Rd.mk0
    · rw [decide_eq_false (by omega)]
      go_enter Try.func44, Try.ntmps44
      go_wp2
      go_ret
      exact Rd.mk0
  · rw [decide_eq_false (by omega)]
    go_enter Try.func44, Try.ntmps44
    go_wp2
    go_ret
    exact Rd.mk0
/-- the code of a road and a cell -/
def atC (ok : Bool) (k last : Int) : Int := if ok then (if 0 ≤ k ∧ k ≤ last then 0 else 2) else 1

theorem l01At_any (g : Nat) (cs : List Nat) (p b l : Nat) (hl : cs.length = 16) (hc : ∀ x ∈ cs, x < 4294967296) (hp : p < 4294967296) (hb : b < 4294967296) (hla : l < 4294967296) (k last : Int) (w : World) (hr : RoadAt w g cs p b l) : Calls Try.prog 23 #[.pointer (some ⟨g, 0, none⟩), .int .i64 k, .int .i64 last] w (Rd (.int .i64 (atC (okB cs p b l) k last)) w) := by
  cases h : okB cs p b l
  · go_enter Try.func23, Try.ntmps23
    go_wp2_with fail
    refine (l01Ok_any _ cs p b l hl hc hp hb hla _ hr).mono ?_
    rintro e w1 ⟨rfl, n1, rfl⟩
    go_wp2_with fail
    go_ret
    exact Rd.mkN
  · by_cases c : 0 ≤ k ∧ k ≤ last
    · have e : atC true k last = 0 := by unfold atC; rw [if_pos rfl, if_pos c]
      have hd : decide (0 ≤ k ∧ k ≤ last) = true := decide_eq_true c
      rw [e]
      clear c e
      go_enter Try.func23, Try.ntmps23
      go_wp2_with fail
      refine (l01Ok_any _ cs p b l hl hc hp hb hla _ hr).mono ?_
      rintro e w1 ⟨rfl, n1, rfl⟩
      go_wp2_with fail
      refine (l00In_any k 0 last _).mono ?_
      rw [hd]
      clear hd
      rintro e w2 ⟨rfl, n2, rfl⟩
      go_wp2_with fail
      go_ret
      exact Rd.mkN
    · have e : atC true k last = 2 := by unfold atC; rw [if_pos rfl, if_neg c]
      have hd : decide (0 ≤ k ∧ k ≤ last) = false := decide_eq_false c
      rw [e]
      clear c e
      go_enter Try.func23, Try.ntmps23
      go_wp2_with fail
      refine (l01Ok_any _ cs p b l hl hc hp hb hla _ hr).mono ?_
      rintro e w1 ⟨rfl, n1, rfl⟩
      go_wp2_with fail
      refine (l00In_any k 0 last _).mono ?_
      rw [hd]
      clear hd
      rintro e w2 ⟨rfl, n2, rfl⟩
      go_wp2_with fail
      go_ret
      exact Rd.mkN
end Go.Proofs.Ytcfoghckdloknaa
