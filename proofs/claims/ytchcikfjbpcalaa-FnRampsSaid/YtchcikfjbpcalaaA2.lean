/-
  CONTRACTS: what the drawn laws of the chapters 1 and 2 ask of their bytes.
-/
import Derived.Test.YtchcikfjbpcalaaBytes
import Derived.Test.YtchcikfjbpcalaaSameRoadS
namespace Go.Proofs.Ytchcikfjbpcalaa
open Go Go.RowKit
set_option maxRecDepth 100000

theorem a2Long_any (a a' : Option Addr) (n c n' c' : Nat) (w : World) :
    Calls Try.prog 4 #[.slice a n c, .slice a' n' c'] w fun e w' => ∃ B : Bool, e = .returned (.bool B) ∧ w' = w := by
  by_cases h1 : 3000 < n
  · have k1 : decide ((3000 : Int) < (n : Int)) = true := decide_eq_true (by omega)
    go_enter Try.func4, Try.ntmps4
    go_wp2
    go_ret
    exact ⟨true, rfl, by trivial⟩
  · have k1 : decide ((3000 : Int) < (n : Int)) = false := decide_eq_false (by omega)
    by_cases h2 : 3000 < n'
    · have k2 : decide ((3000 : Int) < (n' : Int)) = true := decide_eq_true (by omega)
      go_enter Try.func4, Try.ntmps4
      go_wp2
      go_ret
      exact ⟨true, rfl, by trivial⟩
    · have k2 : decide ((3000 : Int) < (n' : Int)) = false := decide_eq_false (by omega)
      go_enter Try.func4, Try.ntmps4
      go_wp2
      go_ret
      exact ⟨false, rfl, by trivial⟩

theorem a2At_any {w : World} {ad : Option Addr} {cp : Nat} {bs : List Nat} (h : BSl w ad bs) (k n : Nat) (hn : 1 ≤ n) (hn2 : n ≤ 1000) (_hk : k ≤ 1000) :
    Calls Try.prog 7 #[.slice ad bs.length cp, .int .i64 (k : Int), .int .i64 (n : Int)] w fun e w' => ∃ m : Nat, e = .returned (.int .i64 (m : Int)) ∧ m < n ∧ w' = w := by
  have n1 : decide ((n : Int) < 1) = false := decide_eq_false (by omega)
  by_cases hlt : k < bs.length
  · obtain ⟨g, off, rfl, hg, hcell⟩ : ∃ g off, ad = some ⟨g, off, none⟩ ∧ g < w.heap.size ∧ ∀ i, i < bs.length → w.cell? ⟨g, off + i, none⟩ = some (.int .u8 (byteAt bs i : Nat)) := by
      rcases h.val with rfl | h
      · simp at hlt
      · exact h
    have hc := hcell k hlt
    have hb := byte_lt h.lt k
    have k1 : decide ((bs.length : Int) ≤ (k : Int)) = false := decide_eq_false (by omega)
    have k2 : decide ((k : Int) < (bs.length : Int)) = true := decide_eq_true (by omega)
    clear hcell h
    generalize byteAt bs k = v at hc hb
    generalize bs.length = N at *
    have hw : IntKind.i64.wrap (v : Int) = (v : Int) := IntWalk.i64_in _ (by omega)
    have hr : Int.tmod (v : Int) (n : Int) = ((v % n : Nat) : Int) := by rw [Int.tmod_eq_emod_of_nonneg (by omega)]; rfl
    have hr2 : IntKind.i64.wrap ((v % n : Nat) : Int) = ((v % n : Nat) : Int) := IntWalk.i64_in _ (by have := Nat.mod_lt v (show 0 < n by omega); omega)
    have hm := Nat.mod_lt v (show 0 < n by omega)
    generalize v % n = m at hr hr2 hm
    go_enter Try.func7, Try.ntmps7
    go_wp2
    go_ret
    exact ⟨m, by first | rfl | simp_all, hm, by trivial⟩
  · have k1 : decide ((bs.length : Int) ≤ (k : Int)) = true := decide_eq_true (by omega)
    clear h
    generalize bs.length = N at *
    go_enter Try.func7, Try.ntmps7
    go_wp2
    go_ret
    exact ⟨0, rfl, by omega, by trivial⟩

theorem sameR_self (cs : List Nat) (p b l : Nat) : sameR cs p b l cs p b l = true := by unfold sameR; simp

end Go.Proofs.Ytchcikfjbpcalaa
