/-
  CONTRACTS: ValidJunction.
-/
import Derived.Test.YtafgcjjgnjialaaValidI
import Derived.Test.YtafgcjjgnjialaaValidS
namespace Go.Proofs.Ytafgcjjgnjialaa
open Go Go.RowKit
set_option maxRecDepth 100000
theorem sValidJunction_b (i o : Int) (ts ps : List Nat) (hi : -9223372036854775808 ≤ i ∧ i ≤ 9223372036854775807) (ho : -9223372036854775808 ≤ o ∧ o ≤ 9223372036854775807) (hlt : ts.length = 16) (hlp : ps.length = 4) (hct : ∀ x ∈ ts, x < 4294967296) (hcp : ∀ x ∈ ps, x < 4294967296) (w : World) :
    Calls Try.prog 19 #[.agg (jn i o ts ps)] w fun e w' => e = .returned (.bool (okJ i o ts ps)) ∧ Below w.heap.size w w' := by
  have A0 := At.new w (jn i o ts ps) 30
  go_enter Try.func19, Try.ntmps19
  go_wp2_with fail
  refine (l03Ok_b _ i o ts ps hi ho hlt hlp hct hcp _ _ A0).mono ?_
  rintro e w1 ⟨rfl, n1, rfl⟩
  go_wp2_with fail
  go_ret
  exact ⟨rfl, bdrew (b0 _ _) _⟩
end Go.Proofs.Ytafgcjjgnjialaa
