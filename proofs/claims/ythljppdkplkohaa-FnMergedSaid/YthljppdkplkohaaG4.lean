/-
  SEVERAL TEXTS IN ONE.
-/
import Derived.Test.YthljppdkplkohaaValidL
import Derived.BigFrame

/-
  CONTRACTS: ValidJunction, the program's.
-/
namespace Go.Proofs.Ythljppdkplkohaa
open Go Go.RowKit
set_option maxRecDepth 100000

/-- a row out of rows -/
theorem run_index_row (w : World) {ts : List Nat} (hl : ts.length = 16) {k : Nat} (hk : k < 4) :
    (Instr.index 31 (.agg (fl ts)) (.int .i64 k)).run Try.prog w = .ok (.agg (fl (row4 ts k))) w := by
  have hu := Try.underlying31
  have hue := Try.underlying29
  have hagg : (isAgg 29).run Try.prog w = .ok true w := by
    unfold isAgg
    rw [Sem.run_bind, run_underlying hue w]
    rfl
  have hk' : ((k : Int)).toNat = k := Int.toNat_natCast k
  have hs : (Try.prog.info? 29).map (·.size) = some 4 := by kernel_rfl
  cases hq : Try.prog.info? 29 with
  | none => rw [hq] at hs; cases hs
  | some d =>
    have hs' : d.size = 4 := by simpa [hq] using hs
    simp [Instr.index, asIntOf, run_underlying hu, hk, sizeOf, typeInfo, hq, hs', part, hagg, fl_row hl hk (show k * 4 = 4 * k from Nat.mul_comm _ _)]

end Go.Proofs.Ythljppdkplkohaa

/-
  CONTRACTS: ValidJunction, the model's.
-/
namespace Go.Proofs.Ythljppdkplkohaa
open Go Go.RowKit
set_option maxRecDepth 100000

end Go.Proofs.Ythljppdkplkohaa

/-
  CONTRACTS: ValidJunction.
-/
namespace Go.Proofs.Ythljppdkplkohaa
open Go Go.RowKit
set_option maxRecDepth 100000

end Go.Proofs.Ythljppdkplkohaa
