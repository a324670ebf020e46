/-
  ROWS OF FOUR BY FOUR 32-BIT WORDS, compared.
  No Go text in it. Conditions: those of each theorem.
-/
import Derived.Test.YtdoilkhndkakkaaArrEq
import Derived.Test.YtdoilkhndkakkaaJn
namespace Go.Proofs.Ytdoilkhndkakkaa
open Go Go.RowKit
variable {P : Program}
theorem ub_row {xs : List Nat} {k off : Nat} (ho : off = 4 * k) : (ub xs).extract off (off + 4) = ub (row4 xs k) := by
  subst ho
  apply Array.ext'
  simp [ub, row4, List.extract_eq_take_drop, List.map_drop, List.map_take]
theorem run_part_row (w : World) (e : TypeId) (xs : List Nat) (k off : Nat) {e2 : TypeId} (hue : P.underlying e = some (.array 4 e2)) (he : (P.info? e).map (·.size) = some 4) (ho : off = 4 * k) (hk : off + 4 ≤ xs.length) : (part e (ub xs) off).run P w = .ok (.agg (ub (row4 xs k))) w := by
  have hagg : (isAgg e).run P w = .ok true w := by
    unfold isAgg
    rw [Sem.run_bind, run_underlying hue w]
    rfl
  cases hq : P.info? e with
  | none => simp [hq] at he
  | some i =>
    have hs : i.size = 4 := by simpa [hq] using he
    simp [part, Sem.run_bind, hagg, sizeOf, typeInfo, hq, hs, ub_row ho]
theorem rows_eq {xs ys : List Nat} (hx : xs.length = 16) (hy : ys.length = 16) : ((List.range' 0 4).all fun i => decide (row4 xs i = row4 ys i)) = decide (xs = ys) := by
  rw [Bool.eq_iff_iff]
  simp only [List.all_eq_true, decide_eq_true_eq]
  constructor
  · intro q
    apply List.ext_getElem (by omega)
    intro i h1 h2
    have := q (i / 4) (by simp [List.mem_range'_1]; omega)
    have e1 := row4_nth hx (i / 4) (n := i % 4) (by omega)
    have e2 := row4_nth hy (i / 4) (n := i % 4) (by omega)
    rw [this, e2, Nat.div_add_mod] at e1
    unfold nth at e1
    rw [List.getD_eq_getElem?_getD, List.getD_eq_getElem?_getD, List.getElem?_eq_getElem h1, List.getElem?_eq_getElem h2] at e1
    exact e1.symm
  · intro e i _; rw [e]
theorem run_eq_u32ss (w : World) (d : Nat) (t e e2 : TypeId) (xs ys : List Nat) (hu : P.underlying t = some (.array 4 e)) (hue : P.underlying e = some (.array 4 e2)) (he : (P.info? e).map (·.size) = some 4)
    (hue2 : P.underlying e2 = some (.int .u32)) (he2 : (P.info? e2).map (·.size) = some 1) (hx : xs.length = 16) (hy : ys.length = 16) :
    (Op.equalIn (d + 3) t (.agg (ub xs)) (.agg (ub ys))).run P w = .ok (decide (xs = ys)) w := by
  cases hq : P.info? e with
  | none => simp [hq] at he
  | some i =>
    have hs : i.size = 4 := by simpa [hq] using he
    unfold Op.equalIn
    simp only [Sem.run_bind, run_underlying hu w, Result.andThen_ok, sizeOf, typeInfo]
    simp [hq, hs]
    rw [forIn_run w _ (fun i => decide (row4 xs i = row4 ys i)) _ ?_]
    · rw [rows_eq hx hy]
      by_cases c : xs = ys <;> simp [c]
    · intro k hk s
      have hk' : k < 4 := by simpa [List.mem_range'_1] using hk
      rw [Sem.run_bind, run_part_row w e xs k (k * 4) hue (by rw [hq]; simp [hs]) (by omega) (by omega)]
      simp only [Result.andThen_ok]
      rw [Sem.run_bind, run_part_row w e ys k (k * 4) hue (by rw [hq]; simp [hs]) (by omega) (by omega)]
      simp only [Result.andThen_ok]
      rw [Sem.run_bind, run_eq_u32s w d e e2 4 (row4 xs k) (row4 ys k) hue hue2 he2 (row4_len hx hk') (row4_len hy hk')]
      simp only [Result.andThen_ok]
      by_cases c : row4 xs k = row4 ys k
      · simp [c]
      · simp [c]
theorem run_eql_u32ss (w : World) (t e e2 : TypeId) (xs ys : List Nat) (hu : P.underlying t = some (.array 4 e)) (hue : P.underlying e = some (.array 4 e2)) (he : (P.info? e).map (·.size) = some 4)
    (hue2 : P.underlying e2 = some (.int .u32)) (he2 : (P.info? e2).map (·.size) = some 1) (hx : xs.length = 16) (hy : ys.length = 16) :
    (binOp .eql t (.agg (ub xs)) (.agg (ub ys))).run P w = .ok (.bool (decide (xs = ys))) w := by
  rw [run_eql_struct, show (10000 : Nat) = 9997 + 3 from rfl, run_eq_u32ss w 9997 t e e2 xs ys hu hue he hue2 he2 hx hy]
  rfl
end Go.Proofs.Ytdoilkhndkakkaa
