/-
  CONTRACTS: a slice of tallies of one's own behind another one.
-/
import Derived.Test.YtlffcpoooaoneaaOwnT
import Derived.Laws.AppendOwnNone
namespace Go.Proofs.Ytlffcpoooaoneaa
open Go Go.ChangeShapes Go.WideShapes Go.ChangeAt Go.RowKit
set_option maxRecDepth 100000

theorem tL_ones (xs : Ts) : ∀ u ∈ tL xs, u.oneCell' = true := by
  intro u hu
  obtain ⟨s, -, hs⟩ := List.mem_flatMap.1 hu
  exact tll_one s u hs
theorem OwnT.grownG {w' : World} {lo : Nat} {v : Value} {xs zs : Ts} (h : w'.ownsRow lo 111 3 v (xs.length + zs.length) (tL xs ++ tL zs)) : OwnT w' lo v (xs ++ zs) := by
  unfold OwnT
  rw [tL_app, List.length_append]
  exact h
theorem wp_append_none {P : Program} {w : World} {o : Oper} {a : Act} {K : Act → World → Prop} {Q : Exit → Act → World → Prop} (s x : Operand) (t : TypeId)
    (ho : o.op = .call { callee := .builtin .append, args := #[s, x], argTypes := #[t, t] })
    (base : Nat) (e : TypeId) (i : TypeInfo) (size : Nat) (ht : P.underlying t = some (.slice e)) (hi : P.info? e = some i)
    (v : Value) (n : Nat) (xs : List Value) (hs : a.eval s = v) (hown : w.ownsRow base e size v n xs) (hx : a.eval x = .slice none 0 0)
    (h : K (a.put o.dst v) w) : o.wp P a w K Q := by
  have hrun := run_append_owned_none (P := P) (w := w) base t o.type e i size ht hi v n xs hown
  unfold Oper.wp
  simp [execOp, ho, resolve, invoke, builtin, hs, hx, hrun, Result.andThen]
  exact h
theorem OwnT.cells {w : World} {lo : Nat} {g cap n : Nat} {gs : Ts} (h : OwnT w lo (.slice (some ⟨g, 0, none⟩) n cap) gs) : ∀ j u, (tL gs)[j]? = some u → w.cell? ((⟨g, 0, none⟩ : Addr).add j) = some u := by
  intro j u hj
  have hjl : j < (tL gs).length := (List.getElem?_eq_some_iff.1 hj).1
  rw [tL_length] at hjl
  obtain ⟨g', cap', cur, e', -, hA, -, -, hc⟩ := h.at (by omega)
  cases e'
  have e : (⟨g, 0, none⟩ : Addr).add j = ⟨g, j, none⟩ := by
    unfold Addr.add
    by_cases z : j = 0
    · subst z; rfl
    · rw [if_neg z]; congr 1; show 0 + j = j; omega
  rw [e]
  exact hA.cell ((hc j hjl).trans hj)
/-- a slice of tallies of one's own behind another one -/
theorem app_own {w : World} {o : Oper} {a : Act} {K : Act → World → Prop} {Q : Exit → Act → World → Prop} (s x : Operand) {lo lo2 : Nat} {v v2 : Value} {L gs : Ts}
    (ho : o.op = .call { callee := .builtin .append, args := #[s, x], argTypes := #[24, 24] })
    (hs : a.eval s = v) (hx : a.eval x = v2) (O : OwnT w lo v L) (O2 : OwnT w lo2 v2 gs) (hlo : lo ≤ w.heap.size) (hlen : L.length + gs.length ≤ 100000)
    (hK : ∀ v' w', OwnT w' lo v' (L ++ gs) → Below lo w w' → (∀ k, k < w.heap.size → v.ownBlock ≠ some k → w'.heap[k]? = w.heap[k]?) → K (a.put o.dst v') w') : o.wp Try.prog a w K Q := by
  obtain ⟨i0, hi, hz0, hz1, hz2⟩ := info_tally
  rcases O2.2 with ⟨rfl, h0⟩ | ⟨g, cap, cur, rfl, h1, h2, h3, h4, h5, h6⟩
  · obtain rfl := List.length_eq_zero_iff.1 h0
    refine wp_append_none s x 24 ho lo 111 i0 3 Try.underlying24 hi v L.length _ hs O hx (hK v w ?_ (Below.refl _ _) (fun _ _ _ => rfl))
    rw [List.append_nil]
    exact O
  · refine wp_append_own w s x 24 ho lo 111 i0 (.agg #[.int .i64 0, .int .i16 0, .int .i16 0]) 3 16 Try.underlying24 hi hz0 hz1 hz2 rfl (by decide) v L.length _ hs O ⟨g, 0, none⟩ gs.length cap (tL gs) hx (tL_length gs) O2.cells (tL_ones gs) (by unfold maxLen; omega) (by omega) hlo ?_
    intro v' w' hown hgrow _
    exact hK v' w' (OwnT.grownG hown) (Below.grownBy hgrow hlo (fun q hq => (O.block q hq).1)) (fun k hk hne => hgrow.block k hk (fun e => hne e.symm))

end Go.Proofs.Ytlffcpoooaoneaa
