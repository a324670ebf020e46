/-
  CONTRACTS: the rest of a slice.
-/
import Derived.Test.YtlffcpoooaoneaaBusier
namespace Go.Proofs.Ytlffcpoooaoneaa
open Go Go.ChangeShapes Go.WideShapes Go.ChangeAt Go.RowKit
set_option maxRecDepth 100000

theorem q_partJ {P : Program} {W : World} {o : Oper} {a : Act} {K : Act → Prop} {g : Nat} {c : Array Value} {T : TypeId} (ty : TypeId) (x : Operand) (ho : o.op = .load ty x) (off : Nat) (hx : a.eval x = .pointer (some ⟨g, off, none⟩)) (hA : At W g c T) (n : Nat) (hn : off + n ≤ c.size) (d : TypeDesc)
    (hu : P.underlying ty = some d) (hd : (match d with | .struct _ | .array _ _ => true | _ => false) = true) (hi : (P.info? ty).map (·.size) = some n) (c' : Array Value) (hc : c.extract off (off + n) = c') (hK : K (a.put o.dst (.agg c'))) : o.quiet P a (Cb W) K :=
  q_load ty x ho _ hx (.agg c') (fun w hw => by subst hc; exact run_loadAt_part w g off n ty c T (0, 0) d (At.step hA hw) hu hd hi hn) hK
theorem tL_drop (xs : Ts) {i : Nat} (h : i ≤ xs.length) : tL (xs.drop i) = (tL xs).drop (i * 3) := by
  have e : tL xs = tL (xs.take i) ++ tL (xs.drop i) := by rw [← tL_app, List.take_append_drop]
  rw [e, List.drop_left' (by rw [tL_length, List.length_take, Nat.min_eq_left h])]
theorem tL_one (xs : Ts) : ∀ u ∈ tL xs, u.oneCell' = true := by
  intro u hu
  obtain ⟨s, -, hs⟩ := List.mem_flatMap.1 hu
  exact tll_one s u hs
/-- the cells of the rest of a slice -/
theorem rest_cells {w : World} {G : Nat} {xs : Ts} {T : TypeId} {i m : Nat} {p : Addr} (hA : At w G (tC xs) T) (hi : i + m = xs.length) (hp : 0 < m → p = ⟨G, i * 3, none⟩) : ∀ j u, (tL (xs.drop i))[j]? = some u → w.cell? (p.add j) = some u := by
  intro j u h
  have hj : j < (tL (xs.drop i)).length := (List.getElem?_eq_some_iff.1 h).1
  rw [tL_length, List.length_drop] at hj
  obtain rfl := hp (by omega)
  have e : (⟨G, i * 3, none⟩ : Addr).add j = ⟨G, i * 3 + j, none⟩ := by
    unfold Addr.add
    by_cases z : j = 0
    · subst z; rfl
    · rw [if_neg z]
  rw [e]
  refine hA.cell ?_
  rw [tL_drop xs (by omega), List.getElem?_drop] at h
  rw [← Array.getElem?_toList]
  exact h
theorem OwnT.grownL {w' : World} {lo : Nat} {v : Value} {xs zs : Ts} (h : w'.ownsRow lo 111 3 v (xs.length + zs.length) (tL xs ++ tL zs)) : OwnT w' lo v (xs ++ zs) := by
  unfold OwnT
  rw [tL_app, List.length_append]
  exact h
def lenOf : Value → Nat
  | .slice _ n _ => n
  | _ => 0
/-- where a slice begins behind its first element -/
def nxt (p : Addr) (m : Nat) : Addr := if m = 1 then p else p.add 3
theorem nxt_at {g i m : Nat} (h : m ≠ 1) : nxt ⟨g, i * 3, none⟩ m = ⟨g, (i + 1) * 3, none⟩ := by
  unfold nxt Addr.add
  rw [if_neg h, if_neg (by decide)]
  congr 1
  show i * 3 + 3 = _
  omega
theorem run_tail (W : World) (p : Addr) (m : Nat) (h : 0 < m) : (Instr.sliceAt 24 (.slice (some p) m m) (some (.int .i64 1)) none none).run Try.prog W = .ok (.slice (some (nxt p m)) (m - 1) (m - 1)) W := by
  have ht : Try.prog.underlying 24 = some (.slice (Try.prog.elem 24)) := by kernel_rfl
  have hs : (sizeOf (Try.prog.elem 24)).run Try.prog W = .ok 3 W := by kernel_rfl
  rw [run_sliceAt_slice _ _ _ _ _ _ ht, run_slice_l _ _ _ _ _ ht _ _ (by decide) (by omega), hs]
  unfold nxt
  by_cases c : m = 1
  · subst c; rfl
  · simp [sliced, Result.andThen, c]

end Go.Proofs.Ytlffcpoooaoneaa
