/-
  SEVERAL TEXTS IN ONE.
-/
import Derived.Test.YtldchcjnepnjnaaAt
import Derived.Test.YtldchcjnepnjnaaG3
import Derived.Test.YtldchcjnepnjnaaG2
import Derived.Test.YtldchcjnepnjnaaMix
import Derived.Test.YtldchcjnepnjnaaJn
import Derived.Test.YtldchcjnepnjnaaLaw
import Derived.Deep.LoopGhost
import Derived.IntWalk

/-
  ROWS OF YES AND NO IN MEMORY: phases as rows of eight, tables as rows of eight by eight.
  No Go text in it. Conditions: those of each theorem.
-/
namespace Go.Proofs.Ytldchcjnepnjnaa
open Go Go.RowKit

/-- what stands at a place (no behind the end) -/
def bn (bs : List Bool) (k : Nat) : Bool := bs.getD k false
/-- a row of yes and no -/
def bl (bs : List Bool) : Array Value := (bs.map Value.bool).toArray
theorem bl_size (bs : List Bool) : (bl bs).size = bs.length := by simp [bl]
theorem bl_get {bs : List Bool} {k : Nat} (h : k < bs.length) : (bl bs)[k]? = some (.bool (bn bs k)) := by
  simp [bl, bn, List.getElem?_map, List.getElem?_eq_getElem h, List.getD]
theorem bl_extract (bs : List Bool) (a b : Nat) : (bl bs).extract a b = bl ((bs.take b).drop a) := by
  apply Array.ext'
  simp [bl, List.map_drop, List.map_take, List.drop_take]
theorem bl_set (bs : List Bool) (k : Nat) (x : Bool) : (bl bs).setIfInBounds k (.bool x) = bl (bs.set k x) := by
  apply Array.ext'
  simp [bl]
theorem bl_one (bs : List Bool) : (bl bs).all (·.oneCell') = true := by
  simp only [bl, List.all_toArray, List.all_map]
  rw [List.all_eq_true]
  intro x _
  rfl
theorem splice_bl (xs ys : List Bool) (off : Nat) : splice (bl xs) off (bl ys) = bl (xs.take off ++ ys ++ xs.drop (off + ys.length)) := by
  simp [splice, bl, List.map_take, List.map_drop]
theorem bl_inj {xs ys : List Bool} (h : bl xs = bl ys) : xs = ys := by
  have := congrArg Array.toList h
  simp only [bl] at this
  exact (List.map_inj_right (fun a b e => by cases e; rfl)).1 this

/-- no, n times -/
def noes (n : Nat) : List Bool := List.replicate n false
theorem noes_len (n : Nat) : (noes n).length = n := by simp [noes]
/-- what a copy of n places has after k places -/
def cpB (n : Nat) (ys : List Bool) (k : Nat) : List Bool := ys.take k ++ List.replicate (n - k) false
theorem cpB_len {n : Nat} {ys : List Bool} (h : ys.length = n) (k : Nat) (hk : k ≤ n) : (cpB n ys k).length = n := by simp [cpB, h]; omega
theorem cpB_zero (n : Nat) (ys : List Bool) : cpB n ys 0 = noes n := by simp [cpB, noes]
theorem cpB_set {n : Nat} {ys : List Bool} (h : ys.length = n) {k : Nat} (hk : k < n) : (cpB n ys k).set k (bn ys k) = cpB n ys (k + 1) := by
  unfold cpB bn
  rw [List.set_append_right _ _ (by simp; omega), List.take_succ_eq_append_getElem (by omega), List.getD_eq_getElem?_getD, List.getElem?_eq_getElem (by omega)]
  rw [show k - (List.take k ys).length = 0 from by simp; omega, show n - k = (n - (k + 1)) + 1 from by omega, List.replicate_succ, List.append_assoc]
  rfl
theorem cpB_all {n : Nat} {ys : List Bool} (h : ys.length = n) : cpB n ys n = ys := by simp [cpB, ← h]
section
variable {ts : List Bool}
/-- row k of eight by eight -/
def row8 (ts : List Bool) (k : Nat) : List Bool := (ts.drop (8 * k)).take 8
theorem row8_len (ht : ts.length = 64) {k : Nat} (hk : k < 8) : (row8 ts k).length = 8 := by simp [row8, ht]; omega
theorem row8_nth (_ht : ts.length = 64) (k : Nat) {n : Nat} (hn : n < 8) : bn (row8 ts k) n = bn ts (8 * k + n) := by
  unfold row8 bn; simp only [List.getD]; rw [List.getElem?_take_of_lt hn, List.getElem?_drop]
theorem bl_row (_ht : ts.length = 64) {k off : Nat} (_hk : k < 8) (ho : off = 8 * k) : (bl ts).extract off (off + 8) = bl (row8 ts k) := by
  subst ho
  rw [bl_extract]; congr 1; unfold row8; rw [List.take_drop, Nat.add_comm]
end
/-- a copy by rows -/
def cpT (ts : List Bool) (k : Nat) : List Bool := cpB 64 ts (8 * k)
theorem cpT_len {ts : List Bool} (h : ts.length = 64) {k : Nat} (hk : k ≤ 8) : (cpT ts k).length = 64 := cpB_len h _ (by omega)
theorem cpT_zero (ts : List Bool) : cpT ts 0 = noes 64 := by simp [cpT, cpB, noes]
theorem cpT_all {ts : List Bool} (h : ts.length = 64) : cpT ts 8 = ts := cpB_all h
theorem cpT_splice {ts : List Bool} (h : ts.length = 64) {k off : Nat} (hk : k < 8) (ho : off = 8 * k) : splice (bl (cpT ts k)) off (bl (row8 ts k)) = bl (cpT ts (k + 1)) := by
  subst ho
  rw [splice_bl, row8_len h hk]
  congr 1
  unfold cpT cpB row8
  have e1 : (ts.take (8 * k)).drop (8 * k + 8) = [] := List.drop_eq_nil_of_le (by simp [h]; omega)
  have e2 : (ts.take (8 * k)).length = 8 * k := by simp [h]; omega
  rw [List.take_append_of_le_length (by omega), List.take_take, Nat.min_self, List.drop_append, e1, List.nil_append, e2, List.drop_replicate]
  rw [show 8 * (k + 1) = 8 * k + 8 from by omega, List.take_add]
  congr 2
  omega

variable {P : Program}
/-- an element of a row of yes and no -/
theorem run_index_bl (w : World) (ty e : TypeId) (n : Nat) (xs : List Bool) (k : Nat) (hu : P.underlying ty = some (.array n e)) (hue : P.underlying e = some .bool) (he : (P.info? e).map (·.size) = some 1) (hk : k < n) (hn : n = xs.length) :
    (Instr.index ty (.agg (bl xs)) (.int .i64 k)).run P w = .ok (.bool (bn xs k)) w := by
  subst hn
  have hagg : (isAgg e).run P w = .ok false w := by
    unfold isAgg
    rw [Sem.run_bind, run_underlying hue w]
    rfl
  cases hq : P.info? e with
  | none => simp [hq] at he
  | some i =>
    have hs : i.size = 1 := by simpa [hq] using he
    simp [Instr.index, asIntOf, run_underlying hu, hk, sizeOf, typeInfo, hq, hs, part, hagg, bl_get hk]
end Go.Proofs.Ytldchcjnepnjnaa

/-
  A part of a row, read in a statement whose order is open.
  No Go text in it. Conditions: those of the theorem.
-/
namespace Go.Proofs.Ytldchcjnepnjnaa
open Go Go.RowKit
theorem q_part {P : Program} {W : World} {o : Oper} {a : Act} {K : Act → Prop} {g : Nat} {c : Array Value} {T : TypeId} (ty : TypeId) (x : Operand) (ho : o.op = .load ty x) (off : Nat) (hx : a.eval x = .pointer (some ⟨g, off, none⟩)) (hA : At W g c T) (n : Nat) (hn : off + n ≤ c.size) (d : TypeDesc)
    (hu : P.underlying ty = some d) (hd : (match d with | .struct _ | .array _ _ => true | _ => false) = true) (hi : (P.info? ty).map (·.size) = some n) (c' : Array Value) (hc : c.extract off (off + n) = c') (hK : K (a.put o.dst (.agg c'))) : o.quiet P a (Cb W) K :=
  q_load ty x ho _ hx (.agg c') (fun w hw => by
    have := run_loadAt_part (P := P) w g off n ty c T (0, 0) d (At.step hA hw) hu hd hi hn
    rw [hc] at this
    exact this) hK
end Go.Proofs.Ytldchcjnepnjnaa

/-
  CONTRACTS: phases and tables, a law's made the program's, and held against each other; their shapes.
-/
namespace Go.Proofs.Ytldchcjnepnjnaa
open Go Go.ChangeShapes Go.WideShapes Go.ChangeAt Go.RowKit
set_option maxRecDepth 100000

theorem cell_bool {W : World} {r : Reach} {base : Nat} {v : Value} (h : Cell.okWide Try.prog W r base 4 v) : ∃ x, v = .bool x := by
  have h1 : Value.okWide Try.prog W r base 4 v := by simpa [Value.okWide, Try.underlying4] using h
  exact okWide_bool Try.underlying4 h1
/-- an aggregate whose cells are all yes or no -/
theorem shape_bl {W : World} {r : Reach} {base : Nat} {v : Value} {T n : Nat} {d : TypeDesc} (hu : Try.prog.underlying T = some d) (hd : (match d with | .struct _ | .array _ _ => true | _ => false) = true) (hc : Try.prog.cellsOf T = n)
    (ht : Try.prog.cellTypes Try.prog.depth T = some (List.replicate n 4)) (h : Value.okWide Try.prog W r base T v) : ∃ xs : List Bool, v = .agg (bl xs) ∧ xs.length = n := by
  have h' : ∃ cs, v = .agg cs ∧ cs.size = Try.prog.cellsOf T ∧ Row.okWide Try.prog W r base T cs := by
    unfold Value.okWide at h
    rw [hu] at h
    cases d <;> simp_all
  obtain ⟨cs, rfl, hsz, ts, hts, -, hcell⟩ := h'
  rw [ht] at hts
  obtain rfl := Option.some.inj hts
  rw [hc] at hsz
  have hx : ∀ i (hi : i < cs.size), ∃ x, cs[i] = .bool x := by
    intro i hi
    obtain ⟨u, hu, hok⟩ := hcell i cs[i] (Array.getElem?_eq_getElem hi)
    rw [List.length_replicate, Nat.mod_eq_of_lt (by omega), List.getElem?_replicate, if_pos (by omega)] at hu
    obtain rfl := Option.some.inj hu
    exact cell_bool hok
  refine ⟨cs.toList.map fun v => (match v with | .bool x => x | _ => false), ?_, by simp [hsz]⟩
  congr 1
  apply Array.ext'
  simp only [bl, List.map_map]
  apply List.ext_getElem
  · simp
  · intro i h1 h2
    obtain ⟨x, hx1⟩ := hx i (by simpa using h1)
    simp [hx1]

end Go.Proofs.Ytldchcjnepnjnaa
