/-
  SEVERAL TEXTS IN ONE.
-/
import Derived.Test.YtejbaoakpkpciaaVTlI
import Derived.Test.YtejbaoakpkpciaaOwnT
import Derived.Test.YtejbaoakpkpciaaG1
import Derived.Test.YtejbaoakpkpciaaG6
import Derived.Test.YtejbaoakpkpciaaG4
import Derived.Test.YtejbaoakpkpciaaG5
import Derived.Test.YtejbaoakpkpciaaJn
import Derived.Test.YtejbaoakpkpciaaLaw
import Derived.Deep.LoopGhost
import Derived.IntWalk

/-
  CONTRACTS: lists without wrong tallies.
-/
namespace Go.Proofs.Ytejbaoakpkpciaa
open Go Go.ChangeShapes Go.WideShapes Go.ChangeAt Go.RowKit
set_option maxRecDepth 100000

/-- can a tally be right? -/
def keepT (xs : Ts) (m : Int) (k : Nat) : Bool := decide (tc xs k ≤ m) && (decide (tc xs k = 0) || decide (0 < tf xs k))
def at3 (xs : Ts) (k : Nat) : Int × Int × Int := (tn xs k, tc xs k, tf xs k)
/-- the tallies that can be right, of the first k -/
def wrL (xs : Ts) (m : Int) : Nat → Ts
  | 0 => []
  | k + 1 => if keepT xs m k then wrL xs m k ++ [at3 xs k] else wrL xs m k
theorem wrL_yes {xs : Ts} {m : Int} {k : Nat} (h : keepT xs m k = true) : wrL xs m (k + 1) = wrL xs m k ++ [at3 xs k] := by show (if _ then _ else _) = _; rw [if_pos h]
theorem wrL_no {xs : Ts} {m : Int} {k : Nat} (h : keepT xs m k = false) : wrL xs m (k + 1) = wrL xs m k := by show (if _ then _ else _) = _; rw [h]; rfl
theorem wrL_len (xs : Ts) (m : Int) : ∀ k, (wrL xs m k).length ≤ k
  | 0 => Nat.le_refl _
  | k + 1 => by
    have := wrL_len xs m k
    cases h : keepT xs m k
    · rw [wrL_no h]; omega
    · rw [wrL_yes h, List.length_append]; show _ + 1 ≤ _; omega
theorem at3_w {xs : Ts} (h : TW xs) {k : Nat} (hk : k < xs.length) : I64t (at3 xs k).1 ∧ I16 (at3 xs k).2.1 ∧ I16 (at3 xs k).2.2 := h.at hk
theorem TW.snoc {ys : Ts} {s : Int × Int × Int} (h : TW ys) (hs : I64t s.1 ∧ I16 s.2.1 ∧ I16 s.2.2) : TW (ys ++ [s]) := by
  intro x hx
  rcases List.mem_append.1 hx with hx | hx
  · exact h x hx
  · obtain rfl := List.mem_singleton.1 hx
    exact hs
theorem TW.nil : TW [] := by simp [TW]
theorem wrL_w {xs : Ts} (hW : TW xs) (m : Int) : ∀ k, k ≤ xs.length → TW (wrL xs m k)
  | 0, _ => TW.nil
  | k + 1, hk => by
    have := wrL_w hW m k (by omega)
    cases h : keepT xs m k
    · rw [wrL_no h]; exact this
    · rw [wrL_yes h]; exact this.snoc (at3_w hW (by omega))
def vWrong (xs : Ts) (m : Int) : Ts × Int := if okT xs then (if 0 ≤ m then (wrL xs m xs.length, 0) else ([], 2)) else ([], 1)
theorem vWrong_1 {xs : Ts} {m : Int} (h : okT xs = false) : vWrong xs m = ([], 1) := by unfold vWrong; rw [h]; rfl
theorem vWrong_2 {xs : Ts} {m : Int} (h : okT xs = true) (h2 : ¬ 0 ≤ m) : vWrong xs m = ([], 2) := by unfold vWrong; rw [if_pos h, if_neg h2]
theorem vWrong_0 {xs : Ts} {m : Int} (h : okT xs = true) (h2 : 0 ≤ m) : vWrong xs m = (wrL xs m xs.length, 0) := by unfold vWrong; rw [if_pos h, if_pos h2]
theorem vWrong_w {xs : Ts} (hW : TW xs) (m : Int) : TW (vWrong xs m).1 ∧ (vWrong xs m).1.length ≤ 96 := by
  unfold vWrong
  split
  · rename_i h
    split
    · exact ⟨wrL_w hW m _ (Nat.le_refl _), Nat.le_trans (wrL_len xs m _) (okT_len h)⟩
    · exact ⟨TW.nil, Nat.zero_le _⟩
  · exact ⟨TW.nil, Nat.zero_le _⟩

theorem At.keep {w w' : World} {g : Nat} {c : Array Value} {T : TypeId} {r : Option Nat} (h : At w g c T) (hg : w.grownBy w' r) (hne : ∀ q, r = some q → q ≠ g) : At w' g c T :=
  (hg.block g h.lt (fun e => hne g e.symm rfl)).trans h

end Go.Proofs.Ytejbaoakpkpciaa

/-
  ROWS OF YES AND NO IN MEMORY: phases as rows of eight, tables as rows of eight by eight.
  No Go text in it. Conditions: those of each theorem.
-/
namespace Go.Proofs.Ytejbaoakpkpciaa
open Go Go.RowKit

/-- what stands at a place (no behind the end) -/
def bn (bs : List Bool) (k : Nat) : Bool := bs.getD k false
/-- a row of yes and no -/
def bl (bs : List Bool) : Array Value := (bs.map Value.bool).toArray
theorem bl_size (bs : List Bool) : (bl bs).size = bs.length := by simp [bl]
theorem bl_get {bs : List Bool} {k : Nat} (h : k < bs.length) : (bl bs)[k]? = some (.bool (bn bs k)) := by
  simp [bl, bn, List.getElem?_map, List.getElem?_eq_getElem h, List.getD]
theorem bl_extract (bs : List Bool) (a b : Nat) : (bl bs).extract a b = bl ((bs.take b).drop a) := by
  apply Array.ext'
  simp [bl, List.map_drop, List.map_take, List.drop_take]
theorem bl_set (bs : List Bool) (k : Nat) (x : Bool) : (bl bs).setIfInBounds k (.bool x) = bl (bs.set k x) := by
  apply Array.ext'
  simp [bl]
theorem bl_one (bs : List Bool) : (bl bs).all (·.oneCell') = true := by
  simp only [bl, List.all_toArray, List.all_map]
  rw [List.all_eq_true]
  intro x _
  rfl
theorem splice_bl (xs ys : List Bool) (off : Nat) : splice (bl xs) off (bl ys) = bl (xs.take off ++ ys ++ xs.drop (off + ys.length)) := by
  simp [splice, bl, List.map_take, List.map_drop]
theorem bl_inj {xs ys : List Bool} (h : bl xs = bl ys) : xs = ys := by
  have := congrArg Array.toList h
  simp only [bl] at this
  exact (List.map_inj_right (fun a b e => by cases e; rfl)).1 this

/-- no, n times -/
def noes (n : Nat) : List Bool := List.replicate n false
theorem noes_len (n : Nat) : (noes n).length = n := by simp [noes]
/-- what a copy of n places has after k places -/
def cpB (n : Nat) (ys : List Bool) (k : Nat) : List Bool := ys.take k ++ List.replicate (n - k) false
theorem cpB_len {n : Nat} {ys : List Bool} (h : ys.length = n) (k : Nat) (hk : k ≤ n) : (cpB n ys k).length = n := by simp [cpB, h]; omega
theorem cpB_zero (n : Nat) (ys : List Bool) : cpB n ys 0 = noes n := by simp [cpB, noes]
theorem cpB_set {n : Nat} {ys : List Bool} (h : ys.length = n) {k : Nat} (hk : k < n) : (cpB n ys k).set k (bn ys k) = cpB n ys (k + 1) := by
  unfold cpB bn
  rw [List.set_append_right _ _ (by simp; omega), List.take_succ_eq_append_getElem (by omega), List.getD_eq_getElem?_getD, List.getElem?_eq_getElem (by omega)]
  rw [show k - (List.take k ys).length = 0 from by simp; omega, show n - k = (n - (k + 1)) + 1 from by omega, List.replicate_succ, List.append_assoc]
  rfl
theorem cpB_all {n : Nat} {ys : List Bool} (h : ys.length = n) : cpB n ys n = ys := by simp [cpB, ← h]
section
variable {ts : List Bool}
/-- row k of eight by eight -/
def row8 (ts : List Bool) (k : Nat) : List Bool := (ts.drop (8 * k)).take 8
theorem row8_len (ht : ts.length = 64) {k : Nat} (hk : k < 8) : (row8 ts k).length = 8 := by simp [row8, ht]; omega
theorem row8_nth (_ht : ts.length = 64) (k : Nat) {n : Nat} (hn : n < 8) : bn (row8 ts k) n = bn ts (8 * k + n) := by
  unfold row8 bn; simp only [List.getD]; rw [List.getElem?_take_of_lt hn, List.getElem?_drop]
theorem bl_row (_ht : ts.length = 64) {k off : Nat} (_hk : k < 8) (ho : off = 8 * k) : (bl ts).extract off (off + 8) = bl (row8 ts k) := by
  subst ho
  rw [bl_extract]; congr 1; unfold row8; rw [List.take_drop, Nat.add_comm]
end
/-- a copy by rows -/
def cpT (ts : List Bool) (k : Nat) : List Bool := cpB 64 ts (8 * k)
theorem cpT_len {ts : List Bool} (h : ts.length = 64) {k : Nat} (hk : k ≤ 8) : (cpT ts k).length = 64 := cpB_len h _ (by omega)
theorem cpT_zero (ts : List Bool) : cpT ts 0 = noes 64 := by simp [cpT, cpB, noes]
theorem cpT_all {ts : List Bool} (h : ts.length = 64) : cpT ts 8 = ts := cpB_all h
theorem cpT_splice {ts : List Bool} (h : ts.length = 64) {k off : Nat} (hk : k < 8) (ho : off = 8 * k) : splice (bl (cpT ts k)) off (bl (row8 ts k)) = bl (cpT ts (k + 1)) := by
  subst ho
  rw [splice_bl, row8_len h hk]
  congr 1
  unfold cpT cpB row8
  have e1 : (ts.take (8 * k)).drop (8 * k + 8) = [] := List.drop_eq_nil_of_le (by simp [h]; omega)
  have e2 : (ts.take (8 * k)).length = 8 * k := by simp [h]; omega
  rw [List.take_append_of_le_length (by omega), List.take_take, Nat.min_self, List.drop_append, e1, List.nil_append, e2, List.drop_replicate]
  rw [show 8 * (k + 1) = 8 * k + 8 from by omega, List.take_add]
  congr 2
  omega

variable {P : Program}
/-- an element of a row of yes and no -/
theorem run_index_bl (w : World) (ty e : TypeId) (n : Nat) (xs : List Bool) (k : Nat) (hu : P.underlying ty = some (.array n e)) (hue : P.underlying e = some .bool) (he : (P.info? e).map (·.size) = some 1) (hk : k < n) (hn : n = xs.length) :
    (Instr.index ty (.agg (bl xs)) (.int .i64 k)).run P w = .ok (.bool (bn xs k)) w := by
  subst hn
  have hagg : (isAgg e).run P w = .ok false w := by
    unfold isAgg
    rw [Sem.run_bind, run_underlying hue w]
    rfl
  cases hq : P.info? e with
  | none => simp [hq] at he
  | some i =>
    have hs : i.size = 1 := by simpa [hq] using he
    simp [Instr.index, asIntOf, run_underlying hu, hk, sizeOf, typeInfo, hq, hs, part, hagg, bl_get hk]
end Go.Proofs.Ytejbaoakpkpciaa

/-
  CONTRACTS: phases and tables, a law's made the program's, and held against each other; their shapes.
-/
namespace Go.Proofs.Ytejbaoakpkpciaa
open Go Go.ChangeShapes Go.WideShapes Go.ChangeAt Go.RowKit
set_option maxRecDepth 100000

theorem cell_bool {W : World} {r : Reach} {base : Nat} {v : Value} (h : Cell.okWide Try.prog W r base 4 v) : ∃ x, v = .bool x := by
  have h1 : Value.okWide Try.prog W r base 4 v := by simpa [Value.okWide, Try.underlying4] using h
  exact okWide_bool Try.underlying4 h1
/-- an aggregate whose cells are all yes or no -/
theorem shape_bl {W : World} {r : Reach} {base : Nat} {v : Value} {T n : Nat} {d : TypeDesc} (hu : Try.prog.underlying T = some d) (hd : (match d with | .struct _ | .array _ _ => true | _ => false) = true) (hc : Try.prog.cellsOf T = n)
    (ht : Try.prog.cellTypes Try.prog.depth T = some (List.replicate n 4)) (h : Value.okWide Try.prog W r base T v) : ∃ xs : List Bool, v = .agg (bl xs) ∧ xs.length = n := by
  have h' : ∃ cs, v = .agg cs ∧ cs.size = Try.prog.cellsOf T ∧ Row.okWide Try.prog W r base T cs := by
    unfold Value.okWide at h
    rw [hu] at h
    cases d <;> simp_all
  obtain ⟨cs, rfl, hsz, ts, hts, -, hcell⟩ := h'
  rw [ht] at hts
  obtain rfl := Option.some.inj hts
  rw [hc] at hsz
  have hx : ∀ i (hi : i < cs.size), ∃ x, cs[i] = .bool x := by
    intro i hi
    obtain ⟨u, hu, hok⟩ := hcell i cs[i] (Array.getElem?_eq_getElem hi)
    rw [List.length_replicate, Nat.mod_eq_of_lt (by omega), List.getElem?_replicate, if_pos (by omega)] at hu
    obtain rfl := Option.some.inj hu
    exact cell_bool hok
  refine ⟨cs.toList.map fun v => (match v with | .bool x => x | _ => false), ?_, by simp [hsz]⟩
  congr 1
  apply Array.ext'
  simp only [bl, List.map_map]
  apply List.ext_getElem
  · simp
  · intro i h1 h2
    obtain ⟨x, hx1⟩ := hx i (by simpa using h1)
    simp [hx1]

end Go.Proofs.Ytejbaoakpkpciaa

/-
  CONTRACTS: where counts are great enough.
-/
namespace Go.Proofs.Ytejbaoakpkpciaa
open Go Go.ChangeShapes Go.WideShapes Go.ChangeAt Go.RowKit
set_option maxRecDepth 100000

/-- where the first k counts are great enough -/
def clK (xs : Ts) (l : Int) (k : Nat) : List Bool := (List.range 8).map fun i => decide (i < k) && decide (l ≤ tc xs i)
theorem clK_len (xs : Ts) (l : Int) (k : Nat) : (clK xs l k).length = 8 := by simp [clK]
theorem clK_zero (xs : Ts) (l : Int) : clK xs l 0 = noes 8 := by
  apply List.ext_getElem
  · simp [clK, noes]
  · intro i h1 h2
    have e : (noes 8)[i] = false := by
      show (List.replicate 8 false)[i]'(by simpa [noes] using h2) = false
      exact List.getElem_replicate _
    rw [e]
    simp only [clK, List.getElem_map, List.getElem_range, decide_eq_false (Nat.not_lt_zero i), Bool.false_and]
theorem clK_set (xs : Ts) (l : Int) {k : Nat} (_hk : k < 8) : (clK xs l k).set k (decide (l ≤ tc xs k)) = clK xs l (k + 1) := by
  apply List.ext_getElem
  · simp [clK]
  · intro i h1 h2
    have hi : i < 8 := by simpa [clK] using h2
    rw [List.getElem_set]
    by_cases e : k = i
    · subst e; simp [clK]
    · rw [if_neg e]
      simp only [clK, List.getElem_map, List.getElem_range]
      congr 1
      exact decide_eq_decide.2 (by omega)
def vCalls (xs : Ts) (l : Int) : List Bool × Int := if okT xs then (if 0 ≤ l then (clK xs l (min xs.length 8), 0) else (noes 8, 2)) else (noes 8, 1)
theorem vCalls_1 {xs : Ts} {l : Int} (h : okT xs = false) : vCalls xs l = (noes 8, 1) := by unfold vCalls; rw [h]; rfl
theorem vCalls_2 {xs : Ts} {l : Int} (h : okT xs = true) (h2 : ¬ 0 ≤ l) : vCalls xs l = (noes 8, 2) := by unfold vCalls; rw [if_pos h, if_neg h2]
theorem vCalls_0 {xs : Ts} {l : Int} (h : okT xs = true) (h2 : 0 ≤ l) : vCalls xs l = (clK xs l (min xs.length 8), 0) := by unfold vCalls; rw [if_pos h, if_pos h2]
theorem vCalls_len (xs : Ts) (l : Int) : (vCalls xs l).1.length = 8 := by
  unfold vCalls
  split
  · split
    · exact clK_len _ _ _
    · exact noes_len 8
  · exact noes_len 8

theorem z8_eq : (#[.bool false, .bool false, .bool false, .bool false, .bool false, .bool false, .bool false, .bool false] : Array Value) = bl (noes 8) := rfl

end Go.Proofs.Ytejbaoakpkpciaa
