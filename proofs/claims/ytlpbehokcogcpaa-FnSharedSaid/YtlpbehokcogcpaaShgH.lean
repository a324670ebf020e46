/-
  CONTRACTS: slots and floats of one's own that grow side by side.
-/
import Derived.Test.YtlpbehokcogcpaaShgI
import Derived.Test.YtlpbehokcogcpaaG7
import Derived.Test.YtlpbehokcogcpaaCycZ
namespace Go.Proofs.Ytlpbehokcogcpaa
open Go Go.ChangeShapes Go.WideShapes Go.ChangeAt Go.RowKit Go.Deep
set_option maxRecDepth 100000

theorem q_oneG {P : Program} {W : World} {o : Oper} {a : Act} {K : Act → Prop} {g : Nat} {c : Array Value} {T : TypeId} (ty : TypeId) (x : Operand) (ho : o.op = .load ty x) (d : TypeDesc) (hu : P.underlying ty = some d) (hd : (match d with | .struct _ | .array _ _ => true | _ => false) = false) (k : Nat) (hx : a.eval x = .pointer (some ⟨g, k, none⟩)) (hA : At W g c T) (v : Value) (hk : c[k]? = some v) (hK : K (a.put o.dst v)) : o.quiet P a (Cb W) K :=
  q_load ty x ho _ hx v (fun w hw => run_load_one w ty d hu hd _ v (At.cell (At.step hA hw) hk)) hK

theorem two_of8 {i j k : Nat} (h : i ∈ [j, k]) : i = j ∨ i = k := by simpa using h
theorem run_oneSl (W : World) (b : List Bool) (hb : b.length = 8) (t : Int) : (Instr.buildSlice 26 1 #[(0, .agg (sl1 b t))]).run Try.prog W = .ok (.slice (some ⟨W.heap.size, 0, none⟩) 1 1) (W.alloc (.cells (sl1 b t) 49)) :=
  match b, hb with
  | [_, _, _, _, _, _, _, _], _ => by kernel_rfl

theorem one_cellsSl (w : World) (s : List Bool × Int) : ∀ j u, (sll s)[j]? = some u → (w.alloc (.cells (sl1 s.1 s.2) 49)).cell? ((⟨w.heap.size, 0, none⟩ : Addr).add j) = some u := by
  intro j u h
  have e : (⟨w.heap.size, 0, none⟩ : Addr).add j = ⟨w.heap.size, j, none⟩ := by
    unfold Addr.add
    by_cases z : j = 0
    · subst z; rfl
    · rw [if_neg z]; congr 1; show 0 + j = j; omega
  rw [e]
  refine (At.new w (sl1 s.1 s.2) 49).cell ?_
  rw [← Array.getElem?_toList, sl1_list]
  exact h

theorem OwnSl.grown {w' : World} {lo : Nat} {v : Value} {xs : Slots} {s : List Bool × Int} (h : w'.ownsRow lo 49 9 v (xs.length + 1) (slL xs ++ sll s)) : OwnSl w' lo v (xs ++ [s]) := by
  unfold OwnSl
  have e : slL (xs ++ [s]) = slL xs ++ sll s := by unfold slL; simp
  rw [e, List.length_append]
  exact h

theorem OwnSl.keepG {w w' : World} {lo : Nat} {v : Value} {xs : Slots} {r : Option Nat} (h : OwnSl w lo v xs) (hg : w.grownBy w' r) (hne : ∀ q, r = some q → v.ownBlock ≠ some q) : OwnSl w' lo v xs := by
  refine ⟨h.1, h.2.imp id ?_⟩
  rintro ⟨g, cap, cur, rfl, h1, h2, h3, h4, h5, h6⟩
  exact ⟨g, cap, cur, rfl, h1, At.keepF h2 hg (fun q hq e => hne q hq (by rw [e]; rfl)), h3, h4, h5, h6⟩

theorem OwnF.keepG {w w' : World} {lo : Nat} {v : Value} {ys : List Nat} {r : Option Nat} (h : OwnF w lo v ys) (hg : w.grownBy w' r) (hne : ∀ q, r = some q → v.ownBlock ≠ some q) : OwnF w' lo v ys := by
  refine ⟨h.1, h.2.imp id ?_⟩
  rintro ⟨g, cap, cur, rfl, h1, h2, h3, h4, h5, h6⟩
  exact ⟨g, cap, cur, rfl, h1, At.keepF h2 hg (fun q hq e => hne q hq (by rw [e]; rfl)), h3, h4, h5, h6⟩

/-- slots and floats do not lie in one block -/
theorem own_apart {w : World} {lo lo2 : Nat} {v u : Value} {xs : Slots} {ys : List Nat} (h1 : OwnSl w lo v xs) (h2 : OwnF w lo2 u ys) : ∀ q, u.ownBlock = some q → v.ownBlock ≠ some q := by
  intro q hq hv
  rcases h1.2 with ⟨rfl, -⟩ | ⟨g, cap, cur, rfl, -, a1, -⟩
  · cases hv
  · rcases h2.2 with ⟨rfl, -⟩ | ⟨g', cap', cur', rfl, -, a2, -⟩
    · cases hq
    · have e1 : g = q := by simpa [Value.ownBlock] using hv
      have e2 : g' = q := by simpa [Value.ownBlock] using hq
      subst e1 e2
      rw [a1] at a2
      simp at a2

theorem slY_get {xs : Slots} {zs : Array Value} {i : Nat} (hW : SlW xs) (hi : i < xs.length * 9) : (slY xs zs)[i]? = (slC xs)[i]? := by
  unfold slY
  rw [Array.getElem?_append_left (by rw [slC_size hW]; exact hi)]

theorem slY_inc {xs : Slots} {zs : Array Value} {j : Nat} (hW : SlW xs) (hj : j < xs.length) (hx : I64 (st xs j + 1)) : (slY xs zs).setIfInBounds (j * 9 + 8) (.int .i64 (st xs j + 1)) = slY (inc xs j) zs := by
  have hs := slC_size hW
  unfold slY
  rw [← slC_inc hW hj hx]
  apply Array.ext_getElem?
  intro i
  rw [Array.getElem?_setIfInBounds]
  by_cases c : i < xs.length * 9
  · have e1 : ((slC xs).setIfInBounds (j * 9 + 8) (.int .i64 (st xs j + 1)) ++ zs)[i]? = ((slC xs).setIfInBounds (j * 9 + 8) (.int .i64 (st xs j + 1)))[i]? := Array.getElem?_append_left (by rw [Array.size_setIfInBounds]; omega)
    rw [e1, Array.getElem?_setIfInBounds, Array.getElem?_append_left (by omega)]
    by_cases e : j * 9 + 8 = i
    · rw [if_pos e, if_pos e, if_pos (by rw [Array.size_append]; omega), if_pos (by omega)]
    · rw [if_neg e, if_neg e]
  · have e1 : ((slC xs).setIfInBounds (j * 9 + 8) (.int .i64 (st xs j + 1)) ++ zs)[i]? = zs[i - (slC xs).size]? := by
      rw [Array.getElem?_append_right (by rw [Array.size_setIfInBounds]; omega), Array.size_setIfInBounds]
    rw [e1, if_neg (by omega), Array.getElem?_append_right (by omega)]

theorem OwnSl.atY {w : World} {lo : Nat} {v : Value} {xs : Slots} (h : OwnSl w lo v xs) (hn : xs.length ≠ 0) (hW : SlW xs) : ∃ g cap zs, v = .slice (some ⟨g, 0, none⟩) xs.length cap ∧ lo ≤ g ∧ At w g (slY xs zs) 49 ∧ xs.length ≤ cap ∧ cap ≤ maxLen ∧ (slY xs zs).size = cap * 9 := by
  rcases h.2 with ⟨-, h0⟩ | ⟨g, cap, cur, rfl, h1, h2, h3, h4, h5, h6⟩
  · exact absurd h0 hn
  · have e : slY xs (cur.extract (xs.length * 9) cur.size) = cur := by
      have hs := slC_size hW
      apply Array.ext_getElem?
      intro j
      unfold slY
      by_cases c : j < xs.length * 9
      · rw [Array.getElem?_append_left (by omega), ← slL_toC, List.getElem?_toArray, ← h6, List.getElem?_take_of_lt c, Array.getElem?_toList]
      · rw [Array.getElem?_append_right (by omega), Array.getElem?_extract, hs]
        by_cases d : j < cur.size
        · rw [if_pos (by omega)]; congr 1; omega
        · rw [if_neg (by omega), Array.getElem?_eq_none (by omega)]
    exact ⟨g, cap, cur.extract (xs.length * 9) cur.size, rfl, h1, by rw [e]; exact h2, h3, h4, by rw [e]; exact h5⟩

theorem OwnSl.of_atY {w : World} {lo g cap : Nat} {xs : Slots} {zs : Array Value} (h : At w g (slY xs zs) 49) (hW : SlW xs) (hl : lo ≤ g) (h3 : xs.length ≤ cap) (h4 : cap ≤ maxLen) (h5 : (slY xs zs).size = cap * 9) : OwnSl w lo (.slice (some ⟨g, 0, none⟩) xs.length cap) xs :=
  ⟨slL_length hW, .inr ⟨g, cap, slY xs zs, rfl, hl, h, h3, h4, h5, by
    unfold slY
    rw [Array.toList_append, ← slL_toC]
    show ((slL xs) ++ zs.toList).take _ = slL xs
    rw [← slL_length hW]
    exact List.take_left⟩⟩

/-- the weights of the first k phases -/
def wtL (ds : List Nat) (ps : List P8) (k : Nat) : List Nat := (List.range k).map fun i => wtK ds (fe z8 ps i).1 8

theorem wtL_len (ds : List Nat) (ps : List P8) (k : Nat) : (wtL ds ps k).length = k := by simp [wtL]

theorem wtL_next (ds : List Nat) (ps : List P8) (k : Nat) : wtL ds ps k ++ [wtK ds (fe z8 ps k).1 8] = wtL ds ps (k + 1) := by
  unfold wtL
  rw [List.range_succ, List.map_append]
  rfl

theorem wtL_nth (ds : List Nat) (ps : List P8) {k i : Nat} (h : i < k) : nth (wtL ds ps k) i = wtK ds (fe z8 ps i).1 8 := by
  show ((wtL ds ps k)[i]?).getD 0 = _
  unfold wtL
  rw [List.getElem?_map, List.getElem?_range h]
  rfl

theorem ones_take {ps : List P8} {k : Nat} (h : k < ps.length) : ones (ps.take k) ++ [((fe z8 ps k).1, 1)] = ones (ps.take (k + 1)) := by
  unfold ones fe
  rw [List.take_succ_eq_append_getElem h, List.map_append, List.getD_eq_getElem?_getD, List.getElem?_eq_getElem h]
  rfl

theorem ones_tlen {ps : List P8} {k : Nat} (h : k ≤ ps.length) : (ones (ps.take k)).length = k := by rw [ones_len, List.length_take]; omega

theorem all_tk_no {ds : List Nat} {k : Nat} (h : (ds.take k).all amtB = false) : (ds.take (k + 1)).all amtB = false := by
  rw [List.take_add_one, List.all_append, h]; rfl

theorem all_tk_yes {ds : List Nat} {k : Nat} (hk : k < ds.length) (h : (ds.take k).all amtB = true) : (ds.take (k + 1)).all amtB = amtB (nth ds k) := by
  have e : nth ds k = ds[k] := by
    show (ds[k]?).getD 0 = _
    rw [List.getElem?_eq_getElem hk, Option.getD_some]
  rw [List.take_succ_eq_append_getElem hk, List.all_append, h, ← e]
  simp

end Go.Proofs.Ytlpbehokcogcpaa
