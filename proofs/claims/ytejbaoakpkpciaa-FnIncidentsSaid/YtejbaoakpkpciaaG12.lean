/-
  SEVERAL TEXTS IN ONE.
-/
import Derived.Test.YtejbaoakpkpciaaDrawn
import Derived.Test.YtejbaoakpkpciaaG11
import Derived.Test.YtejbaoakpkpciaaOwnT

/-
  CONTRACTS: phases and movements drawn from bytes, whatever the bytes.
-/
namespace Go.Proofs.Ytejbaoakpkpciaa
open Go Go.RowKit
set_option maxRecDepth 100000

theorem one_e {w0 w : World} {g : Nat} {ad : Option Addr} {cp : Nat} {bs : List Nat} {k : Nat} (h : Draws w0 g ad cp bs k w) (hk : k < 1000000) (n : Nat) (h1 : 1 < n) (h2 : n ≤ 200) :
    Calls Try.prog 30 #[.pointer (some ⟨g, 0, none⟩), .int .i64 (n : Int)] w fun e w' => ∃ b : Bool, e = .returned (.bool b) ∧ Only g w w' ∧ Draws w0 g ad cp bs (k + 1) w' := by
  have K := pick_e h hk n h1 h2
  clear h
  go_enter Try.func30, Try.ntmps30
  go_wp2_with fail
  refine K.mono ?_
  rintro e w1 ⟨m, rfl, -, hO, hD⟩
  by_cases z : (m : Int) = 0
  · have z1 : ((m : Int) == 0) = true := by simpa using z
    go_wp2_with fail
    go_ret
    exact ⟨_, rfl, hO, hD⟩
  · have z1 : ((m : Int) == 0) = false := by simpa using z
    go_wp2_with fail
    go_ret
    exact ⟨_, rfl, hO, hD⟩

theorem results_twoM {P : Program} {fn : Func} {p q u : Tmp} {ty1 ty2 : TypeId} (h : fn.results = #[.cell p ty1, .cell q ty2, .tmp u]) (tmps : Array Value) (W : World) (g1 : Nat) (c1 : Array Value) (T1 : TypeId) (g2 : Nat) (c2 : Array Value) (T2 : TypeId) (v : Value)
    (hp : tmps.getD p undef = .pointer (some ⟨g1, 0, none⟩)) (hq : tmps.getD q undef = .pointer (some ⟨g2, 0, none⟩)) (hv : tmps.getD u undef = v) (hA1 : At W g1 c1 T1) (hA2 : At W g2 c2 T2)
    (d1 : TypeDesc) (hu1 : P.underlying ty1 = some d1) (hd1 : (match d1 with | .struct _ | .array _ _ => true | _ => false) = true) (n1 : Nat) (hn1 : c1.size = n1) (hi1 : (P.info? ty1).map (·.size) = some n1)
    (d2 : TypeDesc) (hu2 : P.underlying ty2 = some d2) (hd2 : (match d2 with | .struct _ | .array _ _ => true | _ => false) = true) (n2 : Nat) (hn2 : c2.size = n2) (hi2 : (P.info? ty2).map (·.size) = some n2) :
    (results fn tmps).run P W = .ok (.tuple #[.agg c1, .agg c2, v]) W := by
  have e : (results fn tmps).run P W = ((asAddr (tmps.getD p undef)).run P W).andThen fun a w₁ => ((loadVar ty1 a).run P w₁).andThen fun v1 w₂ => ((asAddr (tmps.getD q undef)).run P w₂).andThen fun b w₃ => ((loadVar ty2 b).run P w₃).andThen fun v2 w₄ => .ok (.tuple #[v1, v2, tmps.getD u undef]) w₄ := by
    simp only [results, h]
    simp [Sem.run_bind, Result.andThen]
  rw [e, hp, hq, hv]
  have l1 := run_loadVar_row (P := P) W g1 T1 ty1 c1 (0, 0) d1 hA1 hu1 hd1 (by rw [hn1]; exact hi1)
  have l2 := run_loadVar_row (P := P) W g2 T2 ty2 c2 (0, 0) d2 hA2 hu2 hd2 (by rw [hn2]; exact hi2)
  simp only [asAddr, Sem.run_pure, Result.andThen_ok, l1, l2]

theorem hx_addI {P : Program} {o : Oper} {a : Act} {w w' : World} {v : Value} (ty : TypeId) (x y : Operand) {T : TypeId} (ho : o.op = .binOp .add ty x y T) (v1 v2 : Value) (h1 : a.eval x = v1) (h2 : a.eval y = v2) (hrun : (binOp .add ty v1 v2).run P w = .ok v w') : (execOp a.eval o).run P w = .ok (.value v) w' := by
  unfold execOp
  simp [ho, h1, h2, eqGuard, hrun, Result.andThen]

theorem hx_remI {P : Program} {o : Oper} {a : Act} {w w' : World} {v : Value} (ty : TypeId) (x y : Operand) {T : TypeId} (ho : o.op = .binOp .rem ty x y T) (v1 v2 : Value) (h1 : a.eval x = v1) (h2 : a.eval y = v2) (hrun : (binOp .rem ty v1 v2).run P w = .ok v w') : (execOp a.eval o).run P w = .ok (.value v) w' := by
  unfold execOp
  simp [ho, h1, h2, eqGuard, hrun, Result.andThen]

theorem fin_add {m : Nat} (hm : m < 4) (t : TypeId) (W : World) : (binOp .add t (.int .i64 (m : Int)) (.int .i64 1)).run Try.prog W = .ok (.int .i64 ((m + 1 : Nat) : Int)) W := by
  rcases (by omega : m = 0 ∨ m = 1 ∨ m = 2 ∨ m = 3) with rfl | rfl | rfl | rfl <;> kernel_rfl

theorem fin_add2 {m x : Nat} (hm : m < 4) (hx : x < 3) (t : TypeId) (W : World) : (binOp .add t (.int .i64 ((m + 1 : Nat) : Int)) (.int .i64 (x : Int))).run Try.prog W = .ok (.int .i64 ((m + 1 + x : Nat) : Int)) W := by
  rcases (by omega : m = 0 ∨ m = 1 ∨ m = 2 ∨ m = 3) with rfl | rfl | rfl | rfl <;> rcases (by omega : x = 0 ∨ x = 1 ∨ x = 2) with rfl | rfl | rfl <;> kernel_rfl

theorem fin_rem {m x : Nat} (hm : m < 4) (hx : x < 3) (t : TypeId) (W : World) : (binOp .rem t (.int .i64 ((m + 1 + x : Nat) : Int)) (.int .i64 4)).run Try.prog W = .ok (.int .i64 (((m + 1 + x) % 4 : Nat) : Int)) W := by
  rcases (by omega : m = 0 ∨ m = 1 ∨ m = 2 ∨ m = 3) with rfl | rfl | rfl | rfl <;> rcases (by omega : x = 0 ∨ x = 1 ∨ x = 2) with rfl | rfl | rfl <;> kernel_rfl

def zi8 : List Int := List.replicate 8 0

theorem zi8_len : zi8.length = 8 := rfl

/-- movements drawn: the first n are ways, the rest is nothing -/
structure MvOk (fs ts : List Int) (n : Nat) : Prop where
  hf : fs.length = 8
  ht : ts.length = 8
  way : ∀ i, i < n → ∃ m x : Nat, m < 4 ∧ x < 3 ∧ ith fs i = (m : Int) ∧ ith ts i = (((m + 1 + x) % 4 : Nat) : Int)
  non : ∀ i, n ≤ i → i < 8 → ith fs i = 0 ∧ ith ts i = 0

theorem ith_set {xs : List Int} {i j : Nat} {y : Int} (hi : i < xs.length) : ith (xs.set i y) j = if i = j then y else ith xs j := by
  unfold ith
  rw [List.getD_eq_getElem?_getD, List.getD_eq_getElem?_getD, List.getElem?_set]
  by_cases c : i = j
  · rw [if_pos c, if_pos c, if_pos hi]; rfl
  · rw [if_neg c, if_neg c]

theorem MvOk.zero : MvOk zi8 zi8 0 := ⟨rfl, rfl, fun i h => by omega, fun i _ hi => by
  rcases (by omega : i = 0 ∨ i = 1 ∨ i = 2 ∨ i = 3 ∨ i = 4 ∨ i = 5 ∨ i = 6 ∨ i = 7) with rfl | rfl | rfl | rfl | rfl | rfl | rfl | rfl <;> exact ⟨rfl, rfl⟩⟩

theorem MvOk.next {fs ts : List Int} {n m x : Nat} (h : MvOk fs ts n) (hn : n < 8) (hm : m < 4) (hx : x < 3) : MvOk (fs.set n (m : Int)) (ts.set n (((m + 1 + x) % 4 : Nat) : Int)) (n + 1) := by
  refine ⟨by rw [List.length_set]; exact h.hf, by rw [List.length_set]; exact h.ht, fun i hi => ?_, fun i h1 h2 => ?_⟩
  · rw [ith_set (by rw [h.hf]; exact hn), ith_set (by rw [h.ht]; exact hn)]
    by_cases c : n = i
    · rw [if_pos c, if_pos c]; exact ⟨m, x, hm, hx, rfl, rfl⟩
    · rw [if_neg c, if_neg c]; exact h.way i (by omega)
  · rw [ith_set (by rw [h.hf]; exact hn), ith_set (by rw [h.ht]; exact hn), if_neg (by omega), if_neg (by omega)]
    exact h.non i (by omega) h2

theorem from_draws {ad : Option Addr} {cp : Nat} {bs : List Nat} {w w1 : World} (hC : BSl w ad bs) (hb : Below w.heap.size w w1) (hA : At w1 w.heap.size (srcC ad bs.length cp 0 0) 58) : Draws w w.heap.size ad cp bs 0 w1 :=
  ⟨hC, Nat.le_refl _, hb, ⟨0, 0, Nat.le_refl _, hA⟩⟩

theorem P6Pick_e (ad : Option Addr) (cp : Nat) (bs : List Nat) (n : Nat) (h1 : 1 < n) (h2 : n ≤ 200) (w : World) (hC : BSl w ad bs) :
    Calls Try.prog 6 #[.slice ad bs.length cp, .int .i64 (n : Int)] w fun e w' => ∃ m : Nat, e = .returned (.int .i64 (m : Int)) ∧ m < n ∧ Below w.heap.size w w' := by
  have K := l00From_b ad cp bs w
  go_enter Try.func6, Try.ntmps6
  go_wp2_with fail
  refine K.mono ?_
  rintro e w1 ⟨rfl, hb1, A1⟩
  have D1 := from_draws hC hb1 A1
  clear K A1
  go_wp2_with fail
  refine (pick_e D1 (by omega) n h1 h2).mono ?_
  rintro e w2 ⟨m, rfl, hm, hO, hD⟩
  go_wp2_with fail
  go_ret
  exact ⟨m, rfl, hm, hD.below⟩

end Go.Proofs.Ytejbaoakpkpciaa

/-
  ROWS OF TALLIES, AND WHAT LIES BEHIND THEM.
-/
namespace Go.Proofs.Ytejbaoakpkpciaa
open Go Go.RowKit
set_option maxRecDepth 100000

/-- tallies, and what lies behind them -/
def tY (xs : Ts) (zs : Array Value) : Array Value := tC xs ++ zs

theorem tY_size (xs : Ts) (zs : Array Value) : xs.length * 3 ≤ (tY xs zs).size := by
  unfold tY
  rw [Array.size_append, tC_size]
  omega

theorem tY_low {xs : Ts} {zs : Array Value} {k : Nat} (h : k < xs.length * 3) : (tY xs zs)[k]? = (tC xs)[k]? := by
  unfold tY
  rw [Array.getElem?_append_left (by rw [tC_size]; exact h)]

theorem tY_turn {xs : Ts} {zs : Array Value} {i k : Nat} (hi : i < xs.length) (hk : k = i * 3) : (tY xs zs)[k]? = some (.int .i64 (tn xs i)) := by
  rw [tY_low (by omega)]; exact tC_turn hi hk

theorem tY_count {xs : Ts} {zs : Array Value} {i k : Nat} (hi : i < xs.length) (hk : k = i * 3 + 1) : (tY xs zs)[k]? = some (.int .i16 (tc xs i)) := by
  rw [tY_low (by omega)]; exact tC_count hi hk

theorem tY_full {xs : Ts} {zs : Array Value} {i k : Nat} (hi : i < xs.length) (hk : k = i * 3 + 2) : (tY xs zs)[k]? = some (.int .i16 (tf xs i)) := by
  rw [tY_low (by omega)]; exact tC_full hi hk

theorem tY_tally {xs : Ts} (zs : Array Value) {i k : Nat} (hi : i < xs.length) (hk : k = i * 3) : (tY xs zs).extract k (k + 3) = t1 (tn xs i) (tc xs i) (tf xs i) := by
  rw [← tC_tally hi hk]
  subst hk
  have hs := tC_size xs
  apply Array.ext_getElem?
  intro j
  rw [Array.getElem?_extract, Array.getElem?_extract]
  by_cases c : j < 3
  · rw [if_pos (by have := tY_size xs zs; omega), if_pos (by omega), tY_low (by omega)]
  · rw [if_neg (by omega), if_neg (by omega)]

theorem OwnT.atY {w : World} {lo : Nat} {v : Value} {xs : Ts} (h : OwnT w lo v xs) (hn : xs.length ≠ 0) : ∃ g cap zs, v = .slice (some ⟨g, 0, none⟩) xs.length cap ∧ lo ≤ g ∧ At w g (tY xs zs) 32 ∧ xs.length ≤ cap := by
  obtain ⟨g, cap, cur, rfl, h1, h2, h3, h4, h5⟩ := h.at hn
  have e : tY xs (cur.extract (xs.length * 3) cur.size) = cur := by
    have hs := tC_size xs
    apply Array.ext_getElem?
    intro j
    unfold tY
    by_cases c : j < xs.length * 3
    · rw [Array.getElem?_append_left (by omega), h5 j c, ← tL_toC, List.getElem?_toArray]
    · rw [Array.getElem?_append_right (by omega), Array.getElem?_extract, hs]
      by_cases d : j < cur.size
      · rw [if_pos (by omega)]; congr 1; omega
      · rw [if_neg (by omega), Array.getElem?_eq_none (by omega)]
  exact ⟨g, cap, cur.extract (xs.length * 3) cur.size, rfl, h1, by rw [e]; exact h2, h3⟩

theorem OwnT.atN {w : World} {lo : Nat} {v : Value} {xs : Ts} (h : OwnT w lo v xs) (hn : v ≠ .slice none 0 0) : ∃ g cap zs, v = .slice (some ⟨g, 0, none⟩) xs.length cap ∧ lo ≤ g ∧ At w g (tY xs zs) 32 ∧ xs.length ≤ cap := by
  obtain ⟨g, cap, cur, rfl, h1, h2, h3, h4, h5⟩ : ∃ g cap cur, v = .slice (some ⟨g, 0, none⟩) xs.length cap ∧ lo ≤ g ∧ At w g cur 32 ∧ xs.length ≤ cap ∧ xs.length * 3 ≤ cur.size ∧ ∀ p, p < xs.length * 3 → cur[p]? = (tL xs)[p]? := by
    rcases h.2 with ⟨e, -⟩ | ⟨g, cap, cur, rfl, h1, h2, h3, h4, h5, h6⟩
    · exact absurd e hn
    · refine ⟨g, cap, cur, rfl, h1, h2, h3, by omega, fun p hp => ?_⟩
      rw [← h6, List.getElem?_take_of_lt hp, Array.getElem?_toList]
  have e : tY xs (cur.extract (xs.length * 3) cur.size) = cur := by
    have hs := tC_size xs
    apply Array.ext_getElem?
    intro j
    unfold tY
    by_cases c : j < xs.length * 3
    · rw [Array.getElem?_append_left (by omega), h5 j c, ← tL_toC, List.getElem?_toArray]
    · rw [Array.getElem?_append_right (by omega), Array.getElem?_extract, hs]
      by_cases d : j < cur.size
      · rw [if_pos (by omega)]; congr 1; omega
      · rw [if_neg (by omega), Array.getElem?_eq_none (by omega)]
  exact ⟨g, cap, cur.extract (xs.length * 3) cur.size, rfl, h1, by rw [e]; exact h2, h3⟩

end Go.Proofs.Ytejbaoakpkpciaa
