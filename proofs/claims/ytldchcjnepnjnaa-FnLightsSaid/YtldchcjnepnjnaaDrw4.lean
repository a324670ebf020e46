/-
  CONTRACTS: phases and movements drawn from bytes, whatever the bytes.
-/
import Derived.Test.YtldchcjnepnjnaaG11
import Derived.Test.YtldchcjnepnjnaaG10
namespace Go.Proofs.Ytldchcjnepnjnaa
open Go Go.RowKit
set_option maxRecDepth 100000

theorem one_e {w0 w : World} {g : Nat} {ad : Option Addr} {cp : Nat} {bs : List Nat} {k : Nat} (h : Draws w0 g ad cp bs k w) (hk : k < 1000000) (n : Nat) (h1 : 1 < n) (h2 : n ≤ 200) :
    Calls Try.prog 26 #[.pointer (some ⟨g, 0, none⟩), .int .i64 (n : Int)] w fun e w' => ∃ b : Bool, e = .returned (.bool b) ∧ Only g w w' ∧ Draws w0 g ad cp bs (k + 1) w' := by
  have K := pick_e h hk n h1 h2
  clear h
  go_enter Try.func26, Try.ntmps26
  go_wp2_with fail
  refine K.mono ?_
  rintro e w1 ⟨m, rfl, -, hO, hD⟩
  by_cases z : (m : Int) = 0
  · have z1 : ((m : Int) == 0) = true := by simpa using z
    go_wp2_with fail
    go_ret
    exact ⟨_, rfl, hO, hD⟩
  · have z1 : ((m : Int) == 0) = false := by simpa using z
    go_wp2_with fail
    go_ret
    exact ⟨_, rfl, hO, hD⟩

set_option maxHeartbeats 1000000 in
theorem phase_e {w0 w : World} {g : Nat} {ad : Option Addr} {cp : Nat} {bs : List Nat} {k : Nat} (h : Draws w0 g ad cp bs k w) (hk : k < 1000) :
    Calls Try.prog 14 #[.pointer (some ⟨g, 0, none⟩)] w fun e w' => ∃ ps : List Bool, e = .returned (.agg (bl ps)) ∧ ps.length = 8 ∧ Below g w w' := by
  have hgw := h.lt
  have hlo := h.lo
  have hsz0 := h.below.size
  have R0 := At.new w (#[.bool false, .bool false, .bool false, .bool false, .bool false, .bool false, .bool false, .bool false]) 29
  have P0 : At ((w.alloc (.cells (#[.bool false, .bool false, .bool false, .bool false, .bool false, .bool false, .bool false, .bool false]) 29)).alloc (.cells (#[.bool false, .bool false, .bool false, .bool false, .bool false, .bool false, .bool false, .bool false]) 29)) (w.heap.size + 1) (#[.bool false, .bool false, .bool false, .bool false, .bool false, .bool false, .bool false, .bool false]) 29 := At.last1 w _ _ _
  have P1 := P0.setRow (bl (noes 8))
  have R1 := (R0.alloc (.cells (#[.bool false, .bool false, .bool false, .bool false, .bool false, .bool false, .bool false, .bool false]) 29)).setRow_other (k := w.heap.size + 1) (by omega) (bl (noes 8))
  have D1 := (((h.step (b0 w (.cells (#[.bool false, .bool false, .bool false, .bool false, .bool false, .bool false, .bool false, .bool false]) 29))).step (b0 _ (.cells (#[.bool false, .bool false, .bool false, .bool false, .bool false, .bool false, .bool false, .bool false]) 29))).row (r := w.heap.size + 1) (by omega) (by omega) (bl (noes 8)))
  have B1 := Lib.hid ((bset (bnew (b0 w (.cells (#[.bool false, .bool false, .bool false, .bool false, .bool false, .bool false, .bool false, .bool false]) 29)) (.cells (#[.bool false, .bool false, .bool false, .bool false, .bool false, .bool false, .bool false, .bool false]) 29)) (g := w.heap.size + 1) (by omega) (bl (noes 8))).mono (Nat.le_of_lt hgw))
  clear h
  go_enter Try.func14, Try.ntmps14
  go_wp2_with (first | ((with_reducible refine is_bld 29 _ rfl ?_); refine wpList_bld rfl 29 _ rfl #[] (by kernel_rfl) (bl (noes 8)) (by kernel_rfl) ?_) | ((with_reducible refine is_store 29 _ _ rfl ?_); refine wpList_store_at rfl 29 _ _ rfl _ rfl (bl (noes 8)) rfl (#[.bool false, .bool false, .bool false, .bool false, .bool false, .bool false, .bool false, .bool false]) _ (by with_reducible assumption) 8 (rfl) (rfl) (by kernel_rfl) (bl_one _) ?_))
  generalize ((w.alloc (.cells (#[.bool false, .bool false, .bool false, .bool false, .bool false, .bool false, .bool false, .bool false]) 29)).alloc (.cells (#[.bool false, .bool false, .bool false, .bool false, .bool false, .bool false, .bool false, .bool false]) 29)).setRow (w.heap.size + 1) (bl (noes 8)) = w1 at R1 P1 D1 B1 ⊢
  clear R0 P0
  go_loopw [4] (fun n wr => ∃ i : Nat, ∃ ps : List Bool, i ≤ 8 ∧ n = .int .i64 (i : Int) ∧ ps.length = 8 ∧ At wr (w.heap.size + 1) (bl ps) 29 ∧ At wr w.heap.size (#[.bool false, .bool false, .bool false, .bool false, .bool false, .bool false, .bool false, .bool false]) 29 ∧ Draws w0 g ad cp bs (k + i) wr ∧ Hid (Below g w wr)) (fun n _ => 8 - (intOf n).toNat)
  case atStart => exact ⟨0, noes 8, by omega, rfl, noes_len 8, P1, R1, D1, B1⟩
  case round =>
    clear R1 P1 D1 B1
    obtain ⟨i, ps, hi, rfl, hps, P2, R2, D2, B2⟩ := hrel
    by_cases hlt : i < 8
    · have s2 : IntKind.i64.wrap ((i : Int) + 1) = (i : Int) + 1 := IntWalk.i64_in _ (by omega)
      have K := one_e D2 (by omega) 3 (by omega) (by omega)
      have hsz : (bl ps).size = 8 := by rw [bl_size, hps]
      go_wp2_with fail
      refine K.mono ?_
      rintro e w3 ⟨b, rfl, O3, D3⟩
      have P3 := O3.at P2 (by omega)
      have R3 := O3.at R2 (by omega)
      have B3 := Lib.hid (B2.out.trans O3.below)
      have P4 := P3.setRow (bl (ps.set i b))
      have R4 := R3.setRow_other (k := w.heap.size + 1) (by omega) (bl (ps.set i b))
      have D4 := (D3.row (r := w.heap.size + 1) (by omega) (by omega) (bl (ps.set i b))).more (k2 := k + (i + 1)) (by omega)
      have B4 := Lib.hid (bset B3.out (g := w.heap.size + 1) (by omega) (bl (ps.set i b)))
      clear P2 R2 D2 B2 K O3
      go_wp2_with (((with_reducible refine is_store 4 _ _ rfl ?_); refine wpList_store_cell rfl 4 _ _ rfl _ i rfl (.bool b) rfl (bl ps) _ (by with_reducible assumption) (by rw [hsz]; omega) (by kernel_rfl) rfl (bl (ps.set i b)) (bl_set _ _ _) ?_))
      exact ⟨⟨i + 1, ps.set i b, by omega, by go_num, by rw [List.length_set]; exact hps, P4, R4, D4, B4⟩, by simp [intOf]; omega⟩
    · obtain rfl : i = 8 := by omega
      have hsz : (bl ps).size = 8 := by rw [bl_size, hps]
      have R3 := R2.setRow (bl ps)
      have B3 := Lib.hid (bset B2.out (g := w.heap.size) (Nat.le_of_lt hgw) (bl ps))
      go_wp2_with (first | ((with_reducible refine is_load 29 _ rfl ?_); refine wpList_load_at rfl 29 _ rfl _ rfl (bl ps) _ (by with_reducible assumption) 8 (hsz) _ Try.underlying29 rfl (by kernel_rfl) ?_) | ((with_reducible refine is_store 29 _ _ rfl ?_); refine wpList_store_at rfl 29 _ _ rfl _ rfl (bl ps) rfl (#[.bool false, .bool false, .bool false, .bool false, .bool false, .bool false, .bool false, .bool false]) _ (by with_reducible assumption) 8 (hsz) (rfl) (by kernel_rfl) (bl_one _) ?_))
      exact bodyPost_ret (v := .agg (bl ps)) (results_at (p := 2) (ty := 29) rfl _ _ _ (bl ps) _ rfl R3 _ Try.underlying29 rfl 8 hsz (by kernel_rfl)) rfl ⟨ps, rfl, hps, B3.out⟩

theorem results_twoM {P : Program} {fn : Func} {p q u : Tmp} {ty1 ty2 : TypeId} (h : fn.results = #[.cell p ty1, .cell q ty2, .tmp u]) (tmps : Array Value) (W : World) (g1 : Nat) (c1 : Array Value) (T1 : TypeId) (g2 : Nat) (c2 : Array Value) (T2 : TypeId) (v : Value)
    (hp : tmps.getD p undef = .pointer (some ⟨g1, 0, none⟩)) (hq : tmps.getD q undef = .pointer (some ⟨g2, 0, none⟩)) (hv : tmps.getD u undef = v) (hA1 : At W g1 c1 T1) (hA2 : At W g2 c2 T2)
    (d1 : TypeDesc) (hu1 : P.underlying ty1 = some d1) (hd1 : (match d1 with | .struct _ | .array _ _ => true | _ => false) = true) (n1 : Nat) (hn1 : c1.size = n1) (hi1 : (P.info? ty1).map (·.size) = some n1)
    (d2 : TypeDesc) (hu2 : P.underlying ty2 = some d2) (hd2 : (match d2 with | .struct _ | .array _ _ => true | _ => false) = true) (n2 : Nat) (hn2 : c2.size = n2) (hi2 : (P.info? ty2).map (·.size) = some n2) :
    (results fn tmps).run P W = .ok (.tuple #[.agg c1, .agg c2, v]) W := by
  have e : (results fn tmps).run P W = ((asAddr (tmps.getD p undef)).run P W).andThen fun a w₁ => ((loadVar ty1 a).run P w₁).andThen fun v1 w₂ => ((asAddr (tmps.getD q undef)).run P w₂).andThen fun b w₃ => ((loadVar ty2 b).run P w₃).andThen fun v2 w₄ => .ok (.tuple #[v1, v2, tmps.getD u undef]) w₄ := by
    simp only [results, h]
    simp [Sem.run_bind, Result.andThen]
  rw [e, hp, hq, hv]
  have l1 := run_loadVar_row (P := P) W g1 T1 ty1 c1 (0, 0) d1 hA1 hu1 hd1 (by rw [hn1]; exact hi1)
  have l2 := run_loadVar_row (P := P) W g2 T2 ty2 c2 (0, 0) d2 hA2 hu2 hd2 (by rw [hn2]; exact hi2)
  simp only [asAddr, Sem.run_pure, Result.andThen_ok, l1, l2]

theorem hx_addI {P : Program} {o : Oper} {a : Act} {w w' : World} {v : Value} (ty : TypeId) (x y : Operand) {T : TypeId} (ho : o.op = .binOp .add ty x y T) (v1 v2 : Value) (h1 : a.eval x = v1) (h2 : a.eval y = v2) (hrun : (binOp .add ty v1 v2).run P w = .ok v w') : (execOp a.eval o).run P w = .ok (.value v) w' := by
  unfold execOp
  simp [ho, h1, h2, eqGuard, hrun, Result.andThen]

theorem hx_remI {P : Program} {o : Oper} {a : Act} {w w' : World} {v : Value} (ty : TypeId) (x y : Operand) {T : TypeId} (ho : o.op = .binOp .rem ty x y T) (v1 v2 : Value) (h1 : a.eval x = v1) (h2 : a.eval y = v2) (hrun : (binOp .rem ty v1 v2).run P w = .ok v w') : (execOp a.eval o).run P w = .ok (.value v) w' := by
  unfold execOp
  simp [ho, h1, h2, eqGuard, hrun, Result.andThen]

theorem fin_add {m : Nat} (hm : m < 4) (t : TypeId) (W : World) : (binOp .add t (.int .i64 (m : Int)) (.int .i64 1)).run Try.prog W = .ok (.int .i64 ((m + 1 : Nat) : Int)) W := by
  rcases (by omega : m = 0 ∨ m = 1 ∨ m = 2 ∨ m = 3) with rfl | rfl | rfl | rfl <;> kernel_rfl

theorem fin_add2 {m x : Nat} (hm : m < 4) (hx : x < 3) (t : TypeId) (W : World) : (binOp .add t (.int .i64 ((m + 1 : Nat) : Int)) (.int .i64 (x : Int))).run Try.prog W = .ok (.int .i64 ((m + 1 + x : Nat) : Int)) W := by
  rcases (by omega : m = 0 ∨ m = 1 ∨ m = 2 ∨ m = 3) with rfl | rfl | rfl | rfl <;> rcases (by omega : x = 0 ∨ x = 1 ∨ x = 2) with rfl | rfl | rfl <;> kernel_rfl

theorem fin_rem {m x : Nat} (hm : m < 4) (hx : x < 3) (t : TypeId) (W : World) : (binOp .rem t (.int .i64 ((m + 1 + x : Nat) : Int)) (.int .i64 4)).run Try.prog W = .ok (.int .i64 (((m + 1 + x) % 4 : Nat) : Int)) W := by
  rcases (by omega : m = 0 ∨ m = 1 ∨ m = 2 ∨ m = 3) with rfl | rfl | rfl | rfl <;> rcases (by omega : x = 0 ∨ x = 1 ∨ x = 2) with rfl | rfl | rfl <;> kernel_rfl

def zi8 : List Int := List.replicate 8 0

theorem zi8_len : zi8.length = 8 := rfl

/-- movements drawn: the first n are ways, the rest is nothing -/
structure MvOk (fs ts : List Int) (n : Nat) : Prop where
  hf : fs.length = 8
  ht : ts.length = 8
  way : ∀ i, i < n → ∃ m x : Nat, m < 4 ∧ x < 3 ∧ ith fs i = (m : Int) ∧ ith ts i = (((m + 1 + x) % 4 : Nat) : Int)
  non : ∀ i, n ≤ i → i < 8 → ith fs i = 0 ∧ ith ts i = 0

theorem ith_set {xs : List Int} {i j : Nat} {y : Int} (hi : i < xs.length) : ith (xs.set i y) j = if i = j then y else ith xs j := by
  unfold ith
  rw [List.getD_eq_getElem?_getD, List.getD_eq_getElem?_getD, List.getElem?_set]
  by_cases c : i = j
  · rw [if_pos c, if_pos c, if_pos hi]; rfl
  · rw [if_neg c, if_neg c]

theorem MvOk.zero : MvOk zi8 zi8 0 := ⟨rfl, rfl, fun i h => by omega, fun i _ hi => by
  rcases (by omega : i = 0 ∨ i = 1 ∨ i = 2 ∨ i = 3 ∨ i = 4 ∨ i = 5 ∨ i = 6 ∨ i = 7) with rfl | rfl | rfl | rfl | rfl | rfl | rfl | rfl <;> exact ⟨rfl, rfl⟩⟩

theorem MvOk.next {fs ts : List Int} {n m x : Nat} (h : MvOk fs ts n) (hn : n < 8) (hm : m < 4) (hx : x < 3) : MvOk (fs.set n (m : Int)) (ts.set n (((m + 1 + x) % 4 : Nat) : Int)) (n + 1) := by
  refine ⟨by rw [List.length_set]; exact h.hf, by rw [List.length_set]; exact h.ht, fun i hi => ?_, fun i h1 h2 => ?_⟩
  · rw [ith_set (by rw [h.hf]; exact hn), ith_set (by rw [h.ht]; exact hn)]
    by_cases c : n = i
    · rw [if_pos c, if_pos c]; exact ⟨m, x, hm, hx, rfl, rfl⟩
    · rw [if_neg c, if_neg c]; exact h.way i (by omega)
  · rw [ith_set (by rw [h.hf]; exact hn), ith_set (by rw [h.ht]; exact hn), if_neg (by omega), if_neg (by omega)]
    exact h.non i (by omega) h2

theorem from_draws {ad : Option Addr} {cp : Nat} {bs : List Nat} {w w1 : World} (hC : BSl w ad bs) (hb : Below w.heap.size w w1) (hA : At w1 w.heap.size (srcC ad bs.length cp 0 0) 59) : Draws w w.heap.size ad cp bs 0 w1 :=
  ⟨hC, Nat.le_refl _, hb, ⟨0, 0, Nat.le_refl _, hA⟩⟩

theorem P6Phase_e (ad : Option Addr) (cp : Nat) (bs : List Nat) (w : World) (hC : BSl w ad bs) :
    Calls Try.prog 6 #[.slice ad bs.length cp] w fun e w' => ∃ ps : List Bool, e = .returned (.agg (bl ps)) ∧ ps.length = 8 ∧ Below w.heap.size w w' := by
  have R0 := At.new w (#[.bool false, .bool false, .bool false, .bool false, .bool false, .bool false, .bool false, .bool false]) 29
  have B0 := Lib.hid (b0 w (.cells (#[.bool false, .bool false, .bool false, .bool false, .bool false, .bool false, .bool false, .bool false]) 29))
  have hC0 := hC.step (b0 w (.cells (#[.bool false, .bool false, .bool false, .bool false, .bool false, .bool false, .bool false, .bool false]) 29)) (Nat.le_refl _)
  have K := l00From_b ad cp bs (w.alloc (.cells (#[.bool false, .bool false, .bool false, .bool false, .bool false, .bool false, .bool false, .bool false]) 29))
  clear hC
  go_enter Try.func6, Try.ntmps6
  go_wp2_with fail
  refine K.mono ?_
  rintro e w1 ⟨rfl, hb1, A1⟩
  have R1 := R0.step hb1
  have B1 := Lib.hid (bthen B0.out hb1)
  have D1 := from_draws hC0 hb1 A1
  have hsz : (w.alloc (.cells (#[.bool false, .bool false, .bool false, .bool false, .bool false, .bool false, .bool false, .bool false]) 29)).heap.size = w.heap.size + 1 := by simp
  rw [hsz] at D1
  clear R0 B0 K A1 hb1 hC0
  go_wp2_with fail
  refine (phase_e D1 (by omega)).mono ?_
  rintro e w2 ⟨ps, rfl, hps, hb2⟩
  have hz : (bl ps).size = 8 := by rw [bl_size, hps]
  have R2 : At w2 w.heap.size (#[.bool false, .bool false, .bool false, .bool false, .bool false, .bool false, .bool false, .bool false]) 29 := (hb2.block _ (by omega)).trans R1
  have B2 := Lib.hid (B1.out.trans (hb2.mono (by omega)))
  have R3 := R2.setRow (bl ps)
  have B3 := Lib.hid (bset B2.out (g := w.heap.size) (Nat.le_refl _) (bl ps))
  clear R1 B1 D1
  go_wp2_with (((with_reducible refine is_store 29 _ _ rfl ?_); refine wpList_store_at rfl 29 _ _ rfl _ rfl (bl ps) rfl (#[.bool false, .bool false, .bool false, .bool false, .bool false, .bool false, .bool false, .bool false]) _ (by with_reducible assumption) 8 (hz) (rfl) (by kernel_rfl) (bl_one _) ?_))
  exact bodyPost_ret (v := .agg (bl ps)) (results_at (p := 2) (ty := 29) rfl _ _ _ (bl ps) _ rfl R3 _ Try.underlying29 rfl 8 hz (by kernel_rfl)) rfl ⟨ps, rfl, hps, B3.out⟩

theorem P6Pick_e (ad : Option Addr) (cp : Nat) (bs : List Nat) (n : Nat) (h1 : 1 < n) (h2 : n ≤ 200) (w : World) (hC : BSl w ad bs) :
    Calls Try.prog 7 #[.slice ad bs.length cp, .int .i64 (n : Int)] w fun e w' => ∃ m : Nat, e = .returned (.int .i64 (m : Int)) ∧ m < n ∧ Below w.heap.size w w' := by
  have K := l00From_b ad cp bs w
  go_enter Try.func7, Try.ntmps7
  go_wp2_with fail
  refine K.mono ?_
  rintro e w1 ⟨rfl, hb1, A1⟩
  have D1 := from_draws hC hb1 A1
  clear K A1
  go_wp2_with fail
  refine (pick_e D1 (by omega) n h1 h2).mono ?_
  rintro e w2 ⟨m, rfl, hm, hO, hD⟩
  go_wp2_with fail
  go_ret
  exact ⟨m, rfl, hm, hD.below⟩

end Go.Proofs.Ytldchcjnepnjnaa
