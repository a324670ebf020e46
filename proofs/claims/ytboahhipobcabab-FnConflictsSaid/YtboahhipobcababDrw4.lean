/-
  CONTRACTS: phases and movements drawn from bytes, whatever the bytes.
-/
import Derived.Test.YtboahhipobcababDrawn
import Derived.Test.YtboahhipobcababIfc
import Derived.Test.YtboahhipobcababIl
namespace Go.Proofs.Ytboahhipobcabab
open Go Go.RowKit
set_option maxRecDepth 100000

theorem one_e {w0 w : World} {g : Nat} {ad : Option Addr} {cp : Nat} {bs : List Nat} {k : Nat} (h : Draws w0 g ad cp bs k w) (hk : k < 1000000) (n : Nat) (h1 : 1 < n) (h2 : n ≤ 200) :
    Calls Try.prog 127 #[.pointer (some ⟨g, 0, none⟩), .int .i64 (n : Int)] w fun e w' => ∃ b : Bool, e = .returned (.bool b) ∧ Only g w w' ∧ Draws w0 g ad cp bs (k + 1) w' := by
  have K := pick_e h hk n h1 h2
  clear h
  go_enter Try.func127, Try.ntmps127
  go_wp2_with fail
  refine K.mono ?_
  rintro e w1 ⟨m, rfl, -, hO, hD⟩
  by_cases z : (m : Int) = 0
  · have z1 : ((m : Int) == 0) = true := by simpa using z
    go_wp2_with fail
    go_ret
    exact ⟨_, rfl, hO, hD⟩
  · have z1 : ((m : Int) == 0) = false := by simpa using z
    go_wp2_with fail
    go_ret
    exact ⟨_, rfl, hO, hD⟩

set_option maxHeartbeats 1000000 in
theorem phase_e {w0 w : World} {g : Nat} {ad : Option Addr} {cp : Nat} {bs : List Nat} {k : Nat} (h : Draws w0 g ad cp bs k w) (hk : k < 1000) :
    Calls Try.prog 91 #[.pointer (some ⟨g, 0, none⟩)] w fun e w' => ∃ ps : List Bool, e = .returned (.agg (bl ps)) ∧ ps.length = 8 ∧ Below g w w' := by
  have hgw := h.lt
  have hlo := h.lo
  have hsz0 := h.below.size
  have R0 := At.new w (#[.bool false, .bool false, .bool false, .bool false, .bool false, .bool false, .bool false, .bool false]) 69
  have P0 : At ((w.alloc (.cells (#[.bool false, .bool false, .bool false, .bool false, .bool false, .bool false, .bool false, .bool false]) 69)).alloc (.cells (#[.bool false, .bool false, .bool false, .bool false, .bool false, .bool false, .bool false, .bool false]) 69)) (w.heap.size + 1) (#[.bool false, .bool false, .bool false, .bool false, .bool false, .bool false, .bool false, .bool false]) 69 := At.last1 w _ _ _
  have P1 := P0.setRow (bl (noes 8))
  have R1 := (R0.alloc (.cells (#[.bool false, .bool false, .bool false, .bool false, .bool false, .bool false, .bool false, .bool false]) 69)).setRow_other (k := w.heap.size + 1) (by omega) (bl (noes 8))
  have D1 := (((h.step (b0 w (.cells (#[.bool false, .bool false, .bool false, .bool false, .bool false, .bool false, .bool false, .bool false]) 69))).step (b0 _ (.cells (#[.bool false, .bool false, .bool false, .bool false, .bool false, .bool false, .bool false, .bool false]) 69))).row (r := w.heap.size + 1) (by omega) (by omega) (bl (noes 8)))
  have B1 := Lib.hid ((bset (bnew (b0 w (.cells (#[.bool false, .bool false, .bool false, .bool false, .bool false, .bool false, .bool false, .bool false]) 69)) (.cells (#[.bool false, .bool false, .bool false, .bool false, .bool false, .bool false, .bool false, .bool false]) 69)) (g := w.heap.size + 1) (by omega) (bl (noes 8))).mono (Nat.le_of_lt hgw))
  clear h
  go_enter Try.func91, Try.ntmps91
  go_wp2_with (first | ((with_reducible refine is_bld 69 _ rfl ?_); refine wpList_bld rfl 69 _ rfl #[] (by kernel_rfl) (bl (noes 8)) (by kernel_rfl) ?_) | ((with_reducible refine is_store 69 _ _ rfl ?_); refine wpList_store_at rfl 69 _ _ rfl _ rfl (bl (noes 8)) rfl (#[.bool false, .bool false, .bool false, .bool false, .bool false, .bool false, .bool false, .bool false]) _ (by with_reducible assumption) 8 (rfl) (rfl) (by kernel_rfl) (bl_one _) ?_))
  generalize ((w.alloc (.cells (#[.bool false, .bool false, .bool false, .bool false, .bool false, .bool false, .bool false, .bool false]) 69)).alloc (.cells (#[.bool false, .bool false, .bool false, .bool false, .bool false, .bool false, .bool false, .bool false]) 69)).setRow (w.heap.size + 1) (bl (noes 8)) = w1 at R1 P1 D1 B1 ⊢
  clear R0 P0
  go_loopw [4] (fun n wr => ∃ i : Nat, ∃ ps : List Bool, i ≤ 8 ∧ n = .int .i64 (i : Int) ∧ ps.length = 8 ∧ At wr (w.heap.size + 1) (bl ps) 69 ∧ At wr w.heap.size (#[.bool false, .bool false, .bool false, .bool false, .bool false, .bool false, .bool false, .bool false]) 69 ∧ Draws w0 g ad cp bs (k + i) wr ∧ Hid (Below g w wr)) (fun n _ => 8 - (intOf n).toNat)
  case atStart => exact ⟨0, noes 8, by omega, rfl, noes_len 8, P1, R1, D1, B1⟩
  case round =>
    clear R1 P1 D1 B1
    obtain ⟨i, ps, hi, rfl, hps, P2, R2, D2, B2⟩ := hrel
    by_cases hlt : i < 8
    · have s2 : IntKind.i64.wrap ((i : Int) + 1) = (i : Int) + 1 := IntWalk.i64_in _ (by omega)
      have K := one_e D2 (by omega) 3 (by omega) (by omega)
      have hsz : (bl ps).size = 8 := by rw [bl_size, hps]
      go_wp2_with fail
      refine K.mono ?_
      rintro e w3 ⟨b, rfl, O3, D3⟩
      have P3 := O3.at P2 (by omega)
      have R3 := O3.at R2 (by omega)
      have B3 := Lib.hid (B2.out.trans O3.below)
      have P4 := P3.setRow (bl (ps.set i b))
      have R4 := R3.setRow_other (k := w.heap.size + 1) (by omega) (bl (ps.set i b))
      have D4 := (D3.row (r := w.heap.size + 1) (by omega) (by omega) (bl (ps.set i b))).more (k2 := k + (i + 1)) (by omega)
      have B4 := Lib.hid (bset B3.out (g := w.heap.size + 1) (by omega) (bl (ps.set i b)))
      clear P2 R2 D2 B2 K O3
      go_wp2_with (((with_reducible refine is_store 4 _ _ rfl ?_); refine wpList_store_cell rfl 4 _ _ rfl _ i rfl (.bool b) rfl (bl ps) _ (by with_reducible assumption) (by rw [hsz]; omega) (by kernel_rfl) rfl (bl (ps.set i b)) (bl_set _ _ _) ?_))
      exact ⟨⟨i + 1, ps.set i b, by omega, by go_num, by rw [List.length_set]; exact hps, P4, R4, D4, B4⟩, by simp [intOf]; omega⟩
    · obtain rfl : i = 8 := by omega
      have hsz : (bl ps).size = 8 := by rw [bl_size, hps]
      have R3 := R2.setRow (bl ps)
      have B3 := Lib.hid (bset B2.out (g := w.heap.size) (Nat.le_of_lt hgw) (bl ps))
      go_wp2_with (first | ((with_reducible refine is_load 69 _ rfl ?_); refine wpList_load_at rfl 69 _ rfl _ rfl (bl ps) _ (by with_reducible assumption) 8 (hsz) _ Try.underlying69 rfl (by kernel_rfl) ?_) | ((with_reducible refine is_store 69 _ _ rfl ?_); refine wpList_store_at rfl 69 _ _ rfl _ rfl (bl ps) rfl (#[.bool false, .bool false, .bool false, .bool false, .bool false, .bool false, .bool false, .bool false]) _ (by with_reducible assumption) 8 (hsz) (rfl) (by kernel_rfl) (bl_one _) ?_))
      exact bodyPost_ret (v := .agg (bl ps)) (results_at (p := 2) (ty := 69) rfl _ _ _ (bl ps) _ rfl R3 _ Try.underlying69 rfl 8 hsz (by kernel_rfl)) rfl ⟨ps, rfl, hps, B3.out⟩

theorem results_twoM {P : Program} {fn : Func} {p q u : Tmp} {ty1 ty2 : TypeId} (h : fn.results = #[.cell p ty1, .cell q ty2, .tmp u]) (tmps : Array Value) (W : World) (g1 : Nat) (c1 : Array Value) (T1 : TypeId) (g2 : Nat) (c2 : Array Value) (T2 : TypeId) (v : Value)
    (hp : tmps.getD p undef = .pointer (some ⟨g1, 0, none⟩)) (hq : tmps.getD q undef = .pointer (some ⟨g2, 0, none⟩)) (hv : tmps.getD u undef = v) (hA1 : At W g1 c1 T1) (hA2 : At W g2 c2 T2)
    (d1 : TypeDesc) (hu1 : P.underlying ty1 = some d1) (hd1 : (match d1 with | .struct _ | .array _ _ => true | _ => false) = true) (n1 : Nat) (hn1 : c1.size = n1) (hi1 : (P.info? ty1).map (·.size) = some n1)
    (d2 : TypeDesc) (hu2 : P.underlying ty2 = some d2) (hd2 : (match d2 with | .struct _ | .array _ _ => true | _ => false) = true) (n2 : Nat) (hn2 : c2.size = n2) (hi2 : (P.info? ty2).map (·.size) = some n2) :
    (results fn tmps).run P W = .ok (.tuple #[.agg c1, .agg c2, v]) W := by
  have e : (results fn tmps).run P W = ((asAddr (tmps.getD p undef)).run P W).andThen fun a w₁ => ((loadVar ty1 a).run P w₁).andThen fun v1 w₂ => ((asAddr (tmps.getD q undef)).run P w₂).andThen fun b w₃ => ((loadVar ty2 b).run P w₃).andThen fun v2 w₄ => .ok (.tuple #[v1, v2, tmps.getD u undef]) w₄ := by
    simp only [results, h]
    simp [Sem.run_bind, Result.andThen]
  rw [e, hp, hq, hv]
  have l1 := run_loadVar_row (P := P) W g1 T1 ty1 c1 (0, 0) d1 hA1 hu1 hd1 (by rw [hn1]; exact hi1)
  have l2 := run_loadVar_row (P := P) W g2 T2 ty2 c2 (0, 0) d2 hA2 hu2 hd2 (by rw [hn2]; exact hi2)
  simp only [asAddr, Sem.run_pure, Result.andThen_ok, l1, l2]

theorem run_rowI {W : World} {g : Nat} {xs : List Int} {T : TypeId} (h : At W g (il xs) T) (hs : (il xs).size = 8) : (Instr.loadAt 74 (.pointer (some ⟨g, 0, none⟩))).run Try.prog W = .ok (.agg (il xs)) W := by
  have := run_loadAt_part (P := Try.prog) W g 0 8 74 (il xs) T (0, 0) _ h Try.underlying74 rfl (by kernel_rfl) (by omega)
  rwa [Nat.zero_add, Array.extract_eq_self_of_le (by omega)] at this

theorem run_store_rowI {W : World} {g : Nat} {old : Array Value} {xs : List Int} {T : TypeId} (h : At W g old T) (hs : (il xs).size = 8) (ho : old.size = 8 := by rfl) : (Instr.storeAt 74 (.pointer (some ⟨g, 0, none⟩)) (.agg (il xs))).run Try.prog W = .ok () (W.setRow g (il xs)) := by
  have := run_storeAt_part (P := Try.prog) W g 0 T 74 old (il xs) h (by rw [hs]; kernel_rfl) (by omega) (il_one _)
  rwa [splice_all (by omega)] at this

theorem hx_addI {P : Program} {o : Oper} {a : Act} {w w' : World} {v : Value} (ty : TypeId) (x y : Operand) {T : TypeId} (ho : o.op = .binOp .add ty x y T) (v1 v2 : Value) (h1 : a.eval x = v1) (h2 : a.eval y = v2) (hrun : (binOp .add ty v1 v2).run P w = .ok v w') : (execOp a.eval o).run P w = .ok (.value v) w' := by
  unfold execOp
  simp [ho, h1, h2, eqGuard, hrun, Result.andThen]

theorem hx_remI {P : Program} {o : Oper} {a : Act} {w w' : World} {v : Value} (ty : TypeId) (x y : Operand) {T : TypeId} (ho : o.op = .binOp .rem ty x y T) (v1 v2 : Value) (h1 : a.eval x = v1) (h2 : a.eval y = v2) (hrun : (binOp .rem ty v1 v2).run P w = .ok v w') : (execOp a.eval o).run P w = .ok (.value v) w' := by
  unfold execOp
  simp [ho, h1, h2, eqGuard, hrun, Result.andThen]

theorem fin_add {m : Nat} (hm : m < 4) (t : TypeId) (W : World) : (binOp .add t (.int .i64 (m : Int)) (.int .i64 1)).run Try.prog W = .ok (.int .i64 ((m + 1 : Nat) : Int)) W := by
  rcases (by omega : m = 0 ∨ m = 1 ∨ m = 2 ∨ m = 3) with rfl | rfl | rfl | rfl <;> kernel_rfl

theorem fin_add2 {m x : Nat} (hm : m < 4) (hx : x < 3) (t : TypeId) (W : World) : (binOp .add t (.int .i64 ((m + 1 : Nat) : Int)) (.int .i64 (x : Int))).run Try.prog W = .ok (.int .i64 ((m + 1 + x : Nat) : Int)) W := by
  rcases (by omega : m = 0 ∨ m = 1 ∨ m = 2 ∨ m = 3) with rfl | rfl | rfl | rfl <;> rcases (by omega : x = 0 ∨ x = 1 ∨ x = 2) with rfl | rfl | rfl <;> kernel_rfl

theorem fin_rem {m x : Nat} (hm : m < 4) (hx : x < 3) (t : TypeId) (W : World) : (binOp .rem t (.int .i64 ((m + 1 + x : Nat) : Int)) (.int .i64 4)).run Try.prog W = .ok (.int .i64 (((m + 1 + x) % 4 : Nat) : Int)) W := by
  rcases (by omega : m = 0 ∨ m = 1 ∨ m = 2 ∨ m = 3) with rfl | rfl | rfl | rfl <;> rcases (by omega : x = 0 ∨ x = 1 ∨ x = 2) with rfl | rfl | rfl <;> kernel_rfl

theorem run_indexA (W : World) (g i : Nat) (hi : i < 8) : (Instr.indexAt 74 (.pointer (some ⟨g, 0, none⟩)) (.int .i64 (i : Int))).run Try.prog W = .ok (.pointer (some ⟨g, i, none⟩)) W := by
  rcases (by omega : i = 0 ∨ i = 1 ∨ i = 2 ∨ i = 3 ∨ i = 4 ∨ i = 5 ∨ i = 6 ∨ i = 7) with rfl | rfl | rfl | rfl | rfl | rfl | rfl | rfl <;> kernel_rfl

def zi8 : List Int := List.replicate 8 0

theorem zi8_len : zi8.length = 8 := rfl

/-- movements drawn: the first n are ways, the rest is nothing -/
structure MvOk (fs ts : List Int) (n : Nat) : Prop where
  hf : fs.length = 8
  ht : ts.length = 8
  way : ∀ i, i < n → ∃ m x : Nat, m < 4 ∧ x < 3 ∧ ith fs i = (m : Int) ∧ ith ts i = (((m + 1 + x) % 4 : Nat) : Int)
  non : ∀ i, n ≤ i → i < 8 → ith fs i = 0 ∧ ith ts i = 0

theorem ith_set {xs : List Int} {i j : Nat} {y : Int} (hi : i < xs.length) : ith (xs.set i y) j = if i = j then y else ith xs j := by
  unfold ith
  rw [List.getD_eq_getElem?_getD, List.getD_eq_getElem?_getD, List.getElem?_set]
  by_cases c : i = j
  · rw [if_pos c, if_pos c, if_pos hi]; rfl
  · rw [if_neg c, if_neg c]

theorem MvOk.zero : MvOk zi8 zi8 0 := ⟨rfl, rfl, fun i h => by omega, fun i _ hi => by
  rcases (by omega : i = 0 ∨ i = 1 ∨ i = 2 ∨ i = 3 ∨ i = 4 ∨ i = 5 ∨ i = 6 ∨ i = 7) with rfl | rfl | rfl | rfl | rfl | rfl | rfl | rfl <;> exact ⟨rfl, rfl⟩⟩

theorem MvOk.next {fs ts : List Int} {n m x : Nat} (h : MvOk fs ts n) (hn : n < 8) (hm : m < 4) (hx : x < 3) : MvOk (fs.set n (m : Int)) (ts.set n (((m + 1 + x) % 4 : Nat) : Int)) (n + 1) := by
  refine ⟨by rw [List.length_set]; exact h.hf, by rw [List.length_set]; exact h.ht, fun i hi => ?_, fun i h1 h2 => ?_⟩
  · rw [ith_set (by rw [h.hf]; exact hn), ith_set (by rw [h.ht]; exact hn)]
    by_cases c : n = i
    · rw [if_pos c, if_pos c]; exact ⟨m, x, hm, hx, rfl, rfl⟩
    · rw [if_neg c, if_neg c]; exact h.way i (by omega)
  · rw [ith_set (by rw [h.hf]; exact hn), ith_set (by rw [h.ht]; exact hn), if_neg (by omega), if_neg (by omega)]
    exact h.non i (by omega) h2

set_option maxHeartbeats 2000000 in
theorem moving_e {w0 w : World} {g : Nat} {ad : Option Addr} {cp : Nat} {bs : List Nat} {k : Nat} (h : Draws w0 g ad cp bs k w) (hk : k < 1000) :
    Calls Try.prog 86 #[.pointer (some ⟨g, 0, none⟩)] w fun e w' => ∃ (fs ts : List Int) (n : Nat), e = .returned (.tuple #[.agg (il fs), .agg (il ts), .int .i64 (n : Int)]) ∧ n ≤ 8 ∧ MvOk fs ts n ∧ Below g w w' := by
  have hgw := h.lt
  have hlo := h.lo
  have hsz0 := h.below.size
  have Ra0 : At ((w.alloc (.cells (#[.int .i64 0, .int .i64 0, .int .i64 0, .int .i64 0, .int .i64 0, .int .i64 0, .int .i64 0, .int .i64 0]) 74)).alloc (.cells (#[.int .i64 0, .int .i64 0, .int .i64 0, .int .i64 0, .int .i64 0, .int .i64 0, .int .i64 0, .int .i64 0]) 74)) w.heap.size (#[.int .i64 0, .int .i64 0, .int .i64 0, .int .i64 0, .int .i64 0, .int .i64 0, .int .i64 0, .int .i64 0]) 74 := (At.new w _ _).alloc _
  have Rb0 : At ((w.alloc (.cells (#[.int .i64 0, .int .i64 0, .int .i64 0, .int .i64 0, .int .i64 0, .int .i64 0, .int .i64 0, .int .i64 0]) 74)).alloc (.cells (#[.int .i64 0, .int .i64 0, .int .i64 0, .int .i64 0, .int .i64 0, .int .i64 0, .int .i64 0, .int .i64 0]) 74)) (w.heap.size + 1) (#[.int .i64 0, .int .i64 0, .int .i64 0, .int .i64 0, .int .i64 0, .int .i64 0, .int .i64 0, .int .i64 0]) 74 := At.last1 w _ _ _
  have F0 : At (((w.alloc (.cells (#[.int .i64 0, .int .i64 0, .int .i64 0, .int .i64 0, .int .i64 0, .int .i64 0, .int .i64 0, .int .i64 0]) 74)).alloc (.cells (#[.int .i64 0, .int .i64 0, .int .i64 0, .int .i64 0, .int .i64 0, .int .i64 0, .int .i64 0, .int .i64 0]) 74)).alloc (.cells (#[.int .i64 0, .int .i64 0, .int .i64 0, .int .i64 0, .int .i64 0, .int .i64 0, .int .i64 0, .int .i64 0]) 74)) (w.heap.size + 1 + 1) (#[.int .i64 0, .int .i64 0, .int .i64 0, .int .i64 0, .int .i64 0, .int .i64 0, .int .i64 0, .int .i64 0]) 74 := by
    have := At.new ((w.alloc (.cells (#[.int .i64 0, .int .i64 0, .int .i64 0, .int .i64 0, .int .i64 0, .int .i64 0, .int .i64 0, .int .i64 0]) 74)).alloc (.cells (#[.int .i64 0, .int .i64 0, .int .i64 0, .int .i64 0, .int .i64 0, .int .i64 0, .int .i64 0, .int .i64 0]) 74)) (#[.int .i64 0, .int .i64 0, .int .i64 0, .int .i64 0, .int .i64 0, .int .i64 0, .int .i64 0, .int .i64 0]) 74
    rwa [World.size_alloc, World.size_alloc] at this
  have F1 := F0.setRow (il zi8)
  have T0 : At (((((w.alloc (.cells (#[.int .i64 0, .int .i64 0, .int .i64 0, .int .i64 0, .int .i64 0, .int .i64 0, .int .i64 0, .int .i64 0]) 74)).alloc (.cells (#[.int .i64 0, .int .i64 0, .int .i64 0, .int .i64 0, .int .i64 0, .int .i64 0, .int .i64 0, .int .i64 0]) 74)).alloc (.cells (#[.int .i64 0, .int .i64 0, .int .i64 0, .int .i64 0, .int .i64 0, .int .i64 0, .int .i64 0, .int .i64 0]) 74)).setRow (w.heap.size + 1 + 1) (il zi8)).alloc (.cells (#[.int .i64 0, .int .i64 0, .int .i64 0, .int .i64 0, .int .i64 0, .int .i64 0, .int .i64 0, .int .i64 0]) 74)) (w.heap.size + 1 + 1 + 1) (#[.int .i64 0, .int .i64 0, .int .i64 0, .int .i64 0, .int .i64 0, .int .i64 0, .int .i64 0, .int .i64 0]) 74 := by
    have e := At.new ((((w.alloc (.cells (#[.int .i64 0, .int .i64 0, .int .i64 0, .int .i64 0, .int .i64 0, .int .i64 0, .int .i64 0, .int .i64 0]) 74)).alloc (.cells (#[.int .i64 0, .int .i64 0, .int .i64 0, .int .i64 0, .int .i64 0, .int .i64 0, .int .i64 0, .int .i64 0]) 74)).alloc (.cells (#[.int .i64 0, .int .i64 0, .int .i64 0, .int .i64 0, .int .i64 0, .int .i64 0, .int .i64 0, .int .i64 0]) 74)).setRow (w.heap.size + 1 + 1) (il zi8)) (#[.int .i64 0, .int .i64 0, .int .i64 0, .int .i64 0, .int .i64 0, .int .i64 0, .int .i64 0, .int .i64 0]) 74
    have hz : (((((w.alloc (.cells (#[.int .i64 0, .int .i64 0, .int .i64 0, .int .i64 0, .int .i64 0, .int .i64 0, .int .i64 0, .int .i64 0]) 74)).alloc (.cells (#[.int .i64 0, .int .i64 0, .int .i64 0, .int .i64 0, .int .i64 0, .int .i64 0, .int .i64 0, .int .i64 0]) 74)).alloc (.cells (#[.int .i64 0, .int .i64 0, .int .i64 0, .int .i64 0, .int .i64 0, .int .i64 0, .int .i64 0, .int .i64 0]) 74)).setRow (w.heap.size + 1 + 1) (il zi8))).heap.size = w.heap.size + 1 + 1 + 1 := by simp
    rwa [hz] at e
  have T1 := T0.setRow (il zi8)
  have F2 := (F1.alloc (.cells (#[.int .i64 0, .int .i64 0, .int .i64 0, .int .i64 0, .int .i64 0, .int .i64 0, .int .i64 0, .int .i64 0]) 74)).setRow_other (k := w.heap.size + 1 + 1 + 1) (by omega) (il zi8)
  have Ra2 := (((Ra0.alloc (.cells (#[.int .i64 0, .int .i64 0, .int .i64 0, .int .i64 0, .int .i64 0, .int .i64 0, .int .i64 0, .int .i64 0]) 74)).setRow_other (k := w.heap.size + 1 + 1) (by omega) (il zi8)).alloc (.cells (#[.int .i64 0, .int .i64 0, .int .i64 0, .int .i64 0, .int .i64 0, .int .i64 0, .int .i64 0, .int .i64 0]) 74)).setRow_other (k := w.heap.size + 1 + 1 + 1) (by omega) (il zi8)
  have Rb2 := (((Rb0.alloc (.cells (#[.int .i64 0, .int .i64 0, .int .i64 0, .int .i64 0, .int .i64 0, .int .i64 0, .int .i64 0, .int .i64 0]) 74)).setRow_other (k := w.heap.size + 1 + 1) (by omega) (il zi8)).alloc (.cells (#[.int .i64 0, .int .i64 0, .int .i64 0, .int .i64 0, .int .i64 0, .int .i64 0, .int .i64 0, .int .i64 0]) 74)).setRow_other (k := w.heap.size + 1 + 1 + 1) (by omega) (il zi8)
  have D2 := ((((((h.step (b0 w (.cells (#[.int .i64 0, .int .i64 0, .int .i64 0, .int .i64 0, .int .i64 0, .int .i64 0, .int .i64 0, .int .i64 0]) 74))).step (b0 _ (.cells (#[.int .i64 0, .int .i64 0, .int .i64 0, .int .i64 0, .int .i64 0, .int .i64 0, .int .i64 0, .int .i64 0]) 74))).step (b0 _ (.cells (#[.int .i64 0, .int .i64 0, .int .i64 0, .int .i64 0, .int .i64 0, .int .i64 0, .int .i64 0, .int .i64 0]) 74))).row (r := w.heap.size + 1 + 1) (by omega) (by omega) (il zi8)).step (b0 _ (.cells (#[.int .i64 0, .int .i64 0, .int .i64 0, .int .i64 0, .int .i64 0, .int .i64 0, .int .i64 0, .int .i64 0]) 74))).row (r := w.heap.size + 1 + 1 + 1) (by omega) (by omega) (il zi8))
  have B2 := Lib.hid ((bset (bnew (bset (bnew (bnew (b0 w (.cells (#[.int .i64 0, .int .i64 0, .int .i64 0, .int .i64 0, .int .i64 0, .int .i64 0, .int .i64 0, .int .i64 0]) 74)) (.cells (#[.int .i64 0, .int .i64 0, .int .i64 0, .int .i64 0, .int .i64 0, .int .i64 0, .int .i64 0, .int .i64 0]) 74)) (.cells (#[.int .i64 0, .int .i64 0, .int .i64 0, .int .i64 0, .int .i64 0, .int .i64 0, .int .i64 0, .int .i64 0]) 74)) (g := w.heap.size + 1 + 1) (by omega) (il zi8)) (.cells (#[.int .i64 0, .int .i64 0, .int .i64 0, .int .i64 0, .int .i64 0, .int .i64 0, .int .i64 0, .int .i64 0]) 74)) (g := w.heap.size + 1 + 1 + 1) (by omega) (il zi8)).mono (Nat.le_of_lt hgw))
  clear h
  go_enter Try.func86, Try.ntmps86
  go_wp2_with (first | ((with_reducible refine is_bld 74 _ rfl ?_); refine wpList_bld rfl 74 _ rfl #[] (by kernel_rfl) (il zi8) (by kernel_rfl) ?_) | ((with_reducible refine is_store 74 _ _ rfl ?_); refine wpList_store_at rfl 74 _ _ rfl _ rfl (il zi8) rfl (#[.int .i64 0, .int .i64 0, .int .i64 0, .int .i64 0, .int .i64 0, .int .i64 0, .int .i64 0, .int .i64 0]) _ (by with_reducible assumption) 8 (rfl) (rfl) (by kernel_rfl) (il_one _) ?_))
  generalize ((((((w.alloc (.cells (#[.int .i64 0, .int .i64 0, .int .i64 0, .int .i64 0, .int .i64 0, .int .i64 0, .int .i64 0, .int .i64 0]) 74)).alloc (.cells (#[.int .i64 0, .int .i64 0, .int .i64 0, .int .i64 0, .int .i64 0, .int .i64 0, .int .i64 0, .int .i64 0]) 74)).alloc (.cells (#[.int .i64 0, .int .i64 0, .int .i64 0, .int .i64 0, .int .i64 0, .int .i64 0, .int .i64 0, .int .i64 0]) 74)).setRow (w.heap.size + 1 + 1) (il zi8)).alloc (.cells (#[.int .i64 0, .int .i64 0, .int .i64 0, .int .i64 0, .int .i64 0, .int .i64 0, .int .i64 0, .int .i64 0]) 74)).setRow (w.heap.size + 1 + 1 + 1) (il zi8)) = w1 at F2 T1 Ra2 Rb2 D2 B2 ⊢
  clear Ra0 Rb0 F0 F1 T0
  refine (pick_e D2 (by omega) 9 (by omega) (by omega)).mono ?_
  rintro e w2 ⟨n, rfl, hn9, O2, D3⟩
  have F3 := O2.at F2 (by omega)
  have T3 := O2.at T1 (by omega)
  have Ra3 := O2.at Ra2 (by omega)
  have Rb3 := O2.at Rb2 (by omega)
  have B3 := Lib.hid (B2.out.trans O2.below)
  clear F2 T1 Ra2 Rb2 D2 B2 O2
  go_wp2_with fail
  go_loopw [8] (fun v wr => ∃ i : Nat, ∃ fs ts : List Int, i ≤ n ∧ v = .int .i64 (i : Int) ∧ MvOk fs ts i ∧ At wr (w.heap.size + 1 + 1) (il fs) 74 ∧ At wr (w.heap.size + 1 + 1 + 1) (il ts) 74 ∧ At wr w.heap.size (#[.int .i64 0, .int .i64 0, .int .i64 0, .int .i64 0, .int .i64 0, .int .i64 0, .int .i64 0, .int .i64 0]) 74 ∧ At wr (w.heap.size + 1) (#[.int .i64 0, .int .i64 0, .int .i64 0, .int .i64 0, .int .i64 0, .int .i64 0, .int .i64 0, .int .i64 0]) 74 ∧ Draws w0 g ad cp bs (k + 1 + 2 * i) wr ∧ Hid (Below g w wr)) (fun v _ => n - (intOf v).toNat)
  case atStart => exact ⟨0, zi8, zi8, by omega, rfl, MvOk.zero, F3, T3, Ra3, Rb3, D3.more (by omega), B3⟩
  case round =>
    clear F3 T3 Ra3 Rb3 D3 B3
    obtain ⟨i, fs, ts, hi, rfl, hv, F4, T4, Ra4, Rb4, D4, B4⟩ := hrel
    have hfs := hv.hf
    have hts := hv.ht
    by_cases hlt : i < n
    · have hi8 : i < 8 := by omega
      have s2 : IntKind.i64.wrap ((i : Int) + 1) = (i : Int) + 1 := IntWalk.i64_in _ (by omega)
      have kd : (i : Int) < (n : Int) := by omega
      have hszF : (il fs).size = 8 := by rw [il_size, hfs]
      go_wp2_with fail
      refine (pick_e D4 (by omega) 4 (by omega) (by omega)).mono ?_
      rintro e w3 ⟨m, rfl, hm, O3, D5⟩
      have F5 := O3.at F4 (by omega)
      have T5 := O3.at T4 (by omega)
      have Ra5 := O3.at Ra4 (by omega)
      have Rb5 := O3.at Rb4 (by omega)
      have B5 := Lib.hid (B4.out.trans O3.below)
      clear F4 T4 Ra4 Rb4 D4 B4 O3
      have F4 := F5.setRow (il (fs.set i (m : Int)))
      have T4 := T5.setRow_other (k := w.heap.size + 1 + 1) (by omega) (il (fs.set i (m : Int)))
      have Ra4 := Ra5.setRow_other (k := w.heap.size + 1 + 1) (by omega) (il (fs.set i (m : Int)))
      have Rb4 := Rb5.setRow_other (k := w.heap.size + 1 + 1) (by omega) (il (fs.set i (m : Int)))
      have D4 := D5.row (r := w.heap.size + 1 + 1) (by omega) (by omega) (il (fs.set i (m : Int)))
      have B4 := Lib.hid (bset B5.out (g := w.heap.size + 1 + 1) (by omega) (il (fs.set i (m : Int))))
      have hFi : (il (fs.set i (m : Int)))[i]? = some (.int .i64 (m : Int)) := by
        rw [il_get (by rw [List.length_set]; omega), ith_set (by omega), if_pos rfl]
      go_wp2_with (((with_reducible refine is_store 2 _ _ rfl ?_); refine wpList_store_cell rfl 2 _ _ rfl _ i rfl (.int .i64 (m : Int)) rfl (il fs) _ (by with_reducible assumption) (by rw [hszF]; omega) (by kernel_rfl) rfl (il (fs.set i (m : Int))) (il_set _ _ _) ?_))
      clear F5 T5 Ra5 Rb5 D5 B5
      generalize World.setRow _ _ _ = w3 at F4 T4 Ra4 Rb4 D4 B4 ⊢
      have hg3 := D4.lt
      refine wp_region_held (S := fun w' => At w' (w.heap.size + 1 + 1) (il (fs.set i (m : Int))) 74) (by kernel_rfl) ?_
      show wpAnyH _ _ _ _ _ 11 (Array.replicate 11 false) _ _
      have O0 : Only g w3 { w3 with drawn := w3.drawn + 1 } := (Only.refl g w3).step (Nat.le_of_lt hg3) (bdrew (Below.refl _ w3) 1)
      have D5 := D4.step (bdrew (Below.refl _ w3) 1)
      change Draws _ _ _ _ _ _ { w3 with drawn := w3.drawn + 1 } at D5
      have S0 := O0.at F4 (by omega)
      generalize hw0 : ({ w3 with drawn := w3.drawn + 1 } : World) = w4 at O0 D5 S0 ⊢
      clear hw0
      refine wpAnyH_take (i := 0) (v := .int .i64 (i : Int)) rfl (by kernel_rfl) (by kernel_rfl) (by kernel_rfl) (fun _ _ _ h => h) (yif rfl fun w2 hw2 => by kernel_rfl) (by assumption) ?_
      refine wpAnyH_take (i := 1) (v := .int .i64 (i : Int)) rfl (by kernel_rfl) (by kernel_rfl) (by kernel_rfl) (fun _ _ _ h => h) (yif rfl fun w2 hw2 => by kernel_rfl) (by assumption) ?_
      refine wpAnyH_take (i := 2) (v := .pointer (some ⟨w.heap.size + 1 + 1, i, none⟩)) rfl (by kernel_rfl) (by kernel_rfl) (by kernel_rfl) (fun _ _ _ h => h) (yif rfl fun w' _ => hx_index 74 (.tmp 5) (.tmp 23) rfl (.pointer (some ⟨w.heap.size + 1 + 1, 0, none⟩)) (.int .i64 (i : Int)) (by kernel_rfl) (by kernel_rfl) ((run_indexA w' (w.heap.size + 1 + 1) i hi8))) (by assumption) ?_
      refine wpAnyH_take (i := 3) (v := .int .i64 (m : Int)) rfl (by kernel_rfl) (by kernel_rfl) (by kernel_rfl) (fun _ _ _ h => h) (yif rfl fun w' hw' => x_load 2 (.tmp 24) rfl ⟨w.heap.size + 1 + 1, i, none⟩ (by kernel_rfl) (run_load_one w' 2 _ Try.underlying2 rfl _ _ (hw'.cell hFi))) (by assumption) ?_
      refine wpAnyH_take (i := 4) (v := .int .i64 ((m + 1 : Nat) : Int)) rfl (by kernel_rfl) (by kernel_rfl) (by kernel_rfl) (fun _ _ _ h => h) (yif rfl fun w' _ => hx_addI 2 (.tmp 25) (.const (.int .i64 1)) rfl (.int .i64 (m : Int)) (.int .i64 1) (by kernel_rfl) (by kernel_rfl) (fin_add hm 2 w')) (by assumption) ?_
      refine wpAnyH_take (i := 5) (v := .pointer (some ⟨g, 0, none⟩)) rfl (by kernel_rfl) (by kernel_rfl) (by kernel_rfl) (fun _ _ _ h => h) (yif rfl fun w2 hw2 => by kernel_rfl) (by assumption) ?_
      refine wpAnyH_call (j := 6) (f := 94) (args := #[.pointer (some ⟨g, 0, none⟩), .int .i64 3]) (by kernel_rfl) rfl (by kernel_rfl) (by kernel_rfl) ((pick_e D5 (by omega) 3 (by omega) (by omega)).mono ?_)
      rintro e w5 ⟨x, rfl, hx, O5, D6⟩
      have O6 : Only g w3 w5 := ⟨O0.below.trans O5.below, fun j hj hn => (O5.rest j (Nat.lt_of_lt_of_le hj O0.below.size) hn).trans (O0.rest j hj hn)⟩
      have F6 := O6.at F4 (by omega)
      refine ⟨_, rfl, F6, ?_⟩
      refine wpAnyH_take (i := 7) (v := .int .i64 ((m + 1 + x : Nat) : Int)) rfl (by kernel_rfl) (by kernel_rfl) (by kernel_rfl) (fun _ _ _ h => h) (yif rfl fun w' _ => hx_addI 2 (.tmp 26) (.tmp 28) rfl (.int .i64 ((m + 1 : Nat) : Int)) (.int .i64 (x : Int)) (by kernel_rfl) (by kernel_rfl) (fin_add2 hm hx 2 w')) (by assumption) ?_
      refine wpAnyH_take (i := 8) (v := .int .i64 (((m + 1 + x) % 4 : Nat) : Int)) rfl (by kernel_rfl) (by kernel_rfl) (by kernel_rfl) (fun _ _ _ h => h) (yif rfl fun w' _ => hx_remI 2 (.tmp 29) (.const (.int .i64 4)) rfl (.int .i64 ((m + 1 + x : Nat) : Int)) (.int .i64 4) (by kernel_rfl) (by kernel_rfl) (fin_rem hm hx 2 w')) (by assumption) ?_
      refine wpAnyH_take (i := 9) (v := .pointer (some ⟨w.heap.size + 1 + 1 + 1, i, none⟩)) rfl (by kernel_rfl) (by kernel_rfl) (by kernel_rfl) (fun _ _ _ h => h) (yif rfl fun w' _ => hx_index 74 (.tmp 6) (.tmp 22) rfl (.pointer (some ⟨w.heap.size + 1 + 1 + 1, 0, none⟩)) (.int .i64 (i : Int)) (by kernel_rfl) (by kernel_rfl) ((run_indexA w' (w.heap.size + 1 + 1 + 1) i hi8))) (by assumption) ?_
      have T6 := O6.at T4 (by omega)
      have Ra6 := O6.at Ra4 (by omega)
      have Rb6 := O6.at Rb4 (by omega)
      have B6 := Lib.hid (B4.out.trans O6.below)
      have T7 := T6.setRow (il (ts.set i (((m + 1 + x) % 4 : Nat) : Int)))
      have F7 := F6.setRow_other (k := w.heap.size + 1 + 1 + 1) (by omega) (il (ts.set i (((m + 1 + x) % 4 : Nat) : Int)))
      have Ra7 := Ra6.setRow_other (k := w.heap.size + 1 + 1 + 1) (by omega) (il (ts.set i (((m + 1 + x) % 4 : Nat) : Int)))
      have Rb7 := Rb6.setRow_other (k := w.heap.size + 1 + 1 + 1) (by omega) (il (ts.set i (((m + 1 + x) % 4 : Nat) : Int)))
      have D7 := (D6.row (r := w.heap.size + 1 + 1 + 1) (by omega) (by omega) (il (ts.set i (((m + 1 + x) % 4 : Nat) : Int)))).more (k2 := k + 1 + 2 * (i + 1)) (by omega)
      have B7 := Lib.hid (bset B6.out (g := w.heap.size + 1 + 1 + 1) (by omega) (il (ts.set i (((m + 1 + x) % 4 : Nat) : Int))))
      have hst : (Instr.storeAt 2 (.pointer (some ⟨w.heap.size + 1 + 1 + 1, i, none⟩)) (.int .i64 (((m + 1 + x) % 4 : Nat) : Int))).run Try.prog w5 = .ok () (w5.setRow (w.heap.size + 1 + 1 + 1) (il (ts.set i (((m + 1 + x) % 4 : Nat) : Int)))) := by
        have := run_storeAt_one (P := Try.prog) w5 (w.heap.size + 1 + 1 + 1) i 74 2 (il ts) (.int .i64 (((m + 1 + x) % 4 : Nat) : Int)) T6 (by kernel_rfl) (by rw [il_size, hts]; omega) rfl
        rwa [il_set] at this
      refine wpAnyH_all (rs := [10]) (by kernel_rfl) (by simp) fun i9 hi9 => ?_
      obtain rfl := one_of hi9
      refine op_skip (w' := w5.setRow (w.heap.size + 1 + 1 + 1) (il (ts.set i (((m + 1 + x) % 4 : Nat) : Int)))) rfl rfl (hx_store 2 (.tmp 31) (.tmp 30) rfl (.pointer (some ⟨w.heap.size + 1 + 1 + 1, i, none⟩)) (.int .i64 (((m + 1 + x) % 4 : Nat) : Int)) (by kernel_rfl) (by kernel_rfl) hst) ⟨F7, ?_⟩
      refine wpAnyH_done (by kernel_rfl) ?_ _
      generalize w5.setRow (w.heap.size + 1 + 1 + 1) (il (ts.set i (((m + 1 + x) % 4 : Nat) : Int))) = w6 at F7 T7 Ra7 Rb7 D7 B7 ⊢
      have hv2 := hv.next hi8 hm hx
      clear O0 D5 S0 F4 T4 Ra4 Rb4 D4 B4 O5 O6 F6 T6 Ra6 Rb6 D6 B6 hst hFi
      go_simp
      go_wp2_with fail
      exact ⟨⟨i + 1, _, _, by omega, by go_num, hv2, F7, T7, Ra7, Rb7, D7, B7⟩, by simp [intOf]; omega⟩
    · obtain rfl : n = i := by omega
      have hv0 := hv
      have hszF : (il fs).size = 8 := by rw [il_size, hfs]
      have hszT : (il ts).size = 8 := by rw [il_size, hts]
      clear hv
      have hvv := hv0
      go_wp2_with fail
      refine wp_region_held (S := fun w' => At w' (w.heap.size + 1 + 1) (il fs) 74 ∧ At w' (w.heap.size + 1 + 1 + 1) (il ts) 74) (by kernel_rfl) ?_
      show wpAnyH _ _ _ _ _ 6 (Array.replicate 6 false) _ _
      have Ra5 := Ra4.step (bdrew (Below.refl _ wr) 1)
      have Rb5 := Rb4.step (bdrew (Below.refl _ wr) 1)
      have S0 : At { wr with drawn := wr.drawn + 1 } (w.heap.size + 1 + 1) (il fs) 74 ∧ At { wr with drawn := wr.drawn + 1 } (w.heap.size + 1 + 1 + 1) (il ts) 74 := ⟨F4.step (bdrew (Below.refl _ wr) 1), T4.step (bdrew (Below.refl _ wr) 1)⟩
      have B5 := Lib.hid (bdrew B4.out 1)
      change At { wr with drawn := wr.drawn + 1 } _ _ _ at Ra5
      change At { wr with drawn := wr.drawn + 1 } _ _ _ at Rb5
      change Hid (Below g w { wr with drawn := wr.drawn + 1 }) at B5
      generalize hw0 : ({ wr with drawn := wr.drawn + 1 } : World) = w4 at S0 Ra5 Rb5 B5 ⊢
      clear hw0
      refine wpAnyH_take (i := 0) (v := .agg (il fs)) rfl (by kernel_rfl) (by kernel_rfl) (by kernel_rfl) (fun _ _ _ h => h) (yif rfl fun w' hw' => x_load 74 (.tmp 5) rfl ⟨w.heap.size + 1 + 1, 0, none⟩ (by kernel_rfl) (run_rowI hw'.1 hszF)) (by assumption) ?_
      refine wpAnyH_take (i := 1) (v := .agg (il ts)) rfl (by kernel_rfl) (by kernel_rfl) (by kernel_rfl) (fun _ _ _ h => h) (yif rfl fun w' hw' => x_load 74 (.tmp 6) rfl ⟨w.heap.size + 1 + 1 + 1, 0, none⟩ (by kernel_rfl) (run_rowI hw'.2 hszT)) (by assumption) ?_
      refine wpAnyH_take (i := 2) (v := .int .i64 (n : Int)) rfl (by kernel_rfl) (by kernel_rfl) (by kernel_rfl) (fun _ _ _ h => h) (yif rfl fun w2 hw2 => by kernel_rfl) (by assumption) ?_
      have Ra6 := Ra5.setRow (il fs)
      have Rb6 := Rb5.setRow_other (k := w.heap.size) (by omega) (il fs)
      have S1 : At (w4.setRow w.heap.size (il fs)) (w.heap.size + 1 + 1) (il fs) 74 ∧ At (w4.setRow w.heap.size (il fs)) (w.heap.size + 1 + 1 + 1) (il ts) 74 := ⟨S0.1.setRow_other (by omega) _, S0.2.setRow_other (by omega) _⟩
      have B6 := Lib.hid (bset B5.out (g := w.heap.size) (Nat.le_of_lt hgw) (il fs))
      refine wpAnyH_all (rs := [3]) (by kernel_rfl) (by simp) fun i9 hi9 => ?_
      obtain rfl := one_of hi9
      refine op_skip (w' := w4.setRow w.heap.size (il fs)) rfl rfl (hx_store 74 (.tmp 2) (.tmp 32) rfl (.pointer (some ⟨w.heap.size, 0, none⟩)) (.agg (il fs)) (by kernel_rfl) (by kernel_rfl) (run_store_rowI Ra5 hszF)) ⟨S1, ?_⟩
      have Ra7 := Ra6.setRow_other (k := w.heap.size + 1) (by omega) (il ts)
      have Rb7 := Rb6.setRow (il ts)
      have S2 : At ((w4.setRow w.heap.size (il fs)).setRow (w.heap.size + 1) (il ts)) (w.heap.size + 1 + 1) (il fs) 74 ∧ At ((w4.setRow w.heap.size (il fs)).setRow (w.heap.size + 1) (il ts)) (w.heap.size + 1 + 1 + 1) (il ts) 74 := ⟨S1.1.setRow_other (by omega) _, S1.2.setRow_other (by omega) _⟩
      have B7 := Lib.hid (bset B6.out (g := w.heap.size + 1) (by omega) (il ts))
      refine wpAnyH_all (rs := [4]) (by kernel_rfl) (by simp) fun i9 hi9 => ?_
      obtain rfl := one_of hi9
      refine op_skip (w' := (w4.setRow w.heap.size (il fs)).setRow (w.heap.size + 1) (il ts)) rfl rfl (hx_store 74 (.tmp 3) (.tmp 33) rfl (.pointer (some ⟨w.heap.size + 1, 0, none⟩)) (.agg (il ts)) (by kernel_rfl) (by kernel_rfl) (run_store_rowI Rb6 hszT)) ⟨S2, ?_⟩
      refine wpAnyH_take (i := 5) (v := .int .i64 (n : Int)) rfl (by kernel_rfl) (by kernel_rfl) (by kernel_rfl) (fun _ _ _ h => h) (yif rfl fun w2 hw2 => by kernel_rfl) (by assumption) ?_
      refine wpAnyH_done (by kernel_rfl) ?_ _
      clear S0 S1 S2 Ra5 Rb5 Ra6 Rb6 B5 B6 F4 T4 Ra4 Rb4 D4 B4
      go_simp
      go_wp2_with fail
      exact bodyPost_ret (v := .tuple #[.agg (il fs), .agg (il ts), .int .i64 (n : Int)]) (results_twoM (p := 2) (q := 3) (u := 4) (ty1 := 74) (ty2 := 74) rfl _ _ _ (il fs) _ _ (il ts) _ (.int .i64 (n : Int)) rfl rfl rfl Ra7 Rb7 _ Try.underlying74 rfl 8 hszF (by kernel_rfl) _ Try.underlying74 rfl 8 hszT (by kernel_rfl)) rfl ⟨fs, ts, n, rfl, by omega, hvv, B7.out⟩

theorem from_draws {ad : Option Addr} {cp : Nat} {bs : List Nat} {w w1 : World} (hC : BSl w ad bs) (hb : Below w.heap.size w w1) (hA : At w1 w.heap.size (srcC ad bs.length cp 0 0) 183) : Draws w w.heap.size ad cp bs 0 w1 :=
  ⟨hC, Nat.le_refl _, hb, ⟨0, 0, Nat.le_refl _, hA⟩⟩

theorem P6Phase_e (ad : Option Addr) (cp : Nat) (bs : List Nat) (w : World) (hC : BSl w ad bs) :
    Calls Try.prog 46 #[.slice ad bs.length cp] w fun e w' => ∃ ps : List Bool, e = .returned (.agg (bl ps)) ∧ ps.length = 8 ∧ Below w.heap.size w w' := by
  have R0 := At.new w (#[.bool false, .bool false, .bool false, .bool false, .bool false, .bool false, .bool false, .bool false]) 69
  have B0 := Lib.hid (b0 w (.cells (#[.bool false, .bool false, .bool false, .bool false, .bool false, .bool false, .bool false, .bool false]) 69))
  have hC0 := hC.step (b0 w (.cells (#[.bool false, .bool false, .bool false, .bool false, .bool false, .bool false, .bool false, .bool false]) 69)) (Nat.le_refl _)
  have K := l00From_b ad cp bs (w.alloc (.cells (#[.bool false, .bool false, .bool false, .bool false, .bool false, .bool false, .bool false, .bool false]) 69))
  clear hC
  go_enter Try.func46, Try.ntmps46
  go_wp2_with fail
  refine K.mono ?_
  rintro e w1 ⟨rfl, hb1, A1⟩
  have R1 := R0.step hb1
  have B1 := Lib.hid (bthen B0.out hb1)
  have D1 := from_draws hC0 hb1 A1
  have hsz : (w.alloc (.cells (#[.bool false, .bool false, .bool false, .bool false, .bool false, .bool false, .bool false, .bool false]) 69)).heap.size = w.heap.size + 1 := by simp
  rw [hsz] at D1
  clear R0 B0 K A1 hb1 hC0
  go_wp2_with fail
  refine (phase_e D1 (by omega)).mono ?_
  rintro e w2 ⟨ps, rfl, hps, hb2⟩
  have hz : (bl ps).size = 8 := by rw [bl_size, hps]
  have R2 : At w2 w.heap.size (#[.bool false, .bool false, .bool false, .bool false, .bool false, .bool false, .bool false, .bool false]) 69 := (hb2.block _ (by omega)).trans R1
  have B2 := Lib.hid (B1.out.trans (hb2.mono (by omega)))
  have R3 := R2.setRow (bl ps)
  have B3 := Lib.hid (bset B2.out (g := w.heap.size) (Nat.le_refl _) (bl ps))
  clear R1 B1 D1
  go_wp2_with (((with_reducible refine is_store 69 _ _ rfl ?_); refine wpList_store_at rfl 69 _ _ rfl _ rfl (bl ps) rfl (#[.bool false, .bool false, .bool false, .bool false, .bool false, .bool false, .bool false, .bool false]) _ (by with_reducible assumption) 8 (hz) (rfl) (by kernel_rfl) (bl_one _) ?_))
  exact bodyPost_ret (v := .agg (bl ps)) (results_at (p := 2) (ty := 69) rfl _ _ _ (bl ps) _ rfl R3 _ Try.underlying69 rfl 8 hz (by kernel_rfl)) rfl ⟨ps, rfl, hps, B3.out⟩

theorem P6Pick_e (ad : Option Addr) (cp : Nat) (bs : List Nat) (n : Nat) (h1 : 1 < n) (h2 : n ≤ 200) (w : World) (hC : BSl w ad bs) :
    Calls Try.prog 50 #[.slice ad bs.length cp, .int .i64 (n : Int)] w fun e w' => ∃ m : Nat, e = .returned (.int .i64 (m : Int)) ∧ m < n ∧ Below w.heap.size w w' := by
  have K := l00From_b ad cp bs w
  go_enter Try.func50, Try.ntmps50
  go_wp2_with fail
  refine K.mono ?_
  rintro e w1 ⟨rfl, hb1, A1⟩
  have D1 := from_draws hC hb1 A1
  clear K A1
  go_wp2_with fail
  refine (pick_e D1 (by omega) n h1 h2).mono ?_
  rintro e w2 ⟨m, rfl, hm, hO, hD⟩
  go_wp2_with fail
  go_ret
  exact ⟨m, rfl, hm, hD.below⟩

set_option maxHeartbeats 1000000 in
theorem P6Moves_e (ad : Option Addr) (cp : Nat) (bs : List Nat) (w : World) (hC : BSl w ad bs) :
    Calls Try.prog 42 #[.slice ad bs.length cp] w fun e w' => ∃ (fs ts : List Int) (n : Nat), e = .returned (.tuple #[.agg (il fs), .agg (il ts), .int .i64 (n : Int)]) ∧ n ≤ 8 ∧ MvOk fs ts n ∧ Below w.heap.size w w' := by
  have Ra0 : At ((w.alloc (.cells (#[.int .i64 0, .int .i64 0, .int .i64 0, .int .i64 0, .int .i64 0, .int .i64 0, .int .i64 0, .int .i64 0]) 74)).alloc (.cells (#[.int .i64 0, .int .i64 0, .int .i64 0, .int .i64 0, .int .i64 0, .int .i64 0, .int .i64 0, .int .i64 0]) 74)) w.heap.size (#[.int .i64 0, .int .i64 0, .int .i64 0, .int .i64 0, .int .i64 0, .int .i64 0, .int .i64 0, .int .i64 0]) 74 := (At.new w _ _).alloc _
  have Rb0 : At ((w.alloc (.cells (#[.int .i64 0, .int .i64 0, .int .i64 0, .int .i64 0, .int .i64 0, .int .i64 0, .int .i64 0, .int .i64 0]) 74)).alloc (.cells (#[.int .i64 0, .int .i64 0, .int .i64 0, .int .i64 0, .int .i64 0, .int .i64 0, .int .i64 0, .int .i64 0]) 74)) (w.heap.size + 1) (#[.int .i64 0, .int .i64 0, .int .i64 0, .int .i64 0, .int .i64 0, .int .i64 0, .int .i64 0, .int .i64 0]) 74 := At.last1 w _ _ _
  have BB : Below w.heap.size w ((w.alloc (.cells (#[.int .i64 0, .int .i64 0, .int .i64 0, .int .i64 0, .int .i64 0, .int .i64 0, .int .i64 0, .int .i64 0]) 74)).alloc (.cells (#[.int .i64 0, .int .i64 0, .int .i64 0, .int .i64 0, .int .i64 0, .int .i64 0, .int .i64 0, .int .i64 0]) 74)) := bnew (b0 w (.cells (#[.int .i64 0, .int .i64 0, .int .i64 0, .int .i64 0, .int .i64 0, .int .i64 0, .int .i64 0, .int .i64 0]) 74)) (.cells (#[.int .i64 0, .int .i64 0, .int .i64 0, .int .i64 0, .int .i64 0, .int .i64 0, .int .i64 0, .int .i64 0]) 74)
  have B0 := Lib.hid BB
  have hC0 := hC.step BB (Nat.le_refl _)
  have K := l00From_b ad cp bs ((w.alloc (.cells (#[.int .i64 0, .int .i64 0, .int .i64 0, .int .i64 0, .int .i64 0, .int .i64 0, .int .i64 0, .int .i64 0]) 74)).alloc (.cells (#[.int .i64 0, .int .i64 0, .int .i64 0, .int .i64 0, .int .i64 0, .int .i64 0, .int .i64 0, .int .i64 0]) 74))
  clear hC BB
  go_enter Try.func42, Try.ntmps42
  go_wp2_with fail
  refine K.mono ?_
  rintro e w1 ⟨rfl, hb1, A1⟩
  have Ra1 := Ra0.step hb1
  have Rb1 := Rb0.step hb1
  have B1 := Lib.hid (bthen B0.out hb1)
  have D1 := from_draws hC0 hb1 A1
  have hsz : (((w.alloc (.cells (#[.int .i64 0, .int .i64 0, .int .i64 0, .int .i64 0, .int .i64 0, .int .i64 0, .int .i64 0, .int .i64 0]) 74)).alloc (.cells (#[.int .i64 0, .int .i64 0, .int .i64 0, .int .i64 0, .int .i64 0, .int .i64 0, .int .i64 0, .int .i64 0]) 74))).heap.size = w.heap.size + 1 + 1 := by simp
  rw [hsz] at D1
  clear Ra0 Rb0 B0 K A1 hb1 hC0
  go_wp2_with fail
  refine (moving_e D1 (by omega)).mono ?_
  rintro e w2 ⟨fs, ts, n, rfl, hn, hv, hb2⟩
  have hszF : (il fs).size = 8 := by rw [il_size, hv.hf]
  have hszT : (il ts).size = 8 := by rw [il_size, hv.ht]
  have Ra2 : At w2 w.heap.size (#[.int .i64 0, .int .i64 0, .int .i64 0, .int .i64 0, .int .i64 0, .int .i64 0, .int .i64 0, .int .i64 0]) 74 := (hb2.block _ (by omega)).trans Ra1
  have Rb2 : At w2 (w.heap.size + 1) (#[.int .i64 0, .int .i64 0, .int .i64 0, .int .i64 0, .int .i64 0, .int .i64 0, .int .i64 0, .int .i64 0]) 74 := (hb2.block _ (by omega)).trans Rb1
  have B2 := Lib.hid (B1.out.trans (hb2.mono (by omega)))
  have Ra3 := Ra2.setRow (il fs)
  have Rb3 := Rb2.setRow_other (k := w.heap.size) (by omega) (il fs)
  have B3 := Lib.hid (bset B2.out (g := w.heap.size) (Nat.le_refl _) (il fs))
  have Ra4 := Ra3.setRow_other (k := w.heap.size + 1) (by omega) (il ts)
  have Rb4 := Rb3.setRow (il ts)
  have B4 := Lib.hid (bset B3.out (g := w.heap.size + 1) (by omega) (il ts))
  clear Ra1 Rb1 B1 D1 hb2
  go_wp2_with (first | ((with_reducible refine is_store 74 _ _ rfl ?_); refine wpList_store_at rfl 74 _ _ rfl _ rfl (il fs) rfl (#[.int .i64 0, .int .i64 0, .int .i64 0, .int .i64 0, .int .i64 0, .int .i64 0, .int .i64 0, .int .i64 0]) _ (by with_reducible assumption) 8 (hszF) (rfl) (by kernel_rfl) (il_one _) ?_) | ((with_reducible refine is_store 74 _ _ rfl ?_); refine wpList_store_at rfl 74 _ _ rfl _ rfl (il ts) rfl (#[.int .i64 0, .int .i64 0, .int .i64 0, .int .i64 0, .int .i64 0, .int .i64 0, .int .i64 0, .int .i64 0]) _ (by with_reducible assumption) 8 (hszT) (rfl) (by kernel_rfl) (il_one _) ?_))
  exact bodyPost_ret (v := .tuple #[.agg (il fs), .agg (il ts), .int .i64 (n : Int)]) (results_twoM (p := 2) (q := 3) (u := 4) (ty1 := 74) (ty2 := 74) rfl _ _ _ (il fs) _ _ (il ts) _ (.int .i64 (n : Int)) rfl rfl rfl Ra4 Rb4 _ Try.underlying74 rfl 8 hszF (by kernel_rfl) _ Try.underlying74 rfl 8 hszT (by kernel_rfl)) rfl ⟨fs, ts, n, rfl, hn, hv, B4.out⟩

end Go.Proofs.Ytboahhipobcabab
