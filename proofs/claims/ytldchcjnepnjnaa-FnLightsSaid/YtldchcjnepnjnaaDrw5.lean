/-
  CONTRACTS: plans drawn from bytes: what is used.
-/
import Derived.Test.YtldchcjnepnjnaaDrw4
import Derived.Test.YtldchcjnepnjnaaCyZ
import Derived.Test.YtldchcjnepnjnaaTake2
import Derived.Test.YtldchcjnepnjnaaG9
import Derived.Test.YtldchcjnepnjnaaG10
import Derived.Test.YtldchcjnepnjnaaOwnSl
namespace Go.Proofs.Ytldchcjnepnjnaa
open Go Go.ChangeShapes Go.WideShapes Go.ChangeAt Go.RowKit Go.Deep
set_option maxRecDepth 100000

theorem run_oneSl (W : World) (b : List Bool) (hb : b.length = 8) (t : Int) : (Instr.buildSlice 24 1 #[(0, .agg (sl1 b t))]).run Try.prog W = .ok (.slice (some ⟨W.heap.size, 0, none⟩) 1 1) (W.alloc (.cells (sl1 b t) 40)) :=
  match b, hb with
  | [_, _, _, _, _, _, _, _], _ => by kernel_rfl

theorem one_cellsSl (w : World) (s : List Bool × Int) : ∀ j u, (sll s)[j]? = some u → (w.alloc (.cells (sl1 s.1 s.2) 40)).cell? ((⟨w.heap.size, 0, none⟩ : Addr).add j) = some u := by
  intro j u h
  have e : (⟨w.heap.size, 0, none⟩ : Addr).add j = ⟨w.heap.size, j, none⟩ := by
    unfold Addr.add
    by_cases z : j = 0
    · subst z; rfl
    · rw [if_neg z]; congr 1; show 0 + j = j; omega
  rw [e]
  refine (At.new w (sl1 s.1 s.2) 40).cell ?_
  rw [← Array.getElem?_toList, sl1_list]
  exact h

theorem OwnSl.grown {w' : World} {lo : Nat} {v : Value} {xs : Slots} {s : List Bool × Int} (h : w'.ownsRow lo 40 9 v (xs.length + 1) (slL xs ++ sll s)) : OwnSl w' lo v (xs ++ [s]) := by
  unfold OwnSl
  have e : slL (xs ++ [s]) = slL xs ++ sll s := by unfold slL; simp
  rw [e, List.length_append]
  exact h

theorem OwnSl.only {w w' : World} {lo g : Nat} {v : Value} {xs : Slots} (h : OwnSl w lo v xs) (hO : Only g w w') (hg : g < lo) : OwnSl w' lo v xs := by
  refine ⟨h.1, h.2.imp id ?_⟩
  rintro ⟨g', cap, cur, rfl, h1, h2, h3, h4, h5, h6⟩
  have hl : g' < w.heap.size := (Array.getElem?_eq_some_iff.1 h2).1
  exact ⟨g', cap, cur, rfl, h1, (hO.rest g' hl (by omega)).trans h2, h3, h4, h5, h6⟩

theorem Draws.keepD {w0 w w' : World} {g B : Nat} {ad : Option Addr} {cp : Nat} {bs : List Nat} {k : Nat} (h : Draws w0 g ad cp bs k w) (hb : Below B w w') (hg : g < B) (hB : w0.heap.size ≤ B := by omega) : Draws w0 g ad cp bs k w' :=
  ⟨h.c, h.lo, h.below.trans (hb.mono hB), by obtain ⟨k', sd, h1, hA⟩ := h.src; exact ⟨k', sd, h1, (hb.block g hg).trans hA⟩⟩

theorem Only.trans {g : Nat} {w w1 w2 : World} (h : Only g w w1) (k : Only g w1 w2) : Only g w w2 :=
  ⟨h.below.trans k.below, fun i hi hn => (k.rest i (Nat.lt_of_lt_of_le hi h.below.size) hn).trans (h.rest i hi hn)⟩

theorem Only.row {g r : Nat} {w w1 : World} (h : Only g w w1) (hr : w.heap.size ≤ r) (hg : g ≤ r) (c : Array Value) : Only g w (w1.setRow r c) :=
  ⟨bset h.below hg c, fun i hi hn => (heap_setRow_other _ _ _ _ (by omega)).trans (h.rest i hi hn)⟩

theorem Only.keepB {g B : Nat} {w w1 w2 : World} (h : Only g w w1) (hb : Below B w1 w2) (h1 : w.heap.size ≤ B) (h2 : g ≤ B) : Only g w w2 :=
  ⟨h.below.trans (hb.mono h2), fun i hi hn => (hb.block i (by omega)).trans (h.rest i hi hn)⟩

theorem At.keepP {w w' : World} {g : Nat} {c : Array Value} {T : TypeId} {r : Option Nat} (h : At w g c T) (hg : w.grownBy w' r) (hne : ∀ q, r = some q → q ≠ g) : At w' g c T :=
  (hg.block g h.lt (fun e => hne g e.symm rfl)).trans h

theorem two_of5 {i j k : Nat} (h : i ∈ [j, k]) : i = j ∨ i = k := by simpa using h

/-- a number drawn, of however few -/
theorem pick_z {w0 w : World} {g : Nat} {ad : Option Addr} {cp : Nat} {bs : List Nat} {k : Nat} (h : Draws w0 g ad cp bs k w) (hk : k < 1000000) (n : Nat) (h1 : 1 ≤ n) (h2 : n ≤ 200) :
    Calls Try.prog 15 #[.pointer (some ⟨g, 0, none⟩), .int .i64 (n : Int)] w fun e w' => ∃ m : Nat, e = .returned (.int .i64 (m : Int)) ∧ m < n ∧ Only g w w' ∧ Draws w0 g ad cp bs (k + 1) w' := by
  rcases Nat.lt_or_ge 1 n with c | c
  · exact pick_e h hk n c h2
  · obtain rfl : n = 1 := by omega
    obtain ⟨k', sd, hk', hA⟩ := h.src
    refine (pick_b g ad cp k' bs sd (1 : Nat) w (by omega) h.c.lt (by omega) hA h.bsl).mono ?_
    rintro e w' ⟨rfl, hO, hA'⟩
    refine ⟨0, ?_, by omega, hO, ⟨h.c, h.lo, h.below.trans (hO.below.mono h.lo), ⟨_, _, ?_, hA'⟩⟩⟩
    · unfold pickV
      rw [if_pos (by omega)]
      rfl
    · unfold pickK
      rw [if_pos (by omega)]
      omega

/-- every slot's ticks are few -/
def tkD (xs : Slots) : Prop := ∀ i, i < xs.length → 1 ≤ st xs i ∧ st xs i ≤ 6

theorem st_app {xs : Slots} {s : List Bool × Int} {i : Nat} (hi : i < xs.length) : st (xs ++ [s]) i = st xs i := by
  unfold st
  rw [List.getD_eq_getElem?_getD, List.getD_eq_getElem?_getD, List.getElem?_append_left hi]

theorem st_last {xs : Slots} {s : List Bool × Int} : st (xs ++ [s]) xs.length = s.2 := by
  unfold st
  rw [List.getD_eq_getElem?_getD, List.getElem?_append_right (Nat.le_refl _), Nat.sub_self]
  rfl

theorem tkD.next {xs : Slots} {ps : List Bool} {t : Nat} (h : tkD xs) (ht : t < 6) : tkD (xs ++ [(ps, ((t + 1 : Nat) : Int))]) := by
  intro i hi
  rw [List.length_append, List.length_singleton] at hi
  rcases Nat.lt_or_ge i xs.length with c | c
  · rw [st_app c]; exact h i c
  · obtain rfl : i = xs.length := by omega
    rw [st_last]
    show 1 ≤ ((t + 1 : Nat) : Int) ∧ ((t + 1 : Nat) : Int) ≤ 6
    omega

theorem SlW.next {xs : Slots} {ps : List Bool} {t : Nat} (h : SlW xs) (hp : ps.length = 8) (ht : t < 6) : SlW (xs ++ [(ps, ((t + 1 : Nat) : Int))]) := by
  intro s hs
  rcases List.mem_append.1 hs with hs | hs
  · exact h s hs
  · rw [List.mem_singleton] at hs
    subst hs
    exact ⟨hp, by unfold I64; show _ ≤ ((t + 1 : Nat) : Int) ∧ ((t + 1 : Nat) : Int) ≤ _; omega⟩

theorem tkD_ok {xs : Slots} (h : tkD xs) : ∀ m, m ≤ xs.length → tkOk xs m = true ∧ (m : Int) ≤ tks xs m ∧ tks xs m ≤ 6 * m
  | 0, _ => ⟨rfl, by unfold tks; omega, by unfold tks; omega⟩
  | m + 1, hm => by
    obtain ⟨h1, h2, h3⟩ := tkD_ok h m (by omega)
    have h4 := h m (by omega)
    refine ⟨tkOk_next h1 (by unfold tkOne; exact decide_eq_true (by omega)), ?_, ?_⟩
    · unfold tks; omega
    · unfold tks; omega

theorem tkD_cyc {xs : Slots} {b : Nat} (h : tkD xs) (h1 : 1 ≤ xs.length) (h4 : xs.length ≤ 4) (hb : b < 3) : ∃ c : Nat, cyc xs b = (c : Int) ∧ 1 ≤ c ∧ c ≤ 32 := by
  obtain ⟨-, k1, k2⟩ := tkD_ok h xs.length (Nat.le_refl _)
  have hmul : 0 ≤ (xs.length : Int) * (b : Int) ∧ (xs.length : Int) * (b : Int) ≤ 8 := by
    have e : (xs.length : Int) * (b : Int) = ((xs.length * b : Nat) : Int) := by rw [Int.natCast_mul]
    have h2 : xs.length * b ≤ 4 * 2 := Nat.mul_le_mul h4 (by omega)
    rw [e]
    omega
  have e : cyc xs b = (xs.length : Int) * (b : Int) + tks xs xs.length := rfl
  rw [e]
  generalize (xs.length : Int) * (b : Int) = q at hmul
  exact ⟨(q + tks xs xs.length).toNat, by omega, by omega, by omega⟩

theorem tkD_okP {xs : Slots} {b : Nat} {o c : Nat} (h : tkD xs) (h1 : 1 ≤ xs.length) (h4 : xs.length ≤ 4) (hb : b < 3) (hc : cyc xs b = (c : Int)) (hc2 : c ≤ 32) (ho : o < c) : okP xs b o = true := by
  unfold okP lenOk btw
  rw [decide_eq_true (show 1 ≤ xs.length ∧ xs.length ≤ 8 by omega), decide_eq_true (show (0 : Int) ≤ (b : Int) ∧ (b : Int) ≤ 240 by omega), (tkD_ok h _ (Nat.le_refl _)).1, hc, decide_eq_true (show (c : Int) ≤ 240 by omega), decide_eq_true (show (0 : Int) ≤ (o : Int) ∧ (o : Int) < (c : Int) by omega)]
  rfl

theorem tkD_cOk {xs : Slots} {b c : Nat} (h : tkD xs) (hb : b < 3) (hc : cyc xs b = (c : Int)) (hc2 : c ≤ 32) : cOk xs b = true := by
  unfold cOk btw
  rw [decide_eq_true (show (0 : Int) ≤ (b : Int) ∧ (b : Int) ≤ 240 by omega), (tkD_ok h _ (Nat.le_refl _)).1, hc, decide_eq_true (show (c : Int) ≤ 240 by omega)]
  rfl

set_option maxHeartbeats 1000000 in
theorem phase_d {w0 w : World} {g : Nat} {ad : Option Addr} {cp : Nat} {bs : List Nat} {k : Nat} (h : Draws w0 g ad cp bs k w) (hk : k < 1000) :
    Calls Try.prog 14 #[.pointer (some ⟨g, 0, none⟩)] w fun e w' => ∃ ps : List Bool, e = .returned (.agg (bl ps)) ∧ ps.length = 8 ∧ Only g w w' ∧ Draws w0 g ad cp bs (k + 8) w' := by
  have hgw := h.lt
  have hlo := h.lo
  have hsz0 := h.below.size
  have R0 := At.new w (#[.bool false, .bool false, .bool false, .bool false, .bool false, .bool false, .bool false, .bool false]) 29
  have P0 : At ((w.alloc (.cells (#[.bool false, .bool false, .bool false, .bool false, .bool false, .bool false, .bool false, .bool false]) 29)).alloc (.cells (#[.bool false, .bool false, .bool false, .bool false, .bool false, .bool false, .bool false, .bool false]) 29)) (w.heap.size + 1) (#[.bool false, .bool false, .bool false, .bool false, .bool false, .bool false, .bool false, .bool false]) 29 := At.last1 w _ _ _
  have P1 := P0.setRow (bl (noes 8))
  have R1 := (R0.alloc (.cells (#[.bool false, .bool false, .bool false, .bool false, .bool false, .bool false, .bool false, .bool false]) 29)).setRow_other (k := w.heap.size + 1) (by omega) (bl (noes 8))
  have D1 := (((h.step (b0 w (.cells (#[.bool false, .bool false, .bool false, .bool false, .bool false, .bool false, .bool false, .bool false]) 29))).step (b0 _ (.cells (#[.bool false, .bool false, .bool false, .bool false, .bool false, .bool false, .bool false, .bool false]) 29))).row (r := w.heap.size + 1) (by omega) (by omega) (bl (noes 8)))
  have B1 := Lib.hid ((Only.refl g w).step (Nat.le_of_lt hgw) (bset (bnew (b0 w (.cells (#[.bool false, .bool false, .bool false, .bool false, .bool false, .bool false, .bool false, .bool false]) 29)) (.cells (#[.bool false, .bool false, .bool false, .bool false, .bool false, .bool false, .bool false, .bool false]) 29)) (g := w.heap.size + 1) (by omega) (bl (noes 8))))
  clear h
  go_enter Try.func14, Try.ntmps14
  go_wp2_with (first | ((with_reducible refine is_bld 29 _ rfl ?_); refine wpList_bld rfl 29 _ rfl #[] (by kernel_rfl) (bl (noes 8)) (by kernel_rfl) ?_) | ((with_reducible refine is_store 29 _ _ rfl ?_); refine wpList_store_at rfl 29 _ _ rfl _ rfl (bl (noes 8)) rfl (#[.bool false, .bool false, .bool false, .bool false, .bool false, .bool false, .bool false, .bool false]) _ (by with_reducible assumption) 8 (rfl) (rfl) (by kernel_rfl) (bl_one _) ?_))
  generalize ((w.alloc (.cells (#[.bool false, .bool false, .bool false, .bool false, .bool false, .bool false, .bool false, .bool false]) 29)).alloc (.cells (#[.bool false, .bool false, .bool false, .bool false, .bool false, .bool false, .bool false, .bool false]) 29)).setRow (w.heap.size + 1) (bl (noes 8)) = w1 at R1 P1 D1 B1 ⊢
  clear R0 P0
  go_loopw [4] (fun n wr => ∃ i : Nat, ∃ ps : List Bool, i ≤ 8 ∧ n = .int .i64 (i : Int) ∧ ps.length = 8 ∧ At wr (w.heap.size + 1) (bl ps) 29 ∧ At wr w.heap.size (#[.bool false, .bool false, .bool false, .bool false, .bool false, .bool false, .bool false, .bool false]) 29 ∧ Draws w0 g ad cp bs (k + i) wr ∧ Hid (Only g w wr)) (fun n _ => 8 - (intOf n).toNat)
  case atStart => exact ⟨0, noes 8, by omega, rfl, noes_len 8, P1, R1, D1, B1⟩
  case round =>
    clear R1 P1 D1 B1
    obtain ⟨i, ps, hi, rfl, hps, P2, R2, D2, B2⟩ := hrel
    by_cases hlt : i < 8
    · have s2 : IntKind.i64.wrap ((i : Int) + 1) = (i : Int) + 1 := IntWalk.i64_in _ (by omega)
      have K := one_e D2 (by omega) 3 (by omega) (by omega)
      have hsz : (bl ps).size = 8 := by rw [bl_size, hps]
      go_wp2_with fail
      refine K.mono ?_
      rintro e w3 ⟨b, rfl, O3, D3⟩
      have P3 := O3.at P2 (by omega)
      have R3 := O3.at R2 (by omega)
      have B3 := Lib.hid (B2.out.trans O3)
      have P4 := P3.setRow (bl (ps.set i b))
      have R4 := R3.setRow_other (k := w.heap.size + 1) (by omega) (bl (ps.set i b))
      have D4 := (D3.row (r := w.heap.size + 1) (by omega) (by omega) (bl (ps.set i b))).more (k2 := k + (i + 1)) (by omega)
      have B4 := Lib.hid (B3.out.row (r := w.heap.size + 1) (by omega) (by omega) (bl (ps.set i b)))
      clear P2 R2 D2 B2 K O3
      go_wp2_with (((with_reducible refine is_store 4 _ _ rfl ?_); refine wpList_store_cell rfl 4 _ _ rfl _ i rfl (.bool b) rfl (bl ps) _ (by with_reducible assumption) (by rw [hsz]; omega) (by kernel_rfl) rfl (bl (ps.set i b)) (bl_set _ _ _) ?_))
      exact ⟨⟨i + 1, ps.set i b, by omega, by go_num, by rw [List.length_set]; exact hps, P4, R4, D4, B4⟩, by simp [intOf]; omega⟩
    · obtain rfl : i = 8 := by omega
      have hsz : (bl ps).size = 8 := by rw [bl_size, hps]
      have R3 := R2.setRow (bl ps)
      have B3 := Lib.hid (B2.out.row (r := w.heap.size) (Nat.le_refl _) (Nat.le_of_lt hgw) (bl ps))
      have D3 := D2.row (r := w.heap.size) (by omega) (by omega) (bl ps)
      go_wp2_with (first | ((with_reducible refine is_load 29 _ rfl ?_); refine wpList_load_at rfl 29 _ rfl _ rfl (bl ps) _ (by with_reducible assumption) 8 (hsz) _ Try.underlying29 rfl (by kernel_rfl) ?_) | ((with_reducible refine is_store 29 _ _ rfl ?_); refine wpList_store_at rfl 29 _ _ rfl _ rfl (bl ps) rfl (#[.bool false, .bool false, .bool false, .bool false, .bool false, .bool false, .bool false, .bool false]) _ (by with_reducible assumption) 8 (hsz) (rfl) (by kernel_rfl) (bl_one _) ?_))
      exact bodyPost_ret (v := .agg (bl ps)) (results_at (p := 2) (ty := 29) rfl _ _ _ (bl ps) _ rfl R3 _ Try.underlying29 rfl 8 hsz (by kernel_rfl)) rfl ⟨ps, rfl, hps, B3.out, D3⟩

end Go.Proofs.Ytldchcjnepnjnaa
