/-
  CONTRACTS: lists of tallies drawn from bytes, whatever the bytes.
-/
import Derived.Test.YtejbaoakpkpciaaG12
import Derived.Test.YtejbaoakpkpciaaOwnT
import Derived.Test.YtejbaoakpkpciaaG1
import Derived.Test.YtejbaoakpkpciaaG11
namespace Go.Proofs.Ytejbaoakpkpciaa
open Go Go.ChangeShapes Go.WideShapes Go.ChangeAt Go.RowKit
set_option maxRecDepth 100000

theorem next_e {w0 w : World} {g : Nat} {ad : Option Addr} {cp : Nat} {bs : List Nat} {k : Nat} (h : Draws w0 g ad cp bs k w) (hk : k < 1000000) :
    Calls Try.prog 31 #[.pointer (some ⟨g, 0, none⟩)] w fun e w' => ∃ v : Int, e = .returned (.int .i64 v) ∧ (0 ≤ v ∧ v < 256) ∧ Only g w w' ∧ Draws w0 g ad cp bs (k + 1) w' := by
  obtain ⟨k', sd, hk', hA⟩ := h.src
  refine (next_b g ad cp k' bs sd w (by omega) h.c.lt hA h.bsl).mono ?_
  rintro e w' ⟨rfl, hO, hA'⟩
  exact ⟨_, rfl, nextV_in h.c.lt k' sd, hO, ⟨h.c, h.lo, h.below.trans (hO.below.mono h.lo), ⟨k' + 1, _, by omega, hA'⟩⟩⟩

/-- a number below n, two bytes drawn -/
theorem pick_big {w0 w : World} {g : Nat} {ad : Option Addr} {cp : Nat} {bs : List Nat} {k : Nat} (h : Draws w0 g ad cp bs k w) (hk : k < 100000) (n : Nat) (h1 : 200 < n) (h2 : n ≤ 65536) :
    Calls Try.prog 17 #[.pointer (some ⟨g, 0, none⟩), .int .i64 (n : Int)] w fun e w' => ∃ m : Nat, e = .returned (.int .i64 (m : Int)) ∧ m < n ∧ Only g w w' ∧ Draws w0 g ad cp bs (k + 2) w' := by
  have hlt := h.lt
  have K := next_e h (by omega)
  have n1 : ¬ (n : Int) ≤ 1 := by omega
  have n2 : (n : Int) > 200 := by omega
  clear h
  go_enter Try.func17, Try.ntmps17
  go_wp2_with fail
  refine K.mono ?_
  rintro e w1 ⟨a, rfl, ha, O1, D1⟩
  have s1 : IntKind.i64.wrap (a * 256) = a * 256 := IntWalk.i64_in _ (by omega)
  clear K
  go_wp2_with fail
  refine (next_e D1 (by omega)).mono ?_
  rintro e w2 ⟨b, rfl, hb, O2, D2⟩
  have s2 : IntKind.i64.wrap (a * 256 + b) = a * 256 + b := IntWalk.i64_in _ (by omega)
  have hn0 : ¬ (n : Int) = 0 := by omega
  have e1 : (a * 256 + b).tmod (n : Int) = (a * 256 + b) % (n : Int) := Int.tmod_eq_emod_of_nonneg (by omega)
  have h3 := Int.emod_nonneg (a * 256 + b) (b := (n : Int)) (by omega)
  have h4 := Int.emod_lt_of_pos (a * 256 + b) (b := (n : Int)) (by omega)
  obtain ⟨m, hm⟩ : ∃ m : Nat, (a * 256 + b) % (n : Int) = (m : Int) := ⟨((a * 256 + b) % (n : Int)).toNat, by omega⟩
  have s3 : IntKind.i64.wrap ((a * 256 + b).tmod (n : Int)) = (a * 256 + b) % (n : Int) := by rw [e1]; exact IntWalk.i64_in _ (by omega)
  have hmn : m < n := by omega
  have HM := Lib.hid hm
  have O3 : Only g w w2 := ⟨O1.below.trans O2.below, fun i hi hne => (O2.rest i (Nat.lt_of_lt_of_le hi O1.below.size) hne).trans (O1.rest i hi hne)⟩
  clear e1 h3 h4 hm
  go_wp2_with fail
  go_ret
  exact ⟨m, by rw [← HM.out]; rfl, hmn, O3, D2⟩

theorem i16_in {n : Int} (h : 0 ≤ n ∧ n ≤ 32767) : IntKind.i16.wrap n = n := by
  unfold IntKind.wrap
  simp [IntKind.bits, IntKind.signed]
  omega

theorem tl_app {xs : Ts} {s : Int × Int × Int} {i : Nat} (hi : i < xs.length) : (xs ++ [s]).getD i (0, 0, 0) = xs.getD i (0, 0, 0) := by
  rw [List.getD_eq_getElem?_getD, List.getD_eq_getElem?_getD, List.getElem?_append_left hi]

theorem tl_last {xs : Ts} {s : Int × Int × Int} : (xs ++ [s]).getD xs.length (0, 0, 0) = s := by
  rw [List.getD_eq_getElem?_getD, List.getElem?_append_right (Nat.le_refl _), Nat.sub_self]; rfl

theorem okOne_app {xs : Ts} {s : Int × Int × Int} {i : Nat} (hi : i < xs.length) : okOne (xs ++ [s]) i = okOne xs i := by
  unfold okOne tn tc tf
  rw [tl_app hi, tl_app (show i - 1 < xs.length by omega)]

theorem okTk_app {xs : Ts} {s : Int × Int × Int} : ∀ m, m ≤ xs.length → okTk (xs ++ [s]) m = okTk xs m
  | 0, _ => rfl
  | m + 1, h => by
    show (okTk (xs ++ [s]) m && okOne (xs ++ [s]) m) = (okTk xs m && okOne xs m)
    rw [okTk_app m (by omega), okOne_app (by omega)]

/-- tallies that have been drawn, and the next turn -/
structure TlD (xs : Ts) (u : Int) : Prop where
  ok : okTk xs xs.length = true
  u0 : 0 ≤ u
  u1 : u ≤ 6 + 4 * (xs.length : Int)
  up : xs = [] ∨ tn xs (xs.length - 1) < u
  w : TW xs

theorem TlD.nil {u : Int} (h : 0 ≤ u ∧ u ≤ 6) : TlD [] u := ⟨rfl, h.1, by simpa using h.2, .inl rfl, fun s hs => by simp at hs⟩

theorem TlD.next {xs : Ts} {u c f d : Int} (h : TlD xs u) (h8 : xs.length ≤ 8) (hc : 0 ≤ c ∧ c ≤ 32767) (hf : 0 ≤ f ∧ f ≤ 1000) (hd : 0 ≤ d ∧ d ≤ 3) : TlD (xs ++ [(u, c, f)]) (u + (1 + d)) := by
  have hu1 := h.u1
  have hu0 := h.u0
  have e1 : tn (xs ++ [(u, c, f)]) xs.length = u := by unfold tn; rw [tl_last]
  have e2 : tc (xs ++ [(u, c, f)]) xs.length = c := by unfold tc; rw [tl_last]
  have e3 : tf (xs ++ [(u, c, f)]) xs.length = f := by unfold tf; rw [tl_last]
  refine ⟨?_, by omega, by rw [List.length_append, List.length_singleton]; omega, .inr ?_, ?_⟩
  · rw [List.length_append, List.length_singleton]
    refine okTk_next (by rw [okTk_app _ (Nat.le_refl _)]; exact h.ok) (okOne_yes (by rw [e1]; omega) (by rw [e2]; exact hc.1) (by rw [e3]; exact hf.1) (by rw [e3]; exact hf.2) ?_)
    rcases h.up with e | e
    · left; rw [e]; rfl
    · by_cases z : xs.length = 0
      · exact .inl z
      · right
        rw [e1]
        unfold tn at e ⊢
        rw [tl_app (by omega)]
        exact e
  · rw [List.length_append, List.length_singleton, Nat.add_sub_cancel, e1]
    omega
  · intro s hs
    rcases List.mem_append.1 hs with hs | hs
    · exact h.w s hs
    · obtain rfl := List.mem_singleton.1 hs
      exact ⟨by unfold I64t; show _ ≤ u ∧ u ≤ _; omega, by unfold I16; show _ ≤ c ∧ c ≤ _; omega, by unfold I16; show _ ≤ f ∧ f ≤ _; omega⟩

theorem TlD.at {xs : Ts} {u : Int} (h : TlD xs u) {i : Nat} (hi : i < xs.length) : (0 ≤ tc xs i ∧ tc xs i ≤ 32767) ∧ (0 ≤ tf xs i ∧ tf xs i ≤ 1000) := by
  have h1 := okOne_of (okTk_at h.ok hi)
  have h2 := (h.w.at hi).2.1
  unfold I16 at h2
  exact ⟨⟨h1.2.1, h2.2⟩, h1.2.2.1⟩

theorem Draws.keepD {w0 w w' : World} {g B : Nat} {ad : Option Addr} {cp : Nat} {bs : List Nat} {k : Nat} (h : Draws w0 g ad cp bs k w) (hb : Below B w w') (hg : g < B) (hB : w0.heap.size ≤ B := by omega) : Draws w0 g ad cp bs k w' :=
  ⟨h.c, h.lo, h.below.trans (hb.mono hB), by obtain ⟨k', sd, h1, hA⟩ := h.src; exact ⟨k', sd, h1, (hb.block g hg).trans hA⟩⟩

theorem OwnT.only {w w' : World} {lo g : Nat} {v : Value} {xs : Ts} (h : OwnT w lo v xs) (hO : Only g w w') (hg : g < lo) : OwnT w' lo v xs := by
  refine ⟨h.1, h.2.imp id ?_⟩
  rintro ⟨g', cap, cur, rfl, h1, h2, h3, h4, h5, h6⟩
  have hl : g' < w.heap.size := (Array.getElem?_eq_some_iff.1 h2).1
  exact ⟨g', cap, cur, rfl, h1, (hO.rest g' hl (by omega)).trans h2, h3, h4, h5, h6⟩

set_option maxHeartbeats 4000000 in
theorem listDrawn_e {w0 w : World} {g : Nat} {ad : Option Addr} {cp : Nat} {bs : List Nat} {k : Nat} (h : Draws w0 g ad cp bs k w) (hk : k < 1000) :
    Calls Try.prog 15 #[.pointer (some ⟨g, 0, none⟩)] w fun e w' => ∃ (v : Value) (xs : Ts) (u : Int), e = .returned v ∧ v ≠ .slice none 0 0 ∧ OwnT w' w.heap.size v xs ∧ xs.length ≤ 8 ∧ TlD xs u ∧ Below g w w' := by
  obtain ⟨i0, hi, hz0, hz1, hz2⟩ := info_tally
  have hgw := h.lt
  have hlo := h.lo
  have O0 := OwnT.empty (w := w) (s := w.heap.size) (lo := w.heap.size) rfl (Nat.le_refl _)
  have D0 := h.step (b0 w (.cells #[] 32))
  have B0 := Lib.hid ((b0 w (.cells #[] 32)).mono (Nat.le_of_lt hgw))
  clear h
  go_enter Try.func15, Try.ntmps15
  go_wp2_with (((with_reducible refine is_bslice 24 0 _ rfl ?_); refine wpList_bslice rfl 24 0 _ rfl #[] (by simp) _ (run_noT _) ?_))
  refine (pick_e D0 (by omega) 6 (by omega) (by omega)).mono ?_
  rintro e w1 ⟨u0, rfl, hu0, Oa', D1⟩
  have O1 := O0.only Oa' hgw
  have B1 := Lib.hid (B0.out.trans Oa'.below)
  clear O0 D0 B0 Oa'
  go_wp2_with fail
  refine (pick_e D1 (by omega) 9 (by omega) (by omega)).mono ?_
  rintro e w2 ⟨n0, rfl, hn0, Ob', D2⟩
  have O2 := O1.only Ob' hgw
  have B2 := Lib.hid (B1.out.trans Ob'.below)
  clear O1 D1 B1 Ob'
  have T2 : TlD [] (u0 : Int) := TlD.nil (by omega)
  go_wp2_with fail
  go_loopw [3, 4, 5] (fun l t n wr => ∃ (j : Nat) (xs : Ts) (u : Int), n = .int .i64 (j : Int) ∧ t = .int .i64 u ∧ xs.length + j ≤ 8 ∧ l ≠ .slice none 0 0 ∧ OwnT wr w.heap.size l xs ∧ TlD xs u ∧ Draws w0 g ad cp bs (k + 2 + 6 * xs.length) wr ∧ Hid (Below g w wr)) (fun _ _ n _ => (intOf n).toNat)
  case atStart => exact ⟨n0, [], _, rfl, rfl, by simp; omega, by simp, O2, T2, D2, B2⟩
  case round =>
    clear O2 T2 D2 B2
    obtain ⟨j, xs, u, rfl, rfl, hj, hne, O3, hT, D3, B3⟩ := hrel
    obtain ⟨va, vc, rfl⟩ := O3.any
    have HNE := Lib.hid hne
    clear hne
    have hu0 := hT.u0
    have hu1 := hT.u1
    by_cases hlt : 0 < j
    · have s1 : IntKind.i64.wrap ((j : Int) - 1) = ((j - 1 : Nat) : Int) := by rw [IntWalk.i64_in _ (by omega)]; omega
      have jd : (j : Int) > 0 := by omega
      go_wp2_with fail
      refine (pick_e D3 (by omega) 30 (by omega) (by omega)).mono ?_
      rintro e w4 ⟨m1, rfl, hm1, Oa', D4⟩
      have O4 := O3.only Oa' hgw
      have B4 := Lib.hid (B3.out.trans Oa'.below)
      clear O3 D3 B3 Oa'
      have s2 : IntKind.i16.wrap (m1 : Int) = (m1 : Int) := i16_in (by omega)
      go_wp2_with fail
      refine (pick_big D4 (by omega) 1001 (by omega) (by omega)).mono ?_
      rintro e w5 ⟨m2, rfl, hm2, Ob', D5⟩
      have O5 := O4.only Ob' hgw
      have B5 := Lib.hid (B4.out.trans Ob'.below)
      clear O4 D4 B4 Ob'
      have s3 : IntKind.i16.wrap (m2 : Int) = (m2 : Int) := i16_in (by omega)
      obtain ⟨cv, hcv0⟩ : ∃ cv : Int, cv = (m1 : Int) := ⟨_, rfl⟩
      obtain ⟨fv, hfv0⟩ : ∃ fv : Int, fv = (m2 : Int) := ⟨_, rfl⟩
      rw [← hcv0] at s2
      rw [← hfv0] at s3
      rw [← hcv0, ← hfv0]
      have hcv : 0 ≤ cv ∧ cv ≤ 32767 := by omega
      have hfv : 0 ≤ fv ∧ fv ≤ 1000 := by omega
      clear hcv0 hfv0 hm1 hm2
      have hgw5 : w.heap.size ≤ w5.heap.size := B5.out.size
      have hg5 := D5.lt
      have N6 := At.new w5 (#[.int .i64 0, .int .i16 0, .int .i16 0]) 32
      have V6 := N6.setRow (t1 u cv fv)
      have O6 := (O5.step (b0 _ (.cells (#[.int .i64 0, .int .i16 0, .int .i16 0]) 32))).setRow_other (g := w5.heap.size) (fun q hq => by have := (O5.block q hq).2; omega) (t1 u cv fv)
      have D6 := (D5.step (b0 _ (.cells (#[.int .i64 0, .int .i16 0, .int .i16 0]) 32))).row (r := w5.heap.size) (by omega) (by omega) (t1 u cv fv)
      have B6 := Lib.hid (bset (B5.out.trans ((b0 w5 (.cells (#[.int .i64 0, .int .i16 0, .int .i16 0]) 32)).mono (Nat.le_of_lt hg5))) (g := w5.heap.size) (by omega) (t1 u cv fv))
      clear B5
      by_cases hz : xs.length = 0
      · have hl0 : ¬ (xs.length : Int) > 0 := by omega
        clear hz
        go_wp2_with (first
          | ((with_reducible refine is_bld 32 _ rfl ?_); refine wpList_bld rfl 32 _ rfl #[(0, .int .i64 u), (1, .int .i16 cv), (2, .int .i16 fv)] (by kernel_rfl) (t1 u cv fv) (by kernel_rfl) ?_)
          | ((with_reducible refine is_store 32 _ _ rfl ?_); refine wpList_store_at rfl 32 _ _ rfl _ rfl (t1 u cv fv) rfl (#[.int .i64 0, .int .i16 0, .int .i16 0]) _ N6 3 (t1_size _ _ _) (rfl) (by kernel_rfl) (t1_one _ _ _) ?_)
          | ((with_reducible refine is_load 32 _ rfl ?_); refine Hid.out ?_))
        generalize World.setRow _ w5.heap.size (t1 u cv fv) = w6 at V6 O6 D6 B6 ⊢
        clear N6 O5 D5
        refine Lib.hid ?_
        have hsz := B6.out.size
        have hgn := D6.lt
        have hgO := fun q hq => (O6.block q hq).1
        go_wp2_with (first | ((with_reducible refine is_load 32 _ rfl ?_); refine wpList_load_at rfl 32 _ rfl _ rfl (t1 u cv fv) _ V6 3 (t1_size _ _ _) _ Try.underlying32 rfl (by kernel_rfl) ?_) | ((with_reducible refine is_bslice 24 1 _ rfl ?_); refine wpList_bslice rfl 24 1 _ rfl #[(0, .agg (t1 u cv fv))] (by kernel_rfl) _ (run_oneT _ u cv fv) ?_) | (at_builtin; go_loud (refine wpList_append_own _ rfl _ _ 24 rfl w.heap.size 32 i0 (.agg #[.int .i64 0, .int .i16 0, .int .i16 0]) 3 16 Try.underlying24 hi hz0 hz1 hz2 rfl (by decide) _ xs.length _ rfl (O6.step (b0 _ _)) ⟨w6.heap.size, 0, none⟩ 1 1 (tll (u, cv, fv)) rfl rfl (one_cellsT w6 u cv fv) (tll_one _) (by unfold maxLen; omega) (by omega) (by rw [World.size_alloc]; omega) ?_)))
        intro v' wa hown hgrow hiff
        have hne' : v' ≠ .slice none 0 0 := hiff
        clear hiff
        have Oa : OwnT wa w.heap.size v' (xs ++ [(u, cv, fv)]) := OwnT.grown hown
        have hba : Below w.heap.size (w6.alloc (.cells (t1 u cv fv) 32)) wa := Below.grownBy hgrow (by rw [World.size_alloc]; omega) (fun q hq => hgO q hq)
        have Da := (D6.step (b0 _ (.cells (t1 u cv fv) 32))).keepD hba (by omega)
        have Ba := Lib.hid ((B6.out.trans ((b0 _ (.cells (t1 u cv fv) 32)).mono (Nat.le_of_lt hgn))).trans (hba.mono (by omega)))
        clear hown hgrow hba O6 D6 B6 V6
        go_wp2_with fail
        refine (pick_e Da (by omega) 4 (by omega) (by omega)).mono ?_
        rintro e wb ⟨m3, rfl, hm3, Ob', Db⟩
        have Ob := Oa.only Ob' (by omega)
        have Bb := Lib.hid (Ba.out.trans Ob'.below)
        clear Oa Da Ba Ob'
        go_wp2_with fail
        refine (pick_e Db (by omega) 2 (by omega) (by omega)).mono ?_
        rintro e wc ⟨m4, rfl, hm4, Oc', Dc⟩
        have Oc := Ob.only Oc' (by omega)
        have Bc := Lib.hid (Bb.out.trans Oc'.below)
        clear Ob Db Bb Oc'
        have hmm : 0 ≤ (m3 : Int) * (m4 : Int) ∧ (m3 : Int) * (m4 : Int) ≤ 3 := by
          rcases (by omega : m4 = 0 ∨ m4 = 1) with rfl | rfl
          · simp
          · simp; omega
        have s4 : IntKind.i64.wrap ((m3 : Int) * (m4 : Int)) = (m3 : Int) * (m4 : Int) := IntWalk.i64_in _ (by omega)
        have s5 : IntKind.i64.wrap (1 + (m3 : Int) * (m4 : Int)) = 1 + (m3 : Int) * (m4 : Int) := IntWalk.i64_in _ (by omega)
        have s6 : IntKind.i64.wrap (u + (1 + (m3 : Int) * (m4 : Int))) = u + (1 + (m3 : Int) * (m4 : Int)) := IntWalk.i64_in _ (by omega)
        have hT2 := hT.next (by omega) hcv hfv hmm
        have Dd := Dc.more (k2 := k + 2 + 6 * (xs ++ [(u, cv, fv)]).length) (by rw [List.length_append, List.length_singleton]; omega)
        have hjl : (xs ++ [(u, cv, fv)]).length + (j - 1) ≤ 8 := by rw [List.length_append, List.length_singleton]; omega
        clear Dc hT hmm hcv hfv
        go_wp2_with fail
        exact ⟨⟨j - 1, _, _, rfl, rfl, hjl, hne', Oc, hT2, Dd, Bc⟩, by simp [intOf]; omega⟩
      · have hl0 : (xs.length : Int) > 0 := by omega
        go_wp2_with (first
          | ((with_reducible refine is_bld 32 _ rfl ?_); refine wpList_bld rfl 32 _ rfl #[(0, .int .i64 u), (1, .int .i16 cv), (2, .int .i16 fv)] (by kernel_rfl) (t1 u cv fv) (by kernel_rfl) ?_)
          | ((with_reducible refine is_store 32 _ _ rfl ?_); refine wpList_store_at rfl 32 _ _ rfl _ rfl (t1 u cv fv) rfl (#[.int .i64 0, .int .i16 0, .int .i16 0]) _ N6 3 (t1_size _ _ _) (rfl) (by kernel_rfl) (t1_one _ _ _) ?_))
        obtain ⟨gv, hgv⟩ : ∃ gv, gv = w5.heap.size := ⟨_, rfl⟩
        rw [← hgv] at V6 O6 D6 B6 hgw5 hg5 ⊢
        have hgvO := fun q hq => (show q ≠ gv from by have := (O5.block q hq).2; omega)
        generalize World.setRow _ gv (t1 u cv fv) = w6 at V6 O6 D6 B6 ⊢
        clear N6 O5 D5 hgv
        refine (one_e D6 (by omega) 3 (by omega) (by omega)).mono ?_
        rintro e w7 ⟨b, rfl, Oc', D7⟩
        have V7 := Oc'.at V6 (by omega)
        have O7 := O6.only Oc' hgw
        have B7 := Lib.hid (B6.out.trans Oc'.below)
        clear V6 O6 D6 B6 Oc'
        cases b
        · have hjj := hlt
          have hsz := B7.out.size
          have hgn := D7.lt
          have hgO := fun q hq => (O7.block q hq).1
          go_wp2_with (first | ((with_reducible refine is_load 32 _ rfl ?_); refine wpList_load_at rfl 32 _ rfl _ rfl (t1 u cv fv) _ V7 3 (t1_size _ _ _) _ Try.underlying32 rfl (by kernel_rfl) ?_) | ((with_reducible refine is_bslice 24 1 _ rfl ?_); refine wpList_bslice rfl 24 1 _ rfl #[(0, .agg (t1 u cv fv))] (by kernel_rfl) _ (run_oneT _ u cv fv) ?_) | (at_builtin; go_loud (refine wpList_append_own _ rfl _ _ 24 rfl w.heap.size 32 i0 (.agg #[.int .i64 0, .int .i16 0, .int .i16 0]) 3 16 Try.underlying24 hi hz0 hz1 hz2 rfl (by decide) _ xs.length _ rfl (O7.step (b0 _ _)) ⟨w7.heap.size, 0, none⟩ 1 1 (tll (u, cv, fv)) rfl rfl (one_cellsT w7 u cv fv) (tll_one _) (by unfold maxLen; omega) (by omega) (by rw [World.size_alloc]; omega) ?_)))
          intro v' wa hown hgrow hiff
          have hne' : v' ≠ .slice none 0 0 := hiff
          clear hiff
          have Oa : OwnT wa w.heap.size v' (xs ++ [(u, cv, fv)]) := OwnT.grown hown
          have hba : Below w.heap.size (w7.alloc (.cells (t1 u cv fv) 32)) wa := Below.grownBy hgrow (by rw [World.size_alloc]; omega) (fun q hq => hgO q hq)
          have Da := (D7.step (b0 _ (.cells (t1 u cv fv) 32))).keepD hba (by omega)
          have Ba := Lib.hid ((B7.out.trans ((b0 _ (.cells (t1 u cv fv) 32)).mono (Nat.le_of_lt hgn))).trans (hba.mono (by omega)))
          clear hown hgrow hba O7 D7 B7 V7
          go_wp2_with fail
          refine (pick_e Da (by omega) 4 (by omega) (by omega)).mono ?_
          rintro e wb ⟨m3, rfl, hm3, Ob', Db⟩
          have Ob := Oa.only Ob' (by omega)
          have Bb := Lib.hid (Ba.out.trans Ob'.below)
          clear Oa Da Ba Ob'
          go_wp2_with fail
          refine (pick_e Db (by omega) 2 (by omega) (by omega)).mono ?_
          rintro e wc ⟨m4, rfl, hm4, Oc', Dc⟩
          have Oc := Ob.only Oc' (by omega)
          have Bc := Lib.hid (Bb.out.trans Oc'.below)
          clear Ob Db Bb Oc'
          have hmm : 0 ≤ (m3 : Int) * (m4 : Int) ∧ (m3 : Int) * (m4 : Int) ≤ 3 := by
            rcases (by omega : m4 = 0 ∨ m4 = 1) with rfl | rfl
            · simp
            · simp; omega
          have s4 : IntKind.i64.wrap ((m3 : Int) * (m4 : Int)) = (m3 : Int) * (m4 : Int) := IntWalk.i64_in _ (by omega)
          have s5 : IntKind.i64.wrap (1 + (m3 : Int) * (m4 : Int)) = 1 + (m3 : Int) * (m4 : Int) := IntWalk.i64_in _ (by omega)
          have s6 : IntKind.i64.wrap (u + (1 + (m3 : Int) * (m4 : Int))) = u + (1 + (m3 : Int) * (m4 : Int)) := IntWalk.i64_in _ (by omega)
          have hT2 := hT.next (by omega) hcv hfv hmm
          have Dd := Dc.more (k2 := k + 2 + 6 * (xs ++ [(u, cv, fv)]).length) (by rw [List.length_append, List.length_singleton]; omega)
          have hjl : (xs ++ [(u, cv, fv)]).length + (j - 1) ≤ 8 := by rw [List.length_append, List.length_singleton]; omega
          clear Dc hT hmm hcv hfv
          go_wp2_with fail
          exact ⟨⟨j - 1, _, _, rfl, rfl, hjl, hne', Oc, hT2, Dd, Bc⟩, by simp [intOf]; omega⟩
        · obtain ⟨go, capo, curo, hvo, hlo', hAo, hcapo, hso, hco⟩ := O7.at hz
          obtain ⟨rfl, rfl⟩ : va = some ⟨go, 0, none⟩ ∧ vc = capo := by simpa using hvo
          have hgo := hgvO go rfl
          have hx1 := hT.at (i := xs.length - 1) (by omega)
          have s7 : IntKind.i64.wrap ((xs.length : Int) - 1) = ((xs.length - 1 : Nat) : Int) := by rw [IntWalk.i64_in _ (by omega)]; omega
          have kn : ((xs.length - 1 : Nat) : Int) < (xs.length : Int) := by omega
          have c1 : curo[(xs.length - 1) * 3 + 1]? = some (.int .i16 (tc xs (xs.length - 1))) := by
            rw [hco _ (by omega), ← List.getElem?_toArray, tL_toC]; exact tC_count (by omega) rfl
          have c2 : curo[(xs.length - 1) * 3 + 2]? = some (.int .i16 (tf xs (xs.length - 1))) := by
            rw [hco _ (by omega), ← List.getElem?_toArray, tL_toC]; exact tC_full (by omega) rfl
          clear hvo hco
          generalize tc xs (xs.length - 1) = c' at *
          generalize tf xs (xs.length - 1) = f' at *
          generalize xs.length - 1 = lm at *
          have d1 := hAo.cell c1
          have V8 := V7.setRow (t1 u c' fv)
          have A8 := hAo.setRow_other (k := gv) (by omega) (t1 u c' fv)
          have d2 := A8.cell c2
          have O8 := O7.setRow_other (g := gv) hgvO (t1 u c' fv)
          have D8 := D7.row (r := gv) (by omega) (by omega) (t1 u c' fv)
          have B8 := Lib.hid (bset B7.out (g := gv) (by omega) (t1 u c' fv))
          have V9 := V8.setRow (t1 u c' f')
          have O9 := O8.setRow_other (g := gv) hgvO (t1 u c' f')
          have D9 := D8.row (r := gv) (by omega) (by omega) (t1 u c' f')
          have B9 := Lib.hid (bset B8.out (g := gv) (by omega) (t1 u c' f'))
          go_wp2_with (first
            | ((with_reducible refine is_store 30 _ _ rfl ?_); refine wpList_store_cell rfl 30 _ _ rfl _ 1 rfl (.int .i16 c') rfl (t1 u cv fv) _ V7 (by rw [t1_size]; omega) (by kernel_rfl) rfl (t1 u c' fv) (t1_s1 _ _ _ _) ?_)
            | ((with_reducible refine is_store 30 _ _ rfl ?_); refine wpList_store_cell rfl 30 _ _ rfl _ 2 rfl (.int .i16 f') rfl (t1 u c' fv) _ V8 (by rw [t1_size]; omega) (by kernel_rfl) rfl (t1 u c' f') (t1_s2 _ _ _ _) ?_)
            | ((with_reducible refine is_load 32 _ rfl ?_); refine Hid.out ?_))
          generalize World.setRow _ gv (t1 u c' f') = w9 at V9 O9 D9 B9 ⊢
          clear V7 V8 A8 hAo O7 O8 D7 D8 B7 B8 d1 d2 c1 c2 hcv hfv
          obtain ⟨hcv, hfv⟩ := hx1
          generalize c' = cv at *
          generalize f' = fv at *
          refine Lib.hid ?_
          have hsz := B9.out.size
          have hgn := D9.lt
          have hgO := fun q hq => (O9.block q hq).1
          go_wp2_with (first | ((with_reducible refine is_load 32 _ rfl ?_); refine wpList_load_at rfl 32 _ rfl _ rfl (t1 u cv fv) _ V9 3 (t1_size _ _ _) _ Try.underlying32 rfl (by kernel_rfl) ?_) | ((with_reducible refine is_bslice 24 1 _ rfl ?_); refine wpList_bslice rfl 24 1 _ rfl #[(0, .agg (t1 u cv fv))] (by kernel_rfl) _ (run_oneT _ u cv fv) ?_) | (at_builtin; go_loud (refine wpList_append_own _ rfl _ _ 24 rfl w.heap.size 32 i0 (.agg #[.int .i64 0, .int .i16 0, .int .i16 0]) 3 16 Try.underlying24 hi hz0 hz1 hz2 rfl (by decide) _ xs.length _ rfl (O9.step (b0 _ _)) ⟨w9.heap.size, 0, none⟩ 1 1 (tll (u, cv, fv)) rfl rfl (one_cellsT w9 u cv fv) (tll_one _) (by unfold maxLen; omega) (by omega) (by rw [World.size_alloc]; omega) ?_)))
          intro v' wa hown hgrow hiff
          have hne' : v' ≠ .slice none 0 0 := hiff
          clear hiff
          have Oa : OwnT wa w.heap.size v' (xs ++ [(u, cv, fv)]) := OwnT.grown hown
          have hba : Below w.heap.size (w9.alloc (.cells (t1 u cv fv) 32)) wa := Below.grownBy hgrow (by rw [World.size_alloc]; omega) (fun q hq => hgO q hq)
          have Da := (D9.step (b0 _ (.cells (t1 u cv fv) 32))).keepD hba (by omega)
          have Ba := Lib.hid ((B9.out.trans ((b0 _ (.cells (t1 u cv fv) 32)).mono (Nat.le_of_lt hgn))).trans (hba.mono (by omega)))
          clear hown hgrow hba O9 D9 B9 V9
          go_wp2_with fail
          refine (pick_e Da (by omega) 4 (by omega) (by omega)).mono ?_
          rintro e wb ⟨m3, rfl, hm3, Ob', Db⟩
          have Ob := Oa.only Ob' (by omega)
          have Bb := Lib.hid (Ba.out.trans Ob'.below)
          clear Oa Da Ba Ob'
          go_wp2_with fail
          refine (pick_e Db (by omega) 2 (by omega) (by omega)).mono ?_
          rintro e wc ⟨m4, rfl, hm4, Oc', Dc⟩
          have Oc := Ob.only Oc' (by omega)
          have Bc := Lib.hid (Bb.out.trans Oc'.below)
          clear Ob Db Bb Oc'
          have hmm : 0 ≤ (m3 : Int) * (m4 : Int) ∧ (m3 : Int) * (m4 : Int) ≤ 3 := by
            rcases (by omega : m4 = 0 ∨ m4 = 1) with rfl | rfl
            · simp
            · simp; omega
          have s4 : IntKind.i64.wrap ((m3 : Int) * (m4 : Int)) = (m3 : Int) * (m4 : Int) := IntWalk.i64_in _ (by omega)
          have s5 : IntKind.i64.wrap (1 + (m3 : Int) * (m4 : Int)) = 1 + (m3 : Int) * (m4 : Int) := IntWalk.i64_in _ (by omega)
          have s6 : IntKind.i64.wrap (u + (1 + (m3 : Int) * (m4 : Int))) = u + (1 + (m3 : Int) * (m4 : Int)) := IntWalk.i64_in _ (by omega)
          have hT2 := hT.next (by omega) hcv hfv hmm
          have Dd := Dc.more (k2 := k + 2 + 6 * (xs ++ [(u, cv, fv)]).length) (by rw [List.length_append, List.length_singleton]; omega)
          have hjl : (xs ++ [(u, cv, fv)]).length + (j - 1) ≤ 8 := by rw [List.length_append, List.length_singleton]; omega
          clear Dc hT hmm hcv hfv
          go_wp2_with fail
          exact ⟨⟨j - 1, _, _, rfl, rfl, hjl, hne', Oc, hT2, Dd, Bc⟩, by simp [intOf]; omega⟩
    · obtain rfl : j = 0 := by omega
      go_wp2_with fail
      go_ret
      exact ⟨_, xs, u, rfl, HNE.out, O3, by omega, hT, B3.out⟩

theorem P6Tallies_e (ad : Option Addr) (cp : Nat) (bs : List Nat) (w : World) (hC : BSl w ad bs) :
    Calls Try.prog 5 #[.slice ad bs.length cp] w fun e w' => ∃ (v : Value) (xs : Ts) (u : Int), e = .returned v ∧ v ≠ .slice none 0 0 ∧ OwnT w' w.heap.size v xs ∧ xs.length ≤ 8 ∧ TlD xs u ∧ Below w.heap.size w w' := by
  have K := l00From_b ad cp bs w
  go_enter Try.func5, Try.ntmps5
  go_wp2_with fail
  refine K.mono ?_
  rintro e w1 ⟨rfl, hb1, A1⟩
  have D1 := from_draws hC hb1 A1
  have hs1 := hb1.size
  clear K A1
  go_wp2_with fail
  refine (listDrawn_e D1 (by omega)).mono ?_
  rintro e w2 ⟨v, xs, u, rfl, hne, hO, hl, hT, hb2⟩
  go_wp2_with fail
  go_ret
  exact ⟨v, xs, u, rfl, hne, hO.low hs1, hl, hT, hb1.trans hb2⟩

end Go.Proofs.Ytejbaoakpkpciaa
