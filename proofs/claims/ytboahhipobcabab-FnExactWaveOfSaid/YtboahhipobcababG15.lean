/-
  SEVERAL TEXTS IN ONE.
-/
import Derived.Test.YtboahhipobcababG9
import Derived.Test.YtboahhipobcababG10
import Derived.Test.YtboahhipobcababPlTo
import Derived.Test.YtboahhipobcababG14
import Derived.Test.YtboahhipobcababInts
import Derived.Test.YtboahhipobcababG13

/-
  CONTRACTS: own slices of plans, marked and compared.
-/
namespace Go.Proofs.Ytboahhipobcabab
open Go Go.ChangeShapes Go.WideShapes Go.ChangeAt Go.RowKit
set_option maxRecDepth 100000

theorem At.types {w : World} {g h : Nat} {c d : Array Value} (h1 : At w g c 107) (h2 : At w h d 41) : g ≠ h := by
  rintro rfl
  have e1 : w.heap[g]? = some (.cells c 107) := h1
  have e2 : w.heap[g]? = some (.cells d 41) := h2
  rw [e1] at e2
  simp at e2

theorem OwnPs.mp {w : World} {lo : Nat} {v : Value} {ps : Ps} {l : Pv} (h : OwnPs w lo v ps l) (hz : ps.length ≠ 0) (hne : ∀ i, i < ps.length → (pS ps i).length ≠ 0) :
    ∃ g cp hb cap cur, v = .slice (some ⟨g, 0, none⟩) ps.length cp ∧ MP w g ps.length hb (fun i => (pS ps i).length) cap cur ∧ (lo ≤ g ∧ ∀ i, i < ps.length → lo ≤ hb i) ∧ (g < w.heap.size ∧ ∀ i, i < ps.length → hb i < w.heap.size) := by
  have hl := h.len
  obtain ⟨g, cp, cur, rfl, hg, hA, hcp, hs, hc⟩ := h.own.at (by omega)
  have hch : ∀ i, ∃ x : Nat × Nat, i < ps.length → l.getD i (.slice none 0 0, 0, 0) = (.slice (some ⟨x.1, 0, none⟩) (pS ps i).length x.2, pB ps i, pO ps i) ∧ lo ≤ x.1 ∧ ∃ cs, At w x.1 cs 107 ∧ (pS ps i).length * 9 ≤ cs.size := by
    intro i
    by_cases c : i < ps.length
    · obtain ⟨u, h1, h2⟩ := h.at' i c
      obtain ⟨gu, cu, ccs, rfl, h3, h4, -, h6, -⟩ := h2.at (hne i c)
      exact ⟨(gu, cu), fun _ => ⟨h1, h3, ccs, h4, h6⟩⟩
    · exact ⟨(0, 0), fun hi => absurd hi c⟩
  obtain ⟨f, hf⟩ := Classical.axiomOfChoice hch
  refine ⟨g, cp, fun i => (f i).1, fun i => (f i).2, cur, by rw [hl], ⟨hA, by omega, fun i hi => ?_, fun i hi => ?_, fun i hi => ?_, fun i j hij hj e => ?_⟩, ⟨hg, fun i hi => (hf i hi).2.1⟩, hA.lt, fun i hi => ?_⟩
  · rw [hc _ (by omega)]
    have := pvC_get (l := l) (i := i) (j := 0) (by omega) (by omega) (hf i hi).1
    rw [Nat.add_zero] at this
    rw [this]; rfl
  · exact (hf i hi).2.2
  · obtain ⟨cs, h1, -⟩ := (hf i hi).2.2
    exact h1.types hA
  · refine h.dis i j hij hj (f i).1 ?_ ?_
    · rw [(hf i (by omega)).1]; rfl
    · rw [(hf j hj).1]
      show some (f j).1 = _
      rw [show (f j).1 = (f i).1 from e.symm]
  · obtain ⟨cs, h1, -⟩ := (hf i hi).2.2
    exact h1.lt

theorem OwnPs.psl {w : World} {lo : Nat} {v : Value} {ps : Ps} {l : Pv} (h : OwnPs w lo v ps l) (hW : ∀ i, i < ps.length → SlW (pS ps i)) (hm : ∀ i, i < ps.length → (pS ps i).length ≤ maxLen) (hmm : ps.length ≤ maxLen) : PSl w v ps := by
  have hl := h.len
  by_cases z : ps.length = 0
  · obtain ⟨a, cap, rfl⟩ := h.own.any
    refine ⟨.inl ⟨List.length_eq_zero_iff.1 z, a, cap, by rw [hl, z]⟩, hmm⟩
  · obtain ⟨g, cp, cur, rfl, hg, hA, hcp, hs, hc⟩ := h.own.at (by omega)
    refine ⟨.inr ⟨g, 0, cp, by rw [hl], hA.lt, fun i hi => ?_⟩, hmm⟩
    obtain ⟨u, h1, h2⟩ := h.at' i hi
    obtain ⟨a, c, rfl⟩ := h2.any
    refine ⟨a, c, h2.st (hW i hi) (hm i hi), fun j hj => ?_⟩
    rw [cell_of_row _ _ _ _ _ _ hA, Nat.zero_add, hc _ (by omega)]
    exact pvC_get (by omega) hj h1

theorem PB.mp {w : World} {G : Nat} {gs : Nat → Nat} {ps : Ps} (P : PB w G gs ps 41) (hW : ∀ i, i < ps.length → SlW (pS ps i)) (hd : ∀ i j, i < j → j < ps.length → gs i < gs j) :
    MP w G ps.length gs (fun i => (pS ps i).length) (fun i => (pS ps i).length) (pvC (pvs gs ps ps.length ps.length)) := by
  refine ⟨P.row, by rw [pvC_size, pvs_len]; exact Nat.le_refl _, fun i hi => ?_, fun i hi => ⟨_, P.sl i hi, Nat.le_of_eq (slC_size (hW i hi)).symm⟩, fun i hi => (P.sl i hi).types P.row, fun i j hij hj => Nat.ne_of_lt (hd i j hij hj)⟩
  have := pvC_get (l := pvs gs ps ps.length ps.length) (i := i) (j := 0) (by rw [pvs_len]; exact hi) (by omega) (pvs_at hi hi)
  rw [Nat.add_zero] at this
  rw [this]; rfl

set_option maxHeartbeats 1000000 in
theorem markInt64S_any (g n cp : Nat) (s : Int) (hs : 0 ≤ s ∧ s ≤ 1000000000000) (cur : Array Value) (T : TypeId) (hn : n ≤ 1048576) (hz : n ≤ cur.size) (w : World) (h0 : At w g cur T) :
    Calls Try.prog 17 #[.slice (some ⟨g, 0, none⟩) n cp, .int .i64 s] w fun e w' => e = .returned (.int .i64 (s + (n : Int))) ∧ ∃ c, w' = w.setRow g c := by
  have H0 := Lib.hid h0
  have W0 := Lib.hid (show w = w.setRow g cur from (setRow_same h0).symm)
  clear h0
  go_enter Try.func17, Try.ntmps17
  go_wp2
  go_loopw [1, 5] (fun sv iv wr => ∃ (i : Nat) (c : Array Value), i ≤ n ∧ iv = .int .i64 (i : Int) ∧ sv = .int .i64 (s + (i : Int)) ∧ Hid (c.size = cur.size) ∧ Hid (wr = w.setRow g c)) (fun _ iv _ => n - (intOf iv).toNat)
  case atStart => exact ⟨0, cur, by omega, rfl, by simp, Lib.hid rfl, W0⟩
  case round =>
    clear W0
    obtain ⟨i, c, hi, rfl, rfl, hc, hw⟩ := hrel
    by_cases hlt : i < n
    · have kd : (i : Int) < (n : Int) := by omega
      have s2 : IntKind.i64.wrap ((i : Int) + 1) = (i : Int) + 1 := IntWalk.i64_in _ (by omega)
      obtain ⟨m, hm⟩ : ∃ m : Int, m = s + (i : Int) := ⟨_, rfl⟩
      have e9 := Lib.hid (show m + 1 = s + ((i + 1 : Nat) : Int) from by omega)
      have s3 : IntKind.i64.wrap (m + 1) = m + 1 := IntWalk.i64_in _ (by omega)
      rw [← hm]
      have A1 : At wr g c T := by rw [hw.out]; exact H0.out.setRow _
      have hl1 : i < c.size := by rw [hc.out]; omega
      have hc2 := Lib.hid (show (c.setIfInBounds i (.int .i64 m)).size = cur.size from by rw [Array.size_setIfInBounds]; exact hc.out)
      have hw2 := Lib.hid (show wr.setRow g (c.setIfInBounds i (.int .i64 m)) = w.setRow g (c.setIfInBounds i (.int .i64 m)) from by rw [hw.out, setRow_setRow])
      clear hm
      go_wp2_with (((with_reducible refine is_store 2 _ _ rfl ?_); refine wpList_store_cell rfl 2 _ _ rfl _ (i) rfl (.int .i64 (m)) rfl (c) _ (by with_reducible assumption) (hl1) (by kernel_rfl) rfl ((c.setIfInBounds i (.int .i64 m))) rfl ?_))
      exact ⟨⟨i + 1, _, by omega, by go_num, by rw [e9.out], hc2, hw2⟩, by simp [intOf]; omega⟩
    · obtain rfl : n = i := by omega
      go_wp2
      go_ret
      exact ⟨rfl, c, hw.out⟩

end Go.Proofs.Ytboahhipobcabab

/-
  CONTRACTS: the greens of a cycle, as the model lists them.
-/
namespace Go.Proofs.Ytboahhipobcabab
open Go Go.ChangeShapes Go.WideShapes Go.ChangeAt Go.RowKit
set_option maxRecDepth 100000

set_option maxHeartbeats 1000000 in
theorem l04Greens_any (g : Nat) (T' : TypeId) (G : Nat) (xs : Slots) (b o : Int) (hW : SlW xs) (T : TypeId) (hok : okP xs b o = true) (m : Nat) (hm : m < 8) (w : World) (P0 : At w g (plC (.slice (some ⟨G, 0, none⟩) xs.length xs.length) b o) T') (A0 : At w G (slC xs) T) :
    Calls Try.prog 99 #[.pointer (some ⟨g, 0, none⟩), .int .i64 (m : Int)] w fun e w' => ∃ v, e = .returned (.tuple #[v, .int .i64 ((cnt (gre b xs m) (cyc xs b).toNat : Nat) : Int)]) ∧ Own1 w' w.heap.size v (cyc xs b).toNat (gL b xs m (cyc xs b).toNat) ∧ Below w.heap.size w w' := by
  obtain ⟨hl, hb, htk, hc, ho⟩ := okP_parts hok
  have hI : (Try.prog.info? 4).map (fun i => (i.zero, i.size, i.bytes)) = some (some (.bool false), 1, 1) := by kernel_rfl
  obtain ⟨i0, hi, hz0, hz1, hz2⟩ := info_parts hI
  have P1 := P0.alloc (.cells #[] 4)
  have A1 := A0.alloc (.cells #[] 4)
  have O1 := Own1.empty w
  have B1 := Lib.hid (b0 w (.cells #[] 4))
  have KC := fun wr hP hA => l04Cycle_any g T' G xs b o hW T hl.1 hl.2 wr hP hA
  have KA := fun (k : Nat) (hk : (k : Int) < 240) wr hP hA => l04At_any g T' G xs b o hW T hl.2 hb htk (k : Int) ⟨by omega, by omega⟩ wr hP hA
  have hcO := cOk_of hok
  have hlen8 := fun (k : Nat) => atS_len (b := b) (c := (k : Int)) hW
  have hbnd : 0 < cyc xs b ∧ cyc xs b ≤ 240 := by omega
  obtain ⟨N, hN⟩ : ∃ N : Nat, cyc xs b = N := ⟨(cyc xs b).toNat, by omega⟩
  have hNt : (cyc xs b).toNat = N := by omega
  rw [hNt]
  have HN := Lib.hid hN
  rw [hN] at hbnd
  have hgl := P0.lt
  have hGl := A0.lt
  clear hI hok hl hb htk hc ho hW P0 A0 hN hNt
  generalize xs.length = n at P1 KC KA
  have hzc : (Value.bool false).cells.size = 1 := rfl
  go_enter Try.func99, Try.ntmps99
  go_wp2_with ((with_reducible refine is_bslice 151 0 _ rfl ?_); refine wpList_bslice rfl 151 0 _ rfl #[] rfl _ (run_bool0 _) ?_)
  go_loopw [6, 7, 8] (fun v cc i wr => ∃ (k c : Nat), k ≤ N ∧ i = .int .i64 (k : Int) ∧ cc = .int .i64 (c : Int) ∧ c ≤ k ∧ Hid (c = cnt (gre b xs m) k) ∧ Own1 wr w.heap.size v k (gL b xs m k) ∧ At wr g (plC (.slice (some ⟨G, 0, none⟩) n n) b o) T' ∧ At wr G (slC xs) T ∧ Hid (Below w.heap.size w wr)) (fun _ _ i _ => N - (intOf i).toNat)
  case atStart => exact ⟨0, 0, by omega, rfl, rfl, by omega, Lib.hid rfl, O1, P1, A1, B1⟩
  case round =>
    clear P1 A1 O1 B1
    obtain ⟨k, c, hk, rfl, rfl, hck, hcc, O1, P1, A1, B1⟩ := hrel
    obtain ⟨av, cv, rfl⟩ := O1.any
    have KC1 := KC wr P1 A1
    go_wp2_with fail
    refine KC1.mono ?_
    rintro e w1 ⟨s, rfl, ⟨hs, -, -, -⟩, hb1⟩
    obtain rfl := (hs hcO).trans HN.out
    have P2 := P1.step hb1
    have A2 := A1.step hb1
    have O2 := O1.step hb1
    have B2 := Lib.hid (bthen B1.out hb1)
    clear P1 A1 O1 B1 hb1 KC1 hs
    by_cases hlt : k < N
    · have kd : (k : Int) < (N : Int) := by omega
      have s2 : IntKind.i64.wrap ((k : Int) + 1) = (k : Int) + 1 := IntWalk.i64_in _ (by omega)
      have KA1 := KA k (by omega) w1 P2 A2
      have h8 := hlen8 k
      have hgr : gre b xs m k = bn (atS b xs (k : Int)).1 m := rfl
      have hgL := gL_next b xs m k
      have hcn : cnt (gre b xs m) (k + 1) = cnt (gre b xs m) k + (if gre b xs m k then 1 else 0) := rfl
      rw [hgr] at hcn hgL
      generalize (atS b xs (k : Int)).1 = rw8 at KA1 h8 hcn hgL
      generalize (atS b xs (k : Int)).2 = lf at KA1
      have SZV : (bl rw8).size = 8 := by rw [bl_size, h8]
      clear hgr
      go_wp2_with fail
      refine KA1.mono ?_
      rintro e w2 ⟨rfl, hb2⟩
      have BI : Below w1.heap.size w1 ((w2.alloc (.cells #[.bool false, .bool false, .bool false, .bool false, .bool false, .bool false, .bool false, .bool false] 69)).setRow w2.heap.size (bl rw8)) := bthen hb2 (bset (b0 _ _) (Nat.le_refl _) _)
      have I0 := At.new w2 #[.bool false, .bool false, .bool false, .bool false, .bool false, .bool false, .bool false, .bool false] 69
      have I6 := I0.setRow (bl rw8)
      have P3 := P2.step BI
      have A3 := A2.step BI
      have O3 := O2.step BI
      have B3 := Lib.hid (bthen B2.out BI)
      have ce := I6.cell (bl_get (bs := rw8) (k := m) (by omega))
      have BA : Below ((w2.alloc (.cells #[.bool false, .bool false, .bool false, .bool false, .bool false, .bool false, .bool false, .bool false] 69)).setRow w2.heap.size (bl rw8)).heap.size ((w2.alloc (.cells #[.bool false, .bool false, .bool false, .bool false, .bool false, .bool false, .bool false, .bool false] 69)).setRow w2.heap.size (bl rw8)) (((w2.alloc (.cells #[.bool false, .bool false, .bool false, .bool false, .bool false, .bool false, .bool false, .bool false] 69)).setRow w2.heap.size (bl rw8)).alloc (.cells #[.bool (bn rw8 m)] 4)) := b0 _ _
      have P4 := P3.step BA
      have A4 := A3.step BA
      have O4 := O3.step BA
      have I7 := I6.step BA
      have B4 := Lib.hid (bthen B3.out BA)
      have OB := O4.block
      have HS8 := Lib.hid (show w2.heap.size + 1 = ((w2.alloc (.cells #[.bool false, .bool false, .bool false, .bool false, .bool false, .bool false, .bool false, .bool false] 69)).setRow w2.heap.size (bl rw8)).heap.size from by simp [World.setRow])
      have hbase : w.heap.size ≤ (((w2.alloc (.cells #[.bool false, .bool false, .bool false, .bool false, .bool false, .bool false, .bool false, .bool false] 69)).setRow w2.heap.size (bl rw8)).alloc (.cells #[.bool (bn rw8 m)] 4)).heap.size := B4.out.size
      have hOB : ∀ kk, (Value.slice av k cv).ownBlock = some kk → kk ≠ w2.heap.size := by
        intro kk hkk
        have := (O2.block kk hkk).2
        have := hb2.size
        omega
      clear P2 A2 O2 B2 BI KA1 hb2 P3 A3 B3 BA
      generalize hx : bn rw8 m = x at *
      go_wp2_with (first | ((with_reducible refine is_store 69 _ _ rfl ?_); refine wpList_store_at rfl 69 _ _ rfl _ rfl (bl rw8) rfl (#[.bool false, .bool false, .bool false, .bool false, .bool false, .bool false, .bool false, .bool false]) _ (by with_reducible assumption) 8 (SZV) (rfl) (by kernel_rfl) (bl_one _) ?_) | ((with_reducible refine is_bslice 151 1 _ rfl ?_); refine wpList_bslice rfl 151 1 _ rfl #[(0, .bool x)] rfl _ (run_bool1 _ x) ?_) | (at_builtin; go_loud (refine wpList_append_own _ rfl _ _ 151 rfl w.heap.size 4 i0 (.bool false) 1 1 Try.underlying151 hi hz0 hz1 hz2 hzc (by decide) _ k _ rfl O4 ⟨w2.heap.size + 1, 0, none⟩ 1 1 [.bool x] rfl rfl (one_cells _ x _ HS8.out) (fun u hu => by simp at hu; subst hu; rfl) (by unfold maxLen; omega) (by omega) hbase ?_)))
      intro v' w' hown hgrow _
      have O5 : Own1 w' w.heap.size v' (k + 1) (gL b xs m (k + 1)) := by
        have := hown
        unfold Own1
        rw [hgL, List.map_append]
        exact this
      have hb5 := Below.grownBy hgrow hbase (fun kk hkk => (OB kk hkk).1)
      have P5 : At w' g (plC (.slice (some ⟨G, 0, none⟩) n n) b o) T' := (hgrow.block _ P4.lt (fun e => by have := (OB _ e.symm).1; omega)).trans P4
      have A5 : At w' G (slC xs) T := (hgrow.block _ A4.lt (fun e => by have := (OB _ e.symm).1; omega)).trans A4
      have I8 : At w' w2.heap.size (bl rw8) 69 := (hgrow.block _ I7.lt (fun e => hOB _ e.symm rfl)).trans I7
      have B5 := Lib.hid (B4.out.trans hb5)
      have ce5 : w'.cell? ⟨w2.heap.size, m, none⟩ = some (.bool x) := by rw [← hx]; exact I8.cell (bl_get (by omega))
      have sc : IntKind.i64.wrap ((c : Int) + 1) = (c : Int) + 1 := IntWalk.i64_in _ (by omega)
      have HC := Lib.hid hcn
      clear I0 I6 P4 A4 O3 O4 I7 I8 B4 OB hbase hOB hown hgrow hb5 ce hx hcn hgl hGl
      cases x
      · go_wp2
        exact ⟨⟨k + 1, c, by omega, by go_num, rfl, by omega, Lib.hid (by rw [HC.out, hcc.out]; rfl), O5, P5, A5, B5⟩, by simp [intOf]; omega⟩
      · go_wp2
        exact ⟨⟨k + 1, c + 1, by omega, by go_num, rfl, by omega, Lib.hid (by rw [HC.out, hcc.out]; rfl), O5, P5, A5, B5⟩, by simp [intOf]; omega⟩
    · obtain rfl : k = N := by omega
      go_wp2
      go_ret2
      exact ⟨_, by rw [hcc.out]; rfl, O2, B2.out⟩

end Go.Proofs.Ytboahhipobcabab
