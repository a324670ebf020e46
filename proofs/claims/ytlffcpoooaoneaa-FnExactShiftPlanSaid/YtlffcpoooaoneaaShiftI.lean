/-
  CONTRACTS: a shifted plan: the program.
-/
import Derived.Test.YtlffcpoooaoneaaShifted
import Derived.Test.YtlffcpoooaoneaaNeedP
import Derived.Test.YtlffcpoooaoneaaRefuseP
import Derived.Test.YtlffcpoooaoneaaIn
namespace Go.Proofs.Ytlffcpoooaoneaa
open Go Go.ChangeShapes Go.WideShapes Go.ChangeAt Go.RowKit
set_option maxRecDepth 100000

/-- the code of a plan and a shift -/
def shC (xs : Slots) (b o k : Int) : Int := if okP xs b o then (if inB (-1000000) 1000000 k then 0 else 2) else 1
theorem shC_no {xs : Slots} {b o k : Int} (h : okP xs b o = false) : shC xs b o k = 1 := by unfold shC; rw [h]; rfl
theorem shC_bad {xs : Slots} {b o k : Int} (h : okP xs b o = true) (hk : inB (-1000000) 1000000 k = false) : shC xs b o k = 2 := by unfold shC; rw [h, hk]; rfl
theorem shC_yes {xs : Slots} {b o k : Int} (h : okP xs b o = true) (hk : inB (-1000000) 1000000 k = true) : shC xs b o k = 0 := by unfold shC; rw [h, hk]; rfl
/-- a shifted plan, and a code -/
def vSh (xs : Slots) (b o k : Int) : Slots × Int × Int × Int := if shC xs b o k = 0 then (xs, b, (o + k) % cyc xs b, 0) else ([], 0, 0, shC xs b o k)
theorem vSh_yes {xs : Slots} {b o k : Int} (h : shC xs b o k = 0) : vSh xs b o k = (xs, b, (o + k) % cyc xs b, 0) := by unfold vSh; rw [if_pos h]
theorem vSh_no {xs : Slots} {b o k : Int} (h : shC xs b o k ≠ 0) : vSh xs b o k = ([], 0, 0, shC xs b o k) := by unfold vSh; rw [if_neg h]
theorem vSh_w {xs : Slots} (hW : SlW xs) (b o k : Int) : SlW (vSh xs b o k).1 ∧ (vSh xs b o k).1.length ≤ xs.length := by
  unfold vSh
  split
  · exact ⟨hW, Nat.le_refl _⟩
  · exact ⟨fun s hs => by simp at hs, by simp⟩
theorem shP_zero {xs : Slots} {b o : Int} (h : okC xs b o = 0) : okP xs b o = true := by
  cases hk : okP xs b o
  · rw [okC_no hk] at h; cases h
  · rfl
theorem shP_not {xs : Slots} {b o : Int} (h : okC xs b o ≠ 0) : okP xs b o = false := by
  cases hk : okP xs b o
  · rfl
  · rw [okC_yes hk] at h; exact absurd rfl h

theorem ShiftPlan1_any (g1 g2 : Nat) (T1 T2 : TypeId) (G : Nat) (xs : Slots) (b o : Int) (hW : SlW xs) (T : TypeId) (k : Int) (w : World) (P0 : At w g1 (plC (.slice (some ⟨G, 0, none⟩) xs.length xs.length) b o) T1) (K0 : At w g2 #[.int .i64 k] T2) (A0 : At w G (slC xs) T) :
    Calls Try.prog 102 #[.pointer (some ⟨g1, 0, none⟩), .pointer (some ⟨g2, 0, none⟩)] w fun e w' => Chk (shC xs b o k) e ∧ Below w.heap.size w w' := by
  have KN := needPlan_any G xs b o hW T w A0
  go_enter Try.func102, Try.ntmps102
  go_wp2_with (((with_reducible refine is_load 58 _ rfl ?_); refine wpList_load_at rfl 58 _ rfl _ rfl ((plC (.slice (some ⟨G, 0, none⟩) xs.length xs.length) b o)) _ (by with_reducible assumption) 3 (plC_size _ _ _) _ Try.underlying58 rfl (by kernel_rfl) ?_))
  refine KN.mono ?_
  rintro e w1 ⟨⟨h, rfl⟩ | ⟨h, x, hx, rfl⟩, hb1⟩
  · have hok := shP_zero h
    have K1 := K0.step hb1
    have kc : w1.cell? ⟨g2, 0, none⟩ = some (.int .i64 k) := K1.cell rfl
    have B1 := Lib.hid hb1
    clear P0 K0 A0 KN hb1 K1
    by_cases h1 : -1000000 ≤ k
    · by_cases h2 : k ≤ 1000000
      · have hg := Lib.hid (shC_yes hok (k := k) (decide_eq_true ⟨h1, h2⟩))
        go_wp2_with fail
        refine (need_ok 2 _).mono ?_
        rintro e w3 ⟨rfl, rfl⟩
        go_wp2_with fail
        go_end0
        exact ⟨.inl ⟨hg.out, rfl⟩, B1.out⟩
      · have hg := Lib.hid (shC_bad hok (k := k) (decide_eq_false (by omega)))
        have d2 : decide (k ≤ 1000000) = false := decide_eq_false h2
        go_wp2_with fail
        refine (need_bad 2 _).mono ?_
        rintro e w3 ⟨rfl, rfl⟩
        go_wp2_with fail
        exact ⟨rfl, .inr ⟨by rw [hg.out]; decide, _, .inl (by rw [hg.out]), rfl⟩, B1.out⟩
    · have hg := Lib.hid (shC_bad hok (k := k) (decide_eq_false (by omega)))
      go_wp2_with fail
      refine (need_bad 2 _).mono ?_
      rintro e w3 ⟨rfl, rfl⟩
      go_wp2_with fail
      exact ⟨rfl, .inr ⟨by rw [hg.out]; decide, _, .inl (by rw [hg.out]), rfl⟩, B1.out⟩
  · have hno := shP_not h
    rw [okC_no hno] at hx h
    have hg := shC_no (k := k) hno
    go_wp2_with fail
    exact ⟨rfl, .inr ⟨by rw [hg]; decide, x, by rw [hg]; exact hx, rfl⟩, hb1⟩

set_option maxHeartbeats 1000000 in
theorem ShiftPlan_any (G : Nat) (xs : Slots) (b o : Int) (hW : SlW xs) (hn : xs.length ≤ 1048576) (T : TypeId) (k : Int) (w : World) (A0 : At w G (slC xs) T) :
    Calls Try.prog 34 #[.agg (plC (.slice (some ⟨G, 0, none⟩) xs.length xs.length) b o), .int .i64 k] w fun e w' => PR w w' (vSh xs b o k).1 (vSh xs b o k).2.1 (vSh xs b o k).2.2.1 (vSh xs b o k).2.2.2 e := by
  have hmf : ∀ (fn : Fn) (first cap : Array Value) (w : World), (Instr.makeFunc fn first cap).run Try.prog w = .ok (.func fn first cap) w := fun _ _ _ _ => rfl
  have P0 : At (((w.alloc (.cells (plC (.slice (some ⟨G, 0, none⟩) xs.length xs.length) b o) 58)).alloc (.cells #[.int .i64 k] 2)).alloc (.cells #[.slice none 0 0, .int .i64 0, .int .i64 0] 58)) w.heap.size (plC (.slice (some ⟨G, 0, none⟩) xs.length xs.length) b o) 58 := ((At.new w _ _).alloc _).alloc _
  have K0 : At (((w.alloc (.cells (plC (.slice (some ⟨G, 0, none⟩) xs.length xs.length) b o) 58)).alloc (.cells #[.int .i64 k] 2)).alloc (.cells #[.slice none 0 0, .int .i64 0, .int .i64 0] 58)) (w.heap.size + 1) #[.int .i64 k] 2 := (At.last1 w _ _ _).alloc _
  have R0 : At (((w.alloc (.cells (plC (.slice (some ⟨G, 0, none⟩) xs.length xs.length) b o) 58)).alloc (.cells #[.int .i64 k] 2)).alloc (.cells #[.slice none 0 0, .int .i64 0, .int .i64 0] 58)) (w.heap.size + 1 + 1) (plC (.slice none 0 0) 0 0) 58 := by
    have := At.new ((w.alloc (.cells (plC (.slice (some ⟨G, 0, none⟩) xs.length xs.length) b o) 58)).alloc (.cells #[.int .i64 k] 2)) (plC (.slice none 0 0) 0 0) 58
    rwa [World.size_alloc, World.size_alloc] at this
  have A1 := ((A0.alloc (.cells (plC (.slice (some ⟨G, 0, none⟩) xs.length xs.length) b o) 58)).alloc (.cells #[.int .i64 k] 2)).alloc (.cells (plC (.slice none 0 0) 0 0) 58)
  have B0 := Lib.hid (bnew (bnew (b0 w (.cells (plC (.slice (some ⟨G, 0, none⟩) xs.length xs.length) b o) 58)) (.cells #[.int .i64 k] 2)) (.cells (plC (.slice none 0 0) 0 0) 58))
  have KR := refusalOf_any 102 #[.pointer (some ⟨w.heap.size, 0, none⟩), .pointer (some ⟨w.heap.size + 1, 0, none⟩)] (shC xs b o k) (((w.alloc (.cells (plC (.slice (some ⟨G, 0, none⟩) xs.length xs.length) b o) 58)).alloc (.cells #[.int .i64 k] 2)).alloc (.cells #[.slice none 0 0, .int .i64 0, .int .i64 0] 58)) (fun _ => by kernel_rfl) (fun w1 hb => ShiftPlan1_any w.heap.size (w.heap.size + 1) 58 2 G xs b o hW T k w1 (P0.step hb) (K0.step hb) (A1.step hb))
  have hG := A0.lt
  by_cases hg : shC xs b o k = 0
  · have hv := Lib.hid (vSh_yes hg)
    rw [hg] at KR
    have hok : okP xs b o = true := by
      cases hk : okP xs b o
      · rw [shC_no hk] at hg; cases hg
      · rfl
    have hkr : -1000000 ≤ k ∧ k ≤ 1000000 := by
      cases hk : inB (-1000000) 1000000 k
      · rw [shC_bad hok hk] at hg; cases hg
      · simpa [inB] using hk
    have KG := fun wr hA => shifted_any G xs b o hW hn T hok k hkr wr hA
    clear hg hok hkr A0
    generalize ((o + k) % cyc xs b) = nv at KG hv
    go_enter Try.func34, Try.ntmps34
    go_wp2_with fail
    refine KR.mono ?_
    rintro e w1 ⟨rfl, hb1⟩
    have P1 := P0.step hb1
    have K1 := K0.step hb1
    have R1 := R0.step hb1
    have A2 := A1.step hb1
    have B1 := Lib.hid (bthen B0.out hb1)
    have KG1 := KG w1 A2
    clear P0 K0 R0 A1 B0 hb1 KR KG
    go_wp2_with (first | ((with_reducible refine is_load 58 _ rfl ?_); refine wpList_load_at rfl 58 _ rfl _ rfl ((plC (.slice (some ⟨G, 0, none⟩) xs.length xs.length) b o)) _ (by with_reducible assumption) 3 (plC_size _ _ _) _ Try.underlying58 rfl (by kernel_rfl) ?_) | ((with_reducible refine is_load 2 _ rfl ?_); refine wpList_load_cell rfl 2 _ rfl _ 0 rfl (#[.int .i64 k]) _ (by with_reducible assumption) _ Try.underlying2 rfl (.int .i64 k) (rfl) ?_))
    refine KG1.mono ?_
    rintro e w2 ⟨⟨v, rfl, O2⟩, hb2⟩
    have R2 := R1.step hb2
    have hR2 := R1.lt
    have B2 := Lib.hid (bthen B1.out hb2)
    clear P1 K1 R1 A2 B1 hb2 KG1
    obtain ⟨va, vc, rfl⟩ := O2.any
    have R9 := R2.setRow (plC (.slice va xs.length vc) b nv)
    have B9 := Lib.hid (bset B2.out (g := w.heap.size + 1 + 1) (by omega) (plC (.slice va xs.length vc) b nv))
    have O9 := (O2.setRow_other (g := w.heap.size + 1 + 1) (fun q hq => by have := (O2.block q hq).1; omega) (plC (.slice va xs.length vc) b nv)).low (lo' := w.heap.size) (by omega)
    clear O2 B2
    go_wp2_with (((with_reducible refine is_store 58 _ _ rfl ?_); refine wpList_store_at rfl 58 _ _ rfl _ rfl (plC (.slice va xs.length vc) b nv) rfl (plC (.slice none 0 0) 0 0) _ (by with_reducible assumption) 3 (plC_size _ _ _) (plC_size _ _ _) (by kernel_rfl) (pl_one _ (sl_one _ _ _) _ _) ?_))
    exact bodyPost_ret (v := .tuple #[.agg (plC (.slice va xs.length vc) b nv), .int .i64 0]) (results_at_tmp (p := 4) (ty := 58) rfl _ _ _ (plC (.slice va xs.length vc) b nv) _ (.int .i64 0) rfl rfl R9 _ Try.underlying58 rfl 3 (plC_size _ _ _) (by kernel_rfl)) rfl ⟨⟨_, by rw [hv.out], by rw [hv.out]; exact O9⟩, B9.out⟩
  · have hv := Lib.hid (vSh_no hg)
    generalize hgg : shC xs b o k = cc at KR hg hv
    have hne : (cc != 0) = true := by simpa using hg
    clear hgg hg
    go_enter Try.func34, Try.ntmps34
    go_wp2_with fail
    refine KR.mono ?_
    rintro e w1 ⟨rfl, hb1⟩
    have R1 := R0.step hb1
    have B1 := Lib.hid (bthen B0.out hb1)
    clear P0 K0 R0 A1 B0 hb1 KR A0
    have R9 := R1.setRow (plC (.slice none 0 0) 0 0)
    have B9 := Lib.hid (bset B1.out (g := w.heap.size + 1 + 1) (by omega) (plC (.slice none 0 0) 0 0))
    go_wp2_with (((with_reducible refine is_store 58 _ _ rfl ?_); refine wpList_store_at rfl 58 _ _ rfl _ rfl (plC (.slice none 0 0) 0 0) rfl (plC (.slice none 0 0) 0 0) _ (by with_reducible assumption) 3 (plC_size _ _ _) (plC_size _ _ _) (by kernel_rfl) (pl_one _ rfl _ _) ?_))
    exact bodyPost_ret (v := .tuple #[.agg (plC (.slice none 0 0) 0 0), .int .i64 cc]) (results_at_tmp (p := 4) (ty := 58) rfl _ _ _ (plC (.slice none 0 0) 0 0) _ (.int .i64 cc) rfl rfl R9 _ Try.underlying58 rfl 3 (plC_size _ _ _) (by kernel_rfl)) rfl ⟨⟨_, by rw [hv.out], by rw [hv.out]; exact OwnSl.nil _ _⟩, B9.out⟩

end Go.Proofs.Ytlffcpoooaoneaa
