/-
  CONTRACTS: a shifted plan: the model.
-/
import Derived.Test.YtlffcpoooaoneaaShiftI
import Derived.Test.YtlffcpoooaoneaaVPlanS
import Derived.Test.YtlffcpoooaoneaaVPlan
namespace Go.Proofs.Ytlffcpoooaoneaa
open Go Go.ChangeShapes Go.WideShapes Go.ChangeAt Go.RowKit
set_option maxRecDepth 100000

set_option maxHeartbeats 1000000 in
theorem sShiftPlan_any (G : Nat) (xs : Slots) (b o : Int) (hW : SlW xs) (hn : xs.length ≤ 1048576) (T : TypeId) (k : Int) (w : World) (A0 : At w G (slC xs) T) :
    Calls Try.prog 32 #[.agg (plC (.slice (some ⟨G, 0, none⟩) xs.length xs.length) b o), .int .i64 k] w fun e w' => PR w w' (vSh xs b o k).1 (vSh xs b o k).2.1 (vSh xs b o k).2.2.1 (vSh xs b o k).2.2.2 e := by
  have P0 : At ((w.alloc (.cells (plC (.slice (some ⟨G, 0, none⟩) xs.length xs.length) b o) 58)).alloc (.cells (plC (.slice none 0 0) 0 0) 58)) w.heap.size (plC (.slice (some ⟨G, 0, none⟩) xs.length xs.length) b o) 58 := (At.new w _ _).alloc _
  have R0 : At ((w.alloc (.cells (plC (.slice (some ⟨G, 0, none⟩) xs.length xs.length) b o) 58)).alloc (.cells (plC (.slice none 0 0) 0 0) 58)) (w.heap.size + 1) (plC (.slice none 0 0) 0 0) 58 := At.last1 w _ _ _
  have A1 := (A0.alloc (.cells (plC (.slice (some ⟨G, 0, none⟩) xs.length xs.length) b o) 58)).alloc (.cells (plC (.slice none 0 0) 0 0) 58)
  have B0 := Lib.hid (bnew (b0 w (.cells (plC (.slice (some ⟨G, 0, none⟩) xs.length xs.length) b o) 58)) (.cells (plC (.slice none 0 0) 0 0) 58))
  have KO := l04Ok_any w.heap.size 58 G xs b o hW T _ P0 A1
  cases hok : okP xs b o
  · rw [hok] at KO
    have hg := shC_no (k := k) hok
    have hv := Lib.hid (vSh_no (k := k) (by rw [hg]; decide))
    rw [hg] at hv
    go_enter Try.func32, Try.ntmps32
    go_wp2_with fail
    refine KO.mono ?_
    rintro e w1 ⟨rfl, hb1⟩
    have R1 := R0.step hb1
    have B1 := Lib.hid (bthen B0.out hb1)
    clear P0 R0 A1 B0 hb1 KO A0
    have R9 := R1.setRow (plC (.slice none 0 0) 0 0)
    have B9 := Lib.hid (bset B1.out (g := w.heap.size + 1) (by omega) (plC (.slice none 0 0) 0 0))
    go_wp2_with (((with_reducible refine is_store 58 _ _ rfl ?_); refine wpList_store_at rfl 58 _ _ rfl _ rfl (plC (.slice none 0 0) 0 0) rfl (plC (.slice none 0 0) 0 0) _ (by with_reducible assumption) 3 (plC_size _ _ _) (plC_size _ _ _) (by kernel_rfl) (pl_one _ rfl _ _) ?_))
    exact bodyPost_ret (v := .tuple #[.agg (plC (.slice none 0 0) 0 0), .int .i64 1]) (results_at_tmp (p := 4) (ty := 58) rfl _ _ _ (plC (.slice none 0 0) 0 0) _ (.int .i64 1) rfl rfl R9 _ Try.underlying58 rfl 3 (plC_size _ _ _) (by kernel_rfl)) rfl ⟨⟨_, by rw [hv.out], by rw [hv.out]; exact OwnSl.nil _ _⟩, B9.out⟩
  · rw [hok] at KO
    go_enter Try.func32, Try.ntmps32
    go_wp2_with fail
    refine KO.mono ?_
    rintro e w1 ⟨rfl, hb1⟩
    have P1 := P0.step hb1
    have R1 := R0.step hb1
    have A2 := A1.step hb1
    have B1 := Lib.hid (bthen B0.out hb1)
    clear P0 R0 A1 B0 hb1 KO A0
    have KT := l00In_b k (-1000000) 1000000 w1
    cases ht : inB (-1000000) 1000000 k
    · rw [ht] at KT
      have hg := shC_bad hok ht
      have hv := Lib.hid (vSh_no (k := k) (by rw [hg]; decide))
      rw [hg] at hv
      go_wp2_with fail
      refine KT.mono ?_
      rintro e w2 ⟨rfl, n2, rfl⟩
      have R2 := R1.drewN n2
      have B2 := Lib.hid (bdrew B1.out n2)
      clear R1 B1 P1 A2 KT
      have R9 := R2.setRow (plC (.slice none 0 0) 0 0)
      have B9 := Lib.hid (bset B2.out (g := w.heap.size + 1) (by omega) (plC (.slice none 0 0) 0 0))
      go_wp2_with (((with_reducible refine is_store 58 _ _ rfl ?_); refine wpList_store_at rfl 58 _ _ rfl _ rfl (plC (.slice none 0 0) 0 0) rfl (plC (.slice none 0 0) 0 0) _ (by with_reducible assumption) 3 (plC_size _ _ _) (plC_size _ _ _) (by kernel_rfl) (pl_one _ rfl _ _) ?_))
      exact bodyPost_ret (v := .tuple #[.agg (plC (.slice none 0 0) 0 0), .int .i64 2]) (results_at_tmp (p := 4) (ty := 58) rfl _ _ _ (plC (.slice none 0 0) 0 0) _ (.int .i64 2) rfl rfl R9 _ Try.underlying58 rfl 3 (plC_size _ _ _) (by kernel_rfl)) rfl ⟨⟨_, by rw [hv.out], by rw [hv.out]; exact OwnSl.nil _ _⟩, B9.out⟩
    · rw [ht] at KT
      have hg := shC_yes hok ht
      have hv := Lib.hid (vSh_yes hg)
      have hkr : -1000000 ≤ k ∧ k ≤ 1000000 := by simpa [inB] using ht
      obtain ⟨hl, hb, htk, hc, ho⟩ := okP_parts hok
      have hcO := cOk_of hok
      have KC := fun wr hP hA => l04Cycle_any w.heap.size 58 G xs b o hW T hl.1 hl.2 wr hP hA
      have KP := fun wr (nv : Int) hP hA => l04Copy_any w.heap.size 58 G xs hW hn b o nv T wr hP hA
      have e := rem_a (n := cyc xs b) (by omega) (o + k)
      have h1 := Int.lt_tmod_of_pos (o + k) (show 0 < cyc xs b by omega)
      have h2 := Int.tmod_lt_of_pos (o + k) (show 0 < cyc xs b by omega)
      have h3 := Int.emod_nonneg (o + k) (show cyc xs b ≠ 0 by omega)
      have h4 := Int.emod_lt_of_pos (o + k) (show 0 < cyc xs b by omega)
      have HC := Lib.hid hcO
      have h0 : ¬ cyc xs b = 0 := by omega
      clear hcO hg hok
      generalize hcy : cyc xs b = n at KC e h0 h1 h2 h3 h4 hv hc ho
      generalize hr : (o + k).tmod n = r at e h1 h2
      have s0 : IntKind.i64.wrap (o + k) = o + k := IntWalk.i64_in _ (by omega)
      have s1 : IntKind.i64.wrap r = r := IntWalk.i64_in _ (by omega)
      have s2 : IntKind.i64.wrap (r + n) = r + n := IntWalk.i64_in _ (by omega)
      have s3 : IntKind.i64.wrap ((r + n).tmod n) = (r + n).tmod n := by rw [e]; exact IntWalk.i64_in _ (by omega)
      rw [← e] at hv
      clear e h1 h2 h3 h4 hc ho hl hb htk hkr ht
      go_wp2_with fail
      refine KT.mono ?_
      rintro e w2 ⟨rfl, n2, rfl⟩
      have P2 := P1.drewN n2
      have R2 := R1.drewN n2
      have A3 := A2.drewN n2
      have B2 := Lib.hid (bdrew B1.out n2)
      have KC1 := KC _ P2 A3
      clear P1 R1 A2 B1 KT KC
      go_wp2_with fail
      refine KC1.mono ?_
      rintro e w3 ⟨s, rfl, ⟨hs, -, -, -⟩, hb3⟩
      obtain rfl : s = n := by rw [← hcy]; exact hs HC.out
      have P3 := P2.step hb3
      have R3 := R2.step hb3
      have A4 := A3.step hb3
      have B3 := Lib.hid (bthen B2.out hb3)
      have c2 : w3.cell? ⟨w.heap.size, 2, none⟩ = some (.int .i64 o) := P3.cell (plC_2 _ _ _)
      clear R2 B2 KC1 hs hb3 P2 A3 HC hcy
      go_wp2_with fail
      generalize (r + s).tmod s = nv at *
      refine (KP w3 nv P3 A4).mono ?_
      rintro e w4 ⟨⟨v, rfl, O4⟩, hb4⟩
      have R4 := R3.step hb4
      have hR4 := R3.lt
      have B4 := Lib.hid (bthen B3.out hb4)
      clear P3 R3 A4 B3 hb4 KP c2
      obtain ⟨va, vc, rfl⟩ := O4.any
      have R9 := R4.setRow (plC (.slice va xs.length vc) b nv)
      have B9 := Lib.hid (bset B4.out (g := w.heap.size + 1) (by omega) (plC (.slice va xs.length vc) b nv))
      have O9 := (O4.setRow_other (g := w.heap.size + 1) (fun q hq => by have := (O4.block q hq).1; omega) (plC (.slice va xs.length vc) b nv)).low (lo' := w.heap.size) (by omega)
      clear O4 B4
      go_wp2_with (((with_reducible refine is_store 58 _ _ rfl ?_); refine wpList_store_at rfl 58 _ _ rfl _ rfl (plC (.slice va xs.length vc) b nv) rfl (plC (.slice none 0 0) 0 0) _ (by with_reducible assumption) 3 (plC_size _ _ _) (plC_size _ _ _) (by kernel_rfl) (pl_one _ (sl_one _ _ _) _ _) ?_))
      exact bodyPost_ret (v := .tuple #[.agg (plC (.slice va xs.length vc) b nv), .int .i64 0]) (results_at_tmp (p := 4) (ty := 58) rfl _ _ _ (plC (.slice va xs.length vc) b nv) _ (.int .i64 0) rfl rfl R9 _ Try.underlying58 rfl 3 (plC_size _ _ _) (by kernel_rfl)) rfl ⟨⟨_, by rw [hv.out], by rw [hv.out]; exact O9⟩, B9.out⟩

end Go.Proofs.Ytlffcpoooaoneaa
