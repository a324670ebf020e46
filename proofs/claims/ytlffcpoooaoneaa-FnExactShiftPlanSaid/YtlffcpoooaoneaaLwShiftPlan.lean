/-
  FnExactShiftPlan: the program's ShiftPlan answers as its model, and owns its answer, at every plan and whole number. No condition.
-/
import Derived.Test.YtlffcpoooaoneaaShiftS
import Derived.Test.YtlffcpoooaoneaaEqSl
import Derived.Test.YtlffcpoooaoneaaMarkPl
import Derived.Test.YtlffcpoooaoneaaShPlan
import Derived.Test.YtlffcpoooaoneaaLawS
import Derived.Test.YtlffcpoooaoneaaHeldOps
import Derived.Test.YtlffcpoooaoneaaLeave
namespace Go.Proofs.Ytlffcpoooaoneaa.lawFnExactShiftPlan
open Go Go.ChangeShapes Go.WideShapes Go.ChangeAt Go.RowKit

set_option maxRecDepth 100000
set_option maxHeartbeats 4000000 in
theorem walk (w : World) (a : Option Addr) (cap : Nat) (xs : Slots) (b o : Int) (hF : SSl w (.slice a xs.length cap) xs) (_hb : I64 b) (_ho : I64 o) (k : Int) (_hk : I64 k) :
    Calls Try.prog 7 #[.agg (plC (.slice a xs.length cap) b o), .int .i64 k] w (True? w) := by
  have A := At.new w (plC (.slice a xs.length cap) b o) 54
  have B := Lib.hid (b0 w (.cells (plC (.slice a xs.length cap) b o) 54))
  have hW := hF.wf
  have hlen : xs.length ≤ 9223372036854775807 := Nat.le_trans hF.len (by decide)
  have K := szPlan_any a xs.length cap b o 1048576 (by omega) hF.len
  by_cases hn : xs.length ≤ 1048576
  · rw [if_neg (by omega)] at K
    have hnn : ¬ (1048576 - ((xs.length : Nat) : Int) < 0) := by omega
    have KS := fun G w h => sShiftPlan_any G xs b o hW hn 161 k w h
    have KI := fun G w h => ShiftPlan_any G xs b o hW hn 161 k w h
    obtain ⟨hyw, hyl⟩ := vSh_w hW b o k
    generalize vSh xs b o k = q at KS KI hyw hyl
    obtain ⟨zs, zb, zo, cd⟩ := q
    simp only at KS KI hyw hyl
    have hyl : zs.length ≤ 1048576 := by omega
    have hym : zs.length ≤ maxLen := by unfold maxLen; omega
    have HY := Lib.hid hyw
    clear hyw
    go_enter Try.func7, Try.ntmps7
    go_wp2_with (((with_reducible refine is_load 54 _ rfl ?_); refine wpList_load_at rfl 54 _ rfl _ rfl ((plC (.slice a xs.length cap) b o)) _ (by with_reducible assumption) 3 (plC_size _ _ _) _ Try.underlying54 rfl (by kernel_rfl) ?_))
    refine (K _).mono ?_
    rintro e w1 ⟨rfl, hb1⟩
    replace A := A.step hb1
    replace B := Lib.hid (bthen B.out hb1)
    clear hb1 K
    go_wp2_with (((with_reducible refine is_load 54 _ rfl ?_); refine wpList_load_at rfl 54 _ rfl _ rfl ((plC (.slice a xs.length cap) b o)) _ (by with_reducible assumption) 3 (plC_size _ _ _) _ Try.underlying54 rfl (by kernel_rfl) ?_))
    refine (toPlan_any a cap xs b o w1 (hF.step (Nat.le_refl _) B.out) hn).mono ?_
    rintro e w2 ⟨G2, rfl, hG2, -, hb2⟩
    replace A := A.step hb2
    replace B := Lib.hid (bthen B.out hb2)
    have q2 := Lib.hid (show w.heap.size < w2.heap.size from A.lt)
    clear hb2
    go_wp2_with fail
    refine (KS G2 w2 hG2).mono ?_
    rintro e w3 ⟨⟨v1, rfl, O1⟩, hb3⟩
    replace A := A.step hb3
    replace B := Lib.hid (bthen B.out hb3)
    have U1 := Lib.hid O1.block
    have q3 := Lib.hid (show w2.heap.size ≤ w3.heap.size from hb3.size)
    clear hb3 hG2 KS
    obtain ⟨va1, vc1, rfl⟩ := O1.any
    have N0 := At.new w3 #[.slice none 0 0, .int .i64 0, .int .i64 0] 58
    have S := N0.setRow (plC (.slice va1 zs.length vc1) zb zo)
    have BN : Below w3.heap.size w3 ((w3.alloc (.cells #[.slice none 0 0, .int .i64 0, .int .i64 0] 58)).setRow w3.heap.size (plC (.slice va1 zs.length vc1) zb zo)) := bset (b0 _ _) (Nat.le_refl _) _
    replace A := A.step BN
    replace O1 := O1.step BN
    replace B := Lib.hid (bthen B.out BN)
    clear BN
    go_wp2_with (first | ((with_reducible refine is_store 58 _ _ rfl ?_); refine wpList_store_at rfl 58 _ _ rfl _ rfl ((plC (.slice va1 zs.length vc1) zb zo)) rfl (#[.slice none 0 0, .int .i64 0, .int .i64 0]) _ (by with_reducible assumption) 3 (plC_size _ _ _) (rfl) (by kernel_rfl) (pl_one _ (sl_one _ _ _) _ _) ?_) | ((with_reducible refine is_load 54 _ rfl ?_); refine wpList_load_at rfl 54 _ rfl _ rfl ((plC (.slice a xs.length cap) b o)) _ (by with_reducible assumption) 3 (plC_size _ _ _) _ Try.underlying54 rfl (by kernel_rfl) ?_))
    clear N0
    generalize World.setRow _ _ _ = ws at A B O1 S ⊢
    have ls := S.lt
    refine (toPlan_any a cap xs b o ws (hF.step (Nat.le_refl _) B.out) hn).mono ?_
    rintro e w4 ⟨G4, rfl, H, hge4, hb4⟩
    replace A := A.step hb4
    replace S := S.step hb4
    replace O1 := O1.step hb4
    replace B := Lib.hid (bthen B.out hb4)
    have q4 := Lib.hid (show w3.heap.size < G4 ∧ G4 < w4.heap.size from ⟨by omega, H.lt⟩)
    clear hb4 hge4 ls
    have N0 := At.new w4 #[.slice none 0 0, .int .i64 0, .int .i64 0] 58
    have X := N0.setRow (plC (.slice (some ⟨G4, 0, none⟩) xs.length xs.length) b o)
    have BN : Below w4.heap.size w4 ((w4.alloc (.cells #[.slice none 0 0, .int .i64 0, .int .i64 0] 58)).setRow w4.heap.size (plC (.slice (some ⟨G4, 0, none⟩) xs.length xs.length) b o)) := bset (b0 _ _) (Nat.le_refl _) _
    replace A := A.step BN
    replace S := S.step BN
    replace O1 := O1.step BN
    replace H := H.step BN
    replace B := Lib.hid (bthen B.out BN)
    clear BN
    go_wp2_with (first | ((with_reducible refine is_store 58 _ _ rfl ?_); refine wpList_store_at rfl 58 _ _ rfl _ rfl ((plC (.slice (some ⟨G4, 0, none⟩) xs.length xs.length) b o)) rfl (#[.slice none 0 0, .int .i64 0, .int .i64 0]) _ (by with_reducible assumption) 3 (plC_size _ _ _) (rfl) (by kernel_rfl) (pl_one _ (sl_one _ _ _) _ _) ?_) | ((with_reducible refine is_load 58 _ rfl ?_); refine wpList_load_at rfl 58 _ rfl _ rfl ((plC (.slice (some ⟨G4, 0, none⟩) xs.length xs.length) b o)) _ (by with_reducible assumption) 3 (plC_size _ _ _) _ Try.underlying58 rfl (by kernel_rfl) ?_))
    clear N0
    generalize World.setRow _ _ _ = wx at A B O1 S H X ⊢
    have q5 := Lib.hid (show w4.heap.size < wx.heap.size from X.lt)
    refine (KI G4 wx H).mono ?_
    rintro e w6 ⟨⟨v2, rfl, O2⟩, hb6⟩
    replace A := A.step hb6
    replace S := S.step hb6
    replace O1 := O1.step hb6
    replace H := H.step hb6
    replace X := X.step hb6
    replace B := Lib.hid (bthen B.out hb6)
    have q6 := Lib.hid (show wx.heap.size ≤ w6.heap.size from hb6.size)
    clear hb6
    obtain ⟨va2, vc2, rfl⟩ := O2.any
    have U2 := Lib.hid O2.block
    have N0 := At.new w6 #[.slice none 0 0, .int .i64 0, .int .i64 0] 58
    have Gp := N0.setRow (plC (.slice va2 zs.length vc2) zb zo)
    have BN : Below w6.heap.size w6 ((w6.alloc (.cells #[.slice none 0 0, .int .i64 0, .int .i64 0] 58)).setRow w6.heap.size (plC (.slice va2 zs.length vc2) zb zo)) := bset (b0 _ _) (Nat.le_refl _) _
    replace A := A.step BN
    replace S := S.step BN
    replace O1 := O1.step BN
    replace O2 := O2.step BN
    replace H := H.step BN
    replace X := X.step BN
    replace B := Lib.hid (bthen B.out BN)
    clear BN
    go_wp2_with (first | ((with_reducible refine is_store 58 _ _ rfl ?_); refine wpList_store_at rfl 58 _ _ rfl _ rfl ((plC (.slice va2 zs.length vc2) zb zo)) rfl (#[.slice none 0 0, .int .i64 0, .int .i64 0]) _ (by with_reducible assumption) 3 (plC_size _ _ _) (rfl) (by kernel_rfl) (pl_one _ (sl_one _ _ _) _ _) ?_) | ((with_reducible refine is_load 58 _ rfl ?_); refine wpList_load_at rfl 58 _ rfl _ rfl ((plC (.slice va1 zs.length vc1) zb zo)) _ (by with_reducible assumption) 3 (plC_size _ _ _) _ Try.underlying58 rfl (by kernel_rfl) ?_) | ((with_reducible refine is_load 58 _ rfl ?_); refine wpList_load_at rfl 58 _ rfl _ rfl ((plC (.slice va2 zs.length vc2) zb zo)) _ (by with_reducible assumption) 3 (plC_size _ _ _) _ Try.underlying58 rfl (by kernel_rfl) ?_))
    clear N0
    generalize World.setRow _ _ _ = wg at A B O1 O2 S H X Gp ⊢
    refine (eqPlan_st va2 va1 vc2 vc1 zs zb zo hyl wg (O2.st HY.out hym) (O1.st HY.out hym)).mono ?_
    rintro e w7 ⟨rfl, hb7⟩
    replace A := A.step hb7
    replace S := S.step hb7
    replace O1 := O1.step hb7
    replace O2 := O2.step hb7
    replace H := H.step hb7
    replace X := X.step hb7
    replace Gp := Gp.step hb7
    replace B := Lib.hid (bthen B.out hb7)
    clear hb7
    go_wp2
    refine wp_region_held (S := fun w' => Below w7.heap.size w7 w') (by kernel_rfl) ?_
    show wpAnyH _ _ _ _ _ 5 (Array.replicate 5 false) _ _
    have S0 : Below w7.heap.size w7 { w7 with drawn := w7.drawn + 1 } := bdrew (Below.refl _ w7) 1
    generalize ({ w7 with drawn := w7.drawn + 1 } : World) = w8 at S0 ⊢
    have F8 := (hF.step (Nat.le_refl _) B.out).step (Nat.le_refl _) S0
    refine wpAnyH_take (i := 0) (v := .agg (plC (.slice (some ⟨G4, 0, none⟩) xs.length xs.length) b o)) rfl (by kernel_rfl) (by kernel_rfl) (by kernel_rfl) (fun _ _ _ h => h) (yif rfl fun w' hw' => x_load 58 (.tmp 8) rfl ⟨w4.heap.size, 0, none⟩ (by kernel_rfl) (run_plan 58 _ (X.step hw') Try.underlying58 (by kernel_rfl))) (by assumption) ?_
    refine wpAnyH_take (i := 1) (v := .agg (plC (.slice a xs.length cap) b o)) rfl (by kernel_rfl) (by kernel_rfl) (by kernel_rfl) (fun _ _ _ h => h) (yif rfl fun w' hw' => x_load 54 (.tmp 2) rfl ⟨w.heap.size, 0, none⟩ (by kernel_rfl) (run_plan 54 _ (A.step hw') Try.underlying54 (by kernel_rfl))) (by assumption) ?_
    refine wpAnyH_all (rs := [2]) (by kernel_rfl) (by simp) fun i' hi'' => ?_
    obtain rfl := one_of hi''
    refine op_call (f := 33) (args := #[.agg (plC (.slice a xs.length cap) b o)]) rfl rfl (by kernel_rfl) ((toPlan_any a cap xs b o w8 F8 hn).mono ?_)
    rintro e w9 ⟨G8, rfl, hG8, -, hb8⟩
    have S1 := bthen S0 hb8
    refine ⟨_, rfl, S1, ?_⟩
    refine wpAnyH_all (rs := [3]) (by kernel_rfl) (by simp) fun i' hi'' => ?_
    obtain rfl := one_of hi''
    refine op_call (f := 35) (args := #[.agg (plC (.slice (some ⟨G4, 0, none⟩) xs.length xs.length) b o), .agg (plC (.slice (some ⟨G8, 0, none⟩) xs.length xs.length) b o)]) rfl rfl (by kernel_rfl) ((eqPlan_same G4 G8 xs b o hW hn _ _ w9 (H.step S1) hG8).mono ?_)
    rintro e w10 ⟨rfl, hb9⟩
    have S2 := bthen S1 hb9
    refine ⟨_, rfl, S2, ?_⟩
    refine wpAnyH_take (i := 4) (v := .bool false) rfl (by kernel_rfl) (by kernel_rfl) (by kernel_rfl) (fun _ _ _ h => h) (yif rfl fun w' hw' => by kernel_rfl) (by assumption) ?_
    refine wpAnyH_done (by kernel_rfl) ?_ _
    replace A := A.step S2
    replace S := S.step S2
    replace O1 := O1.step S2
    replace O2 := O2.step S2
    replace H := H.step S2
    replace X := X.step S2
    replace Gp := Gp.step S2
    replace B := Lib.hid (bthen B.out S2)
    clear hG8 S0 S1 S2 hb8 hb9 F8
    go_simp
    go_wp2_with (((with_reducible refine is_load 58 _ rfl ?_); refine wpList_load_at rfl 58 _ rfl _ rfl ((plC (.slice (some ⟨G4, 0, none⟩) xs.length xs.length) b o)) _ (by with_reducible assumption) 3 (plC_size _ _ _) _ Try.underlying58 rfl (by kernel_rfl) ?_))
    refine (markPlan_of (some ⟨G4, 0, none⟩) xs.length xs.length b o _ _ w10 (markSl_any G4 xs.length xs.length (slC xs) 161 hn (Nat.le_of_eq (slC_size hW).symm) _ (H.alloc (.cells (plC (.slice (some ⟨G4, 0, none⟩) xs.length xs.length) b o) 58)))).mono ?_
    rintro e w11 ⟨rfl, rfl⟩
    have r2 := q2.out; have r3 := q3.out; have r4 := q4.out; have r5 := q5.out; have r6 := q6.out
    replace O1 := (O1.alloc (.cells (plC (.slice (some ⟨G4, 0, none⟩) xs.length xs.length) b o) 58)).setRow_other (g := G4) (fun q hq => by have := (U1.out q hq).2; omega) (msR (slC xs) (xs.length * 9))
    replace O2 := (O2.alloc (.cells (plC (.slice (some ⟨G4, 0, none⟩) xs.length xs.length) b o) 58)).setRow_other (g := G4) (fun q hq => by have := (U2.out q hq).1; omega) (msR (slC xs) (xs.length * 9))
    replace A := (A.alloc (.cells (plC (.slice (some ⟨G4, 0, none⟩) xs.length xs.length) b o) 58)).setRow_other (k := G4) (by omega) (msR (slC xs) (xs.length * 9))
    replace S := (S.alloc (.cells (plC (.slice (some ⟨G4, 0, none⟩) xs.length xs.length) b o) 58)).setRow_other (k := G4) (by omega) (msR (slC xs) (xs.length * 9))
    replace Gp := (Gp.alloc (.cells (plC (.slice (some ⟨G4, 0, none⟩) xs.length xs.length) b o) 58)).setRow_other (k := G4) (by omega) (msR (slC xs) (xs.length * 9))
    replace B := Lib.hid (bset (bnew B.out (.cells (plC (.slice (some ⟨G4, 0, none⟩) xs.length xs.length) b o) 58)) (g := G4) (by omega) (msR (slC xs) (xs.length * 9)))
    clear H X r2 r3 r4 r5 r6
    have hk0 : ¬ ((xs.length : Int) * 9 + 1 < 0) := by omega
    generalize (xs.length : Int) * 9 + 1 = k0 at hk0 ⊢
    generalize World.setRow _ _ _ = w11 at A S Gp O1 O2 B ⊢
    have ca := Gp.cell (k := 0) (plC_0 _ _ _)
    have cb := Gp.cell (k := 1) (plC_1 _ _ _)
    have cc := Gp.cell (k := 2) (plC_2 _ _ _)
    have cd' := S.cell (k := 0) (plC_0 _ _ _)
    have ce := S.cell (k := 1) (plC_1 _ _ _)
    have cf := S.cell (k := 2) (plC_2 _ _ _)
    go_wp2_with fail
    refine (eqPlan_st va2 va1 vc2 vc1 zs zb zo hyl w11 (O2.st HY.out hym) (O1.st HY.out hym)).mono ?_
    rintro e w12 ⟨rfl, hb12⟩
    replace A := A.step hb12
    replace S := S.step hb12
    replace O1 := O1.step hb12
    replace O2 := O2.step hb12
    replace Gp := Gp.step hb12
    replace B := Lib.hid (bthen B.out hb12)
    clear hb12 ca cb cc cd' ce cf
    go_wp2_with (((with_reducible refine is_load 58 _ rfl ?_); refine wpList_load_at rfl 58 _ rfl _ rfl ((plC (.slice va2 zs.length vc2) zb zo)) _ (by with_reducible assumption) 3 (plC_size _ _ _) _ Try.underlying58 rfl (by kernel_rfl) ?_))
    obtain ⟨M, hM0, KM⟩ := (O2.alloc (.cells (plC (.slice va2 zs.length vc2) zb zo) 58)).marks hyl
    have hM0' : ¬ M < 0 := by omega
    refine (markPlan_of va2 zs.length vc2 zb zo M _ w12 KM).mono ?_
    rintro e w13 ⟨rfl, hb13, hsz, hoth, KH⟩
    have r2 := q2.out; have r3 := q3.out; have r4 := q4.out; have r5 := q5.out; have r6 := q6.out
    replace A : At w13 w.heap.size (plC (.slice a xs.length cap) b o) 54 := (hoth _ (fun e2 => by have := (U2.out _ e2).1; omega)).trans (A.alloc (.cells (plC (.slice va2 zs.length vc2) zb zo) 58))
    replace S : At w13 w3.heap.size (plC (.slice va1 zs.length vc1) zb zo) 58 := (hoth _ (fun e2 => by have := (U2.out _ e2).1; omega)).trans (S.alloc (.cells (plC (.slice va2 zs.length vc2) zb zo) 58))
    replace Gp : At w13 w6.heap.size (plC (.slice va2 zs.length vc2) zb zo) 58 := (hoth _ (fun e2 => by have := (U2.out _ e2).2; omega)).trans (Gp.alloc (.cells (plC (.slice va2 zs.length vc2) zb zo) 58))
    replace O1 : OwnSl w13 w2.heap.size (.slice va1 zs.length vc1) zs := by
      have O1' := O1.alloc (.cells (plC (.slice va2 zs.length vc2) zb zo) 58)
      refine ⟨O1'.1, O1'.2.imp id ?_⟩
      rintro ⟨g', cap', cur', e', h1, h2, h3⟩
      have hg1 : g' < w3.heap.size := (U1.out g' (by rw [e']; rfl)).2
      refine ⟨g', cap', cur', e', h1, (hoth g' (fun e2 => ?_)).trans h2, h3⟩
      have := (U2.out g' e2).1
      omega
    replace B := Lib.hid ((bnew B.out (.cells (plC (.slice va2 zs.length vc2) zb zo) 58)).trans (hb13.mono (by omega)))
    have C13 := Lib.hid (Below.refl w13.heap.size w13)
    clear hb13 hsz hoth O2 KM U1 U2 r2 r3 r4 r5 r6
    go_wp2_with (((with_reducible refine is_load 58 _ rfl ?_); refine wpList_load_at rfl 58 _ rfl _ rfl ((plC (.slice va2 zs.length vc2) zb zo)) _ (by with_reducible assumption) 3 (plC_size _ _ _) _ Try.underlying58 rfl (by kernel_rfl) ?_))
    refine (heldPlan_of va2 zs.length vc2 zb zo M hM0 _ w13 (KH _ (b0 w13 _))).mono ?_
    rintro e w14 ⟨rfl, rfl⟩
    have hb14 := b0 w13 (.cells (plC (.slice va2 zs.length vc2) zb zo) 58)
    replace A := A.step hb14
    replace S := S.step hb14
    replace O1 := O1.step hb14
    replace Gp := Gp.step hb14
    replace B := Lib.hid (bthen B.out hb14)
    replace C13 := Lib.hid (bthen C13.out hb14)
    clear hb14
    generalize w13.alloc (.cells (plC (.slice va2 zs.length vc2) zb zo) 58) = w14 at A S O1 Gp B C13 ⊢
    go_wp2_with (((with_reducible refine is_load 54 _ rfl ?_); refine wpList_load_at rfl 54 _ rfl _ rfl ((plC (.slice a xs.length cap) b o)) _ (by with_reducible assumption) 3 (plC_size _ _ _) _ Try.underlying54 rfl (by kernel_rfl) ?_))
    refine (toPlan_any a cap xs b o w14 (hF.step (Nat.le_refl _) B.out) hn).mono ?_
    rintro e w15 ⟨G15, rfl, hG15, -, hb15⟩
    replace A := A.step hb15
    replace S := S.step hb15
    replace O1 := O1.step hb15
    replace Gp := Gp.step hb15
    replace B := Lib.hid (bthen B.out hb15)
    replace C13 := Lib.hid (bthen C13.out hb15)
    clear hb15
    go_wp2_with fail
    refine (KI G15 w15 hG15).mono ?_
    rintro e w16 ⟨⟨v3, rfl, O3⟩, hb16⟩
    replace A := A.step hb16
    replace S := S.step hb16
    replace O1 := O1.step hb16
    replace Gp := Gp.step hb16
    replace B := Lib.hid (bthen B.out hb16)
    replace C13 := Lib.hid (bthen C13.out hb16)
    clear hb16 hG15
    obtain ⟨va3, vc3, rfl⟩ := O3.any
    have N0 := At.new w16 #[.slice none 0 0, .int .i64 0, .int .i64 0] 58
    have Hp := N0.setRow (plC (.slice va3 zs.length vc3) zb zo)
    have BN : Below w16.heap.size w16 ((w16.alloc (.cells #[.slice none 0 0, .int .i64 0, .int .i64 0] 58)).setRow w16.heap.size (plC (.slice va3 zs.length vc3) zb zo)) := bset (b0 _ _) (Nat.le_refl _) _
    replace S := S.step BN
    replace O1 := O1.step BN
    replace O3 := O3.step BN
    replace Gp := Gp.step BN
    replace B := Lib.hid (bthen B.out BN)
    replace C13 := Lib.hid (bthen C13.out BN)
    clear BN A
    go_wp2_with (first | ((with_reducible refine is_store 58 _ _ rfl ?_); refine wpList_store_at rfl 58 _ _ rfl _ rfl ((plC (.slice va3 zs.length vc3) zb zo)) rfl (#[.slice none 0 0, .int .i64 0, .int .i64 0]) _ (by with_reducible assumption) 3 (plC_size _ _ _) (rfl) (by kernel_rfl) (pl_one _ (sl_one _ _ _) _ _) ?_) | ((with_reducible refine is_load 58 _ rfl ?_); refine wpList_load_at rfl 58 _ rfl _ rfl ((plC (.slice va1 zs.length vc1) zb zo)) _ (by with_reducible assumption) 3 (plC_size _ _ _) _ Try.underlying58 rfl (by kernel_rfl) ?_) | ((with_reducible refine is_load 58 _ rfl ?_); refine wpList_load_at rfl 58 _ rfl _ rfl ((plC (.slice va3 zs.length vc3) zb zo)) _ (by with_reducible assumption) 3 (plC_size _ _ _) _ Try.underlying58 rfl (by kernel_rfl) ?_))
    clear N0
    generalize World.setRow _ _ _ = w17 at S O1 O3 Gp B C13 Hp ⊢
    refine (eqPlan_st va3 va1 vc3 vc1 zs zb zo hyl w17 (O3.st HY.out hym) (O1.st HY.out hym)).mono ?_
    rintro e w18 ⟨rfl, hb18⟩
    replace Gp := Gp.step hb18
    replace B := Lib.hid (bthen B.out hb18)
    replace C13 := Lib.hid (bthen C13.out hb18)
    clear hb18 S O1 O3 Hp
    go_wp2_with (((with_reducible refine is_load 58 _ rfl ?_); refine wpList_load_at rfl 58 _ rfl _ rfl ((plC (.slice va2 zs.length vc2) zb zo)) _ (by with_reducible assumption) 3 (plC_size _ _ _) _ Try.underlying58 rfl (by kernel_rfl) ?_))
    refine (heldPlan_of va2 zs.length vc2 zb zo M hM0 _ w18 (KH _ (bnew C13.out _))).mono ?_
    rintro e w19 ⟨rfl, rfl⟩
    go_wp2_with fail
    go_ret
    exact ⟨rfl, bnew B.out _⟩
  · rw [if_pos (by omega)] at K
    go_enter Try.func7, Try.ntmps7
    go_wp2_with (((with_reducible refine is_load 54 _ rfl ?_); refine wpList_load_at rfl 54 _ rfl _ rfl ((plC (.slice a xs.length cap) b o)) _ (by with_reducible assumption) 3 (plC_size _ _ _) _ Try.underlying54 rfl (by kernel_rfl) ?_))
    refine (K _).mono ?_
    rintro e w1 ⟨rfl, hb1⟩
    go_wp2_with fail
    go_ret
    exact ⟨rfl, bthen B.out hb1⟩

set_option maxRecDepth 100000 in
theorem lifted (os : Os) (started : os.Started) (H : Type) (enc : TypeId × Value → H) :
    ReturnsInHanded {} Try.checked os 7 .any (Rows.fnExactShiftPlanSpec.pre6 enc Try.prog Try.f7 Rows.fnExactShiftPlanRow.domain false) (Rows.fnExactShiftPlanSpec.post enc Try.prog Try.f7 false true false false) := by
  refine law_liftedS enc os started (by kernel_rfl) Try.func7
    (ChangeSpec.witness6 (enc := enc) (C := Try.checked) false ⟨#[], #[.agg #[.slice none 0 0, .int .i64 0, .int .i64 0], .int .i64 0], []⟩ 24 (by kernel_rfl) (by kernel_rfl) (by kernel_rfl) (by kernel_rfl)) rfl (by kernel_rfl) ?_ ?_ ?_
  · rw [Try.params7]
    intro t ht
    have hall : (#[54, 2].toList.all fun u => Try.prog.readableRec u && decide (u < Try.prog.types.size)) = true := by kernel_rfl
    have := List.all_eq_true.1 hall t ht
    simpa using this
  · intro ds h
    rw [Try.params7] at h
    match ds, h with
    | [d0, d1], _ => rfl
  · intro W base args ds ps hl hval hA
    rw [Try.params7] at hl hval hA
    obtain ⟨v0, v1, rfl⟩ : ∃ v0 v1, args = #[v0, v1] := by
      obtain ⟨l⟩ := args
      match l, hl with
      | [v0, v1], _ => exact ⟨v0, v1, rfl⟩
    obtain ⟨vx0, vy0, dd0, de0, pp0, pq0, ee0, -, -, tr0, rr0⟩ := trodAll_cons hA
    obtain ⟨rfl, rfl⟩ := List.cons.inj ee0
    obtain ⟨vx1, vy1, dd1, de1, pp1, pq1, ee1, -, -, tr1, rr1⟩ := trodAll_cons rr0
    obtain ⟨rfl, rfl⟩ := List.cons.inj ee1
    obtain ⟨a0, cap0, x0, b0, o0, rfl, h0, hb0, ho0⟩ := shape_plan (hval 0 _ _ rfl rfl) tr0
    obtain ⟨x1, rfl, h1⟩ := shape_i64 (hval 1 _ _ rfl rfl)
    exact walk W a0 cap0 x0 b0 o0 h0 hb0 ho0 x1 h1

/-- THE STATEMENT -/
theorem proved : Rows.FnExactShiftPlanSaid := by
  first
    | (refine OpenClaim.holds_of_wide 7 Try.f7 rfl rfl rfl rfl rfl rfl rfl ⟨rfl, rfl, rfl, rfl, rfl⟩ rfl rfl rfl rfl rfl (by kernel_rfl) Try.func7 (by kernel_rfl) (of_decide_eq_true (by kernel_rfl)) ?_ (fun os started H enc _ => lifted os started H enc))
    | (refine OpenClaim.holds_of_wide_leaving 7 Try.f7 rfl rfl rfl rfl rfl rfl rfl ⟨rfl, rfl, rfl, rfl, rfl⟩ rfl rfl rfl rfl rfl (by kernel_rfl) Try.func7 (by kernel_rfl) (of_decide_eq_true (by kernel_rfl)) ?_ (fun os started H enc _ => leaving_of_handed (lifted os started H enc)))
  unfold Func.isWrapper
  first | (rw [if_pos (by decide +kernel)]; kernel_rfl) | (rw [if_neg (by decide +kernel)]; exact ⟨rfl, rfl⟩)
#print axioms proved
end Go.Proofs.Ytlffcpoooaoneaa.lawFnExactShiftPlan
