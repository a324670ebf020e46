/-
  FnExactShareGreen: the program's ShareGreen answers as its model, and owns its answer, at all phases, demands and numbers. No condition.
-/
import Derived.Test.YtlpbehokcogcpaaShgS
import Derived.Test.YtlpbehokcogcpaaShgI
import Derived.Test.YtlpbehokcogcpaaEqSl
import Derived.Test.YtlpbehokcogcpaaG8
import Derived.Test.YtlpbehokcogcpaaShPhs
import Derived.Test.YtlpbehokcogcpaaLawS
import Derived.Test.YtlpbehokcogcpaaG6
import Derived.Test.YtlpbehokcogcpaaTake2
namespace Go.Proofs.Ytlpbehokcogcpaa.lawFnExactShareGreen
open Go Go.ChangeShapes Go.WideShapes Go.ChangeAt Go.RowKit

theorem share4 {H F : Nat → Nat → Option Addr → Nat → World → Prop} {goal : Prop} (main : (∀ x a b c w, H x a b c w → F x a b c w) → goal) (rest : ∀ x a b c w, H x a b c w → F x a b c w) : goal := main rest

set_option maxRecDepth 100000
set_option maxHeartbeats 4000000 in
theorem walk (w : World) (v0 : Value) (ps : List P8) (hF : GSl f8 8 z8 w v0 ps) (ds : List Nat) (hl : ds.length = 8) (hx : ∀ x ∈ ds, x < 4294967296) (cy : Int) (_hc : -9223372036854775808 ≤ cy ∧ cy ≤ 9223372036854775807) (bt : Int) (_hb : -9223372036854775808 ≤ bt ∧ bt ≤ 9223372036854775807) :
    Calls Try.prog 3 #[v0, .agg (fl ds), .int .i64 cy, .int .i64 bt] w (True? w) := by
  have hmn := hF.len
  have A := At.new w (fl ds) 24
  have B := Lib.hid (b0 w (.cells (fl ds) 24))
  have hfs : (fl ds).size = 8 := by rw [fl_size, hl]
  have HD8 := Lib.hid (fun (w' : World) (h : At w' w.heap.size (fl ds) 24) => show (Instr.loadAt 24 (.pointer (some ⟨w.heap.size, 0, none⟩))).run Try.prog w' = .ok (.agg (fl ds)) w' from by
    have := run_loadAt_part (P := Try.prog) w' w.heap.size 0 8 24 (fl ds) 24 (0, 0) _ h Try.underlying24 rfl (by kernel_rfl) (by omega)
    rwa [Nat.zero_add, Array.extract_eq_self_of_le (by omega)] at this)
  obtain ⟨a0, c0, rfl⟩ := hF.any
  have HF := Lib.hid hF
  have K := szPhaseS_any a0 ps.length c0 hmn 1048576 (by omega) (w.alloc (.cells (fl ds) 24))
  clear hF
  by_cases hn : ps.length ≤ 1048576
  · rw [if_neg (by omega)] at K
    have hnn : ¬ (1048576 - ((ps.length : Nat) : Int) < 0) := by omega
    have KS := fun (G : Nat) (w : World) (h : At w G (fm f8 ps) 43) => sShareGreen_any G ps hn ds hl hx cy bt 43 w h
    have KI := fun (G : Nat) (w : World) (h : At w G (fm f8 ps) 43) => ShareGreen_any G ps hn ds hl hx cy bt 43 w h
    obtain ⟨hyw, hyl⟩ := vShg_w ps ds cy bt
    generalize vShg ps ds cy bt = q at KS KI hyw hyl
    obtain ⟨zs, zb, zo, cd⟩ := q
    simp only at KS KI hyw hyl
    have hyl : zs.length ≤ 1048576 := by omega
    have hym : zs.length ≤ maxLen := by unfold maxLen; omega
    have HY := Lib.hid hyw
    clear hyw
    go_enter Try.func3, Try.ntmps3
    go_wp2_with fail
    generalize w.alloc (.cells (fl ds) 24) = w1 at A B K ⊢
    refine K.mono ?_
    rintro e w2 ⟨rfl, hb2⟩
    replace A := A.step hb2
    replace B := Lib.hid (bthen B.out hb2)
    clear hb2 K
    have B2 := B
    have q2 := Lib.hid (show w.heap.size < w2.heap.size from A.lt)
    go_wp2_with fail
    apply share4 (H := fun GA GX va vc w9 => At w9 GA (plC (.slice va zs.length vc) zb zo) 28 ∧ OwnSl w9 w2.heap.size (.slice va zs.length vc) zs ∧ Below w2.heap.size w2 w9) (fun key => ?main)
    case main =>
      refine wp_region_held (S := fun w' => Below w2.heap.size w2 w') (by kernel_rfl) ?_
      show wpAnyH _ _ _ _ _ 13 (Array.replicate 13 false) _ _
      have S0 : Below w2.heap.size w2 { w2 with drawn := w2.drawn + 1 } := bdrew (Below.refl _ w2) 1
      generalize hw0 : ({ w2 with drawn := w2.drawn + 1 } : World) = u0 at S0 ⊢
      clear hw0
      refine wpAnyH_take (i := 0) (v := .slice a0 ps.length c0) rfl (by kernel_rfl) (by kernel_rfl) (by kernel_rfl) (fun _ _ _ h => h) (yif rfl fun w2 hw2 => by kernel_rfl) (by assumption) ?_
      refine wpAnyH_take (i := 2) (v := .agg (fl ds)) rfl (by kernel_rfl) (by kernel_rfl) (by kernel_rfl) (fun _ _ _ h => h) (yif rfl fun w' hw' => x_load 24 (.tmp 5) rfl ⟨w.heap.size, 0, none⟩ (by kernel_rfl) (HD8.out _ (A.step hw'))) (by assumption) ?_
      refine wpAnyH_take (i := 4) (v := .int .i64 cy) rfl (by kernel_rfl) (by kernel_rfl) (by kernel_rfl) (fun _ _ _ h => h) (yif rfl fun w2 hw2 => by kernel_rfl) (by assumption) ?_
      refine wpAnyH_take (i := 5) (v := .int .i64 bt) rfl (by kernel_rfl) (by kernel_rfl) (by kernel_rfl) (fun _ _ _ h => h) (yif rfl fun w2 hw2 => by kernel_rfl) (by assumption) ?_
      refine wpAnyH_all (rs := [1, 10]) (by kernel_rfl) (by simp) fun i9 hi9 => ?_
      rcases two_of8 hi9 with rfl | rfl
      · refine op_call (f := 7) (args := #[.slice a0 ps.length c0]) rfl rfl (by kernel_rfl) ((toPhaseS_any _ ps u0 (HF.out.step (Nat.le_refl _) (bthen B2.out S0)) hn).mono ?_)
        rintro e u1 ⟨rfl, X1, hb0⟩
        have S1 := bthen S0 hb0
        obtain ⟨GX, hGX⟩ : ∃ g, g = u0.heap.size := ⟨_, rfl⟩
        rw [← hGX] at X1 ⊢
        clear hGX
        refine ⟨_, rfl, S1, ?_⟩
        refine wpAnyH_all (rs := [3, 10]) (by kernel_rfl) (by simp) fun i9 hi9 => ?_
        rcases two_of8 hi9 with rfl | rfl
        · refine op_call (f := 8) (args := #[.agg (fl ds)]) rfl rfl (by kernel_rfl) ((toFloat32A8_any ds hl u1).mono ?_)
          rintro e u2 ⟨rfl, hb1⟩
          have X2 := X1.step hb1
          have S2 := bthen S1 hb1
          refine ⟨_, rfl, S2, ?_⟩
          refine wpAnyH_all (rs := [6, 10]) (by kernel_rfl) (by simp) fun i9 hi9 => ?_
          rcases two_of8 hi9 with rfl | rfl
          · refine op_call (f := 6) (args := #[.slice (some ⟨GX, 0, none⟩) ps.length ps.length, .agg (fl ds), .int .i64 cy, .int .i64 bt]) rfl rfl (by kernel_rfl) ((KS _ u2 X2).mono ?_)
            rintro e u3 ⟨⟨v, rfl, O3⟩, hb2⟩
            have X3 := X2.step hb2
            have S3 := bthen S2 hb2
            have hO2 := fun q hq => (O3.block q hq).1
            replace O3 := O3.low (lo' := w2.heap.size) S2.size
            obtain ⟨va, vc, rfl⟩ := O3.any
            refine ⟨_, rfl, S3, ?_⟩
            refine wpAnyH_take (i := 7) (v := .tuple #[.agg (plC (.slice va zs.length vc) zb zo), .int .i64 cd]) rfl (by kernel_rfl) (by kernel_rfl) (by kernel_rfl) (fun _ _ _ h => h) (yif rfl fun w2 hw2 => by kernel_rfl) (by assumption) ?_
            refine wpAnyH_take (i := 8) (v := .agg (plC (.slice va zs.length vc) zb zo)) rfl (by kernel_rfl) (by kernel_rfl) (by kernel_rfl) (fun _ _ _ h => h) (yif rfl fun w2 hw2 => by kernel_rfl) (by assumption) ?_
            refine wpAnyH_take (i := 9) (v := .int .i64 cd) rfl (by kernel_rfl) (by kernel_rfl) (by kernel_rfl) (fun _ _ _ h => h) (yif rfl fun w2 hw2 => by kernel_rfl) (by assumption) ?_
            refine wpAnyH_all (rs := [10]) (by kernel_rfl) (by simp) fun i9 hi9 => ?_
            obtain rfl := one_of hi9
            obtain ⟨GA, hGA⟩ : ∃ g, g = u3.heap.size := ⟨_, rfl⟩
            obtain ⟨u4, hu4⟩ : ∃ u, u = u3.alloc (.cells (#[.slice none 0 0, .int .i64 0, .int .i64 0]) 28) := ⟨_, rfl⟩
            have S4 := bnew S3 (.cells (#[.slice none 0 0, .int .i64 0, .int .i64 0]) 28)
            have N4 : At (u3.alloc (.cells (#[.slice none 0 0, .int .i64 0, .int .i64 0]) 28)) u3.heap.size (plC (.slice none 0 0) 0 0) 28 := At.new u3 (#[.slice none 0 0, .int .i64 0, .int .i64 0]) 28
            have hle := S3.size
            have X4 := X3.alloc (.cells (#[.slice none 0 0, .int .i64 0, .int .i64 0]) 28)
            have O4 := O3.alloc (.cells (#[.slice none 0 0, .int .i64 0, .int .i64 0]) 28)
            have hq9 : ∀ q, (Value.slice va zs.length vc).ownBlock = some q → q ≠ GA := fun q hq => by have := (O3.block q hq).2; omega
            rw [← hu4] at S4 N4 X4 O4
            rw [← hGA] at N4 hle
            refine op_value (v := .pointer (some ⟨GA, 0, none⟩)) (w' := u4) rfl rfl (by rw [hu4, hGA]; kernel_rfl) ⟨S4, ?_⟩
            clear hu4 hGA
            refine wpAnyH_all (rs := [11]) (by kernel_rfl) (by simp) fun i9 hi9 => ?_
            obtain rfl := one_of hi9
            obtain ⟨u5, hu5⟩ : ∃ u, u = u4.setRow GA (plC (.slice va zs.length vc) zb zo) := ⟨_, rfl⟩
            have S5 := bset S4 (g := GA) hle (plC (.slice va zs.length vc) zb zo)
            have N5 := N4.setRow (plC (.slice va zs.length vc) zb zo)
            have O5 := O4.setRow_other (g := GA) hq9 (plC (.slice va zs.length vc) zb zo)
            rw [← hu5] at S5 N5 O5
            refine op_skip (w' := u5) rfl rfl (by rw [hu5]; exact store_fresh rfl 3 (plC_size _ _ _) (plC_size _ _ _) (by kernel_rfl) (pl_one _ (sl_one _ _ _) _ _) _ _ _ (by kernel_rfl) (by kernel_rfl) N4) ⟨S5, ?_⟩
            clear hu5
            refine wpAnyH_take (i := 12) (v := .int .i64 cd) rfl (by kernel_rfl) (by kernel_rfl) (by kernel_rfl) (fun _ _ _ h => h) (yif rfl fun w2 hw2 => by kernel_rfl) (by assumption) ?_
            refine wpAnyH_done (by kernel_rfl) ?_ _
            go_simp
            exact key GA GX va vc u5 ⟨N5, O5, S5⟩
          · obtain ⟨GA, hGA⟩ : ∃ g, g = u2.heap.size := ⟨_, rfl⟩
            obtain ⟨u3, hu3⟩ : ∃ u, u = u2.alloc (.cells (#[.slice none 0 0, .int .i64 0, .int .i64 0]) 28) := ⟨_, rfl⟩
            have S3 := bnew S2 (.cells (#[.slice none 0 0, .int .i64 0, .int .i64 0]) 28)
            have N3 : At (u2.alloc (.cells (#[.slice none 0 0, .int .i64 0, .int .i64 0]) 28)) u2.heap.size (plC (.slice none 0 0) 0 0) 28 := At.new u2 (#[.slice none 0 0, .int .i64 0, .int .i64 0]) 28
            have hle := S2.size
            have X3 := X2.alloc (.cells (#[.slice none 0 0, .int .i64 0, .int .i64 0]) 28)
            rw [← hu3] at S3 N3 X3
            rw [← hGA] at N3 hle
            refine op_value (v := .pointer (some ⟨GA, 0, none⟩)) (w' := u3) rfl rfl (by rw [hu3, hGA]; kernel_rfl) ⟨S3, ?_⟩
            clear hu3 hGA
            refine wpAnyH_all (rs := [6]) (by kernel_rfl) (by simp) fun i9 hi9 => ?_
            obtain rfl := one_of hi9
            refine op_call (f := 6) (args := #[.slice (some ⟨GX, 0, none⟩) ps.length ps.length, .agg (fl ds), .int .i64 cy, .int .i64 bt]) rfl rfl (by kernel_rfl) ((KS _ u3 X3).mono ?_)
            rintro e u4 ⟨⟨v, rfl, O4⟩, hb3⟩
            have X4 := X3.step hb3
            have N4 := N3.step hb3
            have S4 := bthen S3 hb3
            have hO3 := fun q hq => (O4.block q hq).1
            replace O4 := O4.low (lo' := w2.heap.size) S3.size
            obtain ⟨va, vc, rfl⟩ := O4.any
            have hq9 : ∀ q, (Value.slice va zs.length vc).ownBlock = some q → q ≠ GA := fun q hq => by have := hO3 q hq; have := N3.lt; omega
            refine ⟨_, rfl, S4, ?_⟩
            refine wpAnyH_take (i := 7) (v := .tuple #[.agg (plC (.slice va zs.length vc) zb zo), .int .i64 cd]) rfl (by kernel_rfl) (by kernel_rfl) (by kernel_rfl) (fun _ _ _ h => h) (yif rfl fun w2 hw2 => by kernel_rfl) (by assumption) ?_
            refine wpAnyH_take (i := 8) (v := .agg (plC (.slice va zs.length vc) zb zo)) rfl (by kernel_rfl) (by kernel_rfl) (by kernel_rfl) (fun _ _ _ h => h) (yif rfl fun w2 hw2 => by kernel_rfl) (by assumption) ?_
            refine wpAnyH_take (i := 9) (v := .int .i64 cd) rfl (by kernel_rfl) (by kernel_rfl) (by kernel_rfl) (fun _ _ _ h => h) (yif rfl fun w2 hw2 => by kernel_rfl) (by assumption) ?_
            refine wpAnyH_all (rs := [11]) (by kernel_rfl) (by simp) fun i9 hi9 => ?_
            obtain rfl := one_of hi9
            obtain ⟨u5, hu5⟩ : ∃ u, u = u4.setRow GA (plC (.slice va zs.length vc) zb zo) := ⟨_, rfl⟩
            have S5 := bset S4 (g := GA) hle (plC (.slice va zs.length vc) zb zo)
            have N5 := N4.setRow (plC (.slice va zs.length vc) zb zo)
            have O5 := O4.setRow_other (g := GA) hq9 (plC (.slice va zs.length vc) zb zo)
            rw [← hu5] at S5 N5 O5
            refine op_skip (w' := u5) rfl rfl (by rw [hu5]; exact store_fresh rfl 3 (plC_size _ _ _) (plC_size _ _ _) (by kernel_rfl) (pl_one _ (sl_one _ _ _) _ _) _ _ _ (by kernel_rfl) (by kernel_rfl) N4) ⟨S5, ?_⟩
            clear hu5
            refine wpAnyH_take (i := 12) (v := .int .i64 cd) rfl (by kernel_rfl) (by kernel_rfl) (by kernel_rfl) (fun _ _ _ h => h) (yif rfl fun w2 hw2 => by kernel_rfl) (by assumption) ?_
            refine wpAnyH_done (by kernel_rfl) ?_ _
            go_simp
            exact key GA GX va vc u5 ⟨N5, O5, S5⟩
        · obtain ⟨GA, hGA⟩ : ∃ g, g = u1.heap.size := ⟨_, rfl⟩
          obtain ⟨u2, hu2⟩ : ∃ u, u = u1.alloc (.cells (#[.slice none 0 0, .int .i64 0, .int .i64 0]) 28) := ⟨_, rfl⟩
          have S2 := bnew S1 (.cells (#[.slice none 0 0, .int .i64 0, .int .i64 0]) 28)
          have N2 : At (u1.alloc (.cells (#[.slice none 0 0, .int .i64 0, .int .i64 0]) 28)) u1.heap.size (plC (.slice none 0 0) 0 0) 28 := At.new u1 (#[.slice none 0 0, .int .i64 0, .int .i64 0]) 28
          have hle := S1.size
          have X2 := X1.alloc (.cells (#[.slice none 0 0, .int .i64 0, .int .i64 0]) 28)
          rw [← hu2] at S2 N2 X2
          rw [← hGA] at N2 hle
          refine op_value (v := .pointer (some ⟨GA, 0, none⟩)) (w' := u2) rfl rfl (by rw [hu2, hGA]; kernel_rfl) ⟨S2, ?_⟩
          clear hu2 hGA
          refine wpAnyH_all (rs := [3]) (by kernel_rfl) (by simp) fun i9 hi9 => ?_
          obtain rfl := one_of hi9
          refine op_call (f := 8) (args := #[.agg (fl ds)]) rfl rfl (by kernel_rfl) ((toFloat32A8_any ds hl u2).mono ?_)
          rintro e u3 ⟨rfl, hb2⟩
          have X3 := X2.step hb2
          have N3 := N2.step hb2
          have S3 := bthen S2 hb2
          refine ⟨_, rfl, S3, ?_⟩
          refine wpAnyH_all (rs := [6]) (by kernel_rfl) (by simp) fun i9 hi9 => ?_
          obtain rfl := one_of hi9
          refine op_call (f := 6) (args := #[.slice (some ⟨GX, 0, none⟩) ps.length ps.length, .agg (fl ds), .int .i64 cy, .int .i64 bt]) rfl rfl (by kernel_rfl) ((KS _ u3 X3).mono ?_)
          rintro e u4 ⟨⟨v, rfl, O4⟩, hb3⟩
          have X4 := X3.step hb3
          have N4 := N3.step hb3
          have S4 := bthen S3 hb3
          have hO3 := fun q hq => (O4.block q hq).1
          replace O4 := O4.low (lo' := w2.heap.size) S3.size
          obtain ⟨va, vc, rfl⟩ := O4.any
          have hq9 : ∀ q, (Value.slice va zs.length vc).ownBlock = some q → q ≠ GA := fun q hq => by have := hO3 q hq; have := N3.lt; omega
          refine ⟨_, rfl, S4, ?_⟩
          refine wpAnyH_take (i := 7) (v := .tuple #[.agg (plC (.slice va zs.length vc) zb zo), .int .i64 cd]) rfl (by kernel_rfl) (by kernel_rfl) (by kernel_rfl) (fun _ _ _ h => h) (yif rfl fun w2 hw2 => by kernel_rfl) (by assumption) ?_
          refine wpAnyH_take (i := 8) (v := .agg (plC (.slice va zs.length vc) zb zo)) rfl (by kernel_rfl) (by kernel_rfl) (by kernel_rfl) (fun _ _ _ h => h) (yif rfl fun w2 hw2 => by kernel_rfl) (by assumption) ?_
          refine wpAnyH_take (i := 9) (v := .int .i64 cd) rfl (by kernel_rfl) (by kernel_rfl) (by kernel_rfl) (fun _ _ _ h => h) (yif rfl fun w2 hw2 => by kernel_rfl) (by assumption) ?_
          refine wpAnyH_all (rs := [11]) (by kernel_rfl) (by simp) fun i9 hi9 => ?_
          obtain rfl := one_of hi9
          obtain ⟨u5, hu5⟩ : ∃ u, u = u4.setRow GA (plC (.slice va zs.length vc) zb zo) := ⟨_, rfl⟩
          have S5 := bset S4 (g := GA) hle (plC (.slice va zs.length vc) zb zo)
          have N5 := N4.setRow (plC (.slice va zs.length vc) zb zo)
          have O5 := O4.setRow_other (g := GA) hq9 (plC (.slice va zs.length vc) zb zo)
          rw [← hu5] at S5 N5 O5
          refine op_skip (w' := u5) rfl rfl (by rw [hu5]; exact store_fresh rfl 3 (plC_size _ _ _) (plC_size _ _ _) (by kernel_rfl) (pl_one _ (sl_one _ _ _) _ _) _ _ _ (by kernel_rfl) (by kernel_rfl) N4) ⟨S5, ?_⟩
          clear hu5
          refine wpAnyH_take (i := 12) (v := .int .i64 cd) rfl (by kernel_rfl) (by kernel_rfl) (by kernel_rfl) (fun _ _ _ h => h) (yif rfl fun w2 hw2 => by kernel_rfl) (by assumption) ?_
          refine wpAnyH_done (by kernel_rfl) ?_ _
          go_simp
          exact key GA GX va vc u5 ⟨N5, O5, S5⟩
      · obtain ⟨GA, hGA⟩ : ∃ g, g = u0.heap.size := ⟨_, rfl⟩
        obtain ⟨u1, hu1⟩ : ∃ u, u = u0.alloc (.cells (#[.slice none 0 0, .int .i64 0, .int .i64 0]) 28) := ⟨_, rfl⟩
        have S1 := bnew S0 (.cells (#[.slice none 0 0, .int .i64 0, .int .i64 0]) 28)
        have N1 : At (u0.alloc (.cells (#[.slice none 0 0, .int .i64 0, .int .i64 0]) 28)) u0.heap.size (plC (.slice none 0 0) 0 0) 28 := At.new u0 (#[.slice none 0 0, .int .i64 0, .int .i64 0]) 28
        have hle := S0.size
        rw [← hu1] at S1 N1 
        rw [← hGA] at N1 hle
        refine op_value (v := .pointer (some ⟨GA, 0, none⟩)) (w' := u1) rfl rfl (by rw [hu1, hGA]; kernel_rfl) ⟨S1, ?_⟩
        clear hu1 hGA
        refine wpAnyH_all (rs := [1]) (by kernel_rfl) (by simp) fun i9 hi9 => ?_
        obtain rfl := one_of hi9
        refine op_call (f := 7) (args := #[.slice a0 ps.length c0]) rfl rfl (by kernel_rfl) ((toPhaseS_any _ ps u1 (HF.out.step (Nat.le_refl _) (bthen B2.out S1)) hn).mono ?_)
        rintro e u2 ⟨rfl, X2, hb1⟩
        have N2 := N1.step hb1
        have S2 := bthen S1 hb1
        obtain ⟨GX, hGX⟩ : ∃ g, g = u1.heap.size := ⟨_, rfl⟩
        rw [← hGX] at X2 ⊢
        clear hGX
        refine ⟨_, rfl, S2, ?_⟩
        refine wpAnyH_all (rs := [3]) (by kernel_rfl) (by simp) fun i9 hi9 => ?_
        obtain rfl := one_of hi9
        refine op_call (f := 8) (args := #[.agg (fl ds)]) rfl rfl (by kernel_rfl) ((toFloat32A8_any ds hl u2).mono ?_)
        rintro e u3 ⟨rfl, hb2⟩
        have N3 := N2.step hb2
        have X3 := X2.step hb2
        have S3 := bthen S2 hb2
        refine ⟨_, rfl, S3, ?_⟩
        refine wpAnyH_all (rs := [6]) (by kernel_rfl) (by simp) fun i9 hi9 => ?_
        obtain rfl := one_of hi9
        refine op_call (f := 6) (args := #[.slice (some ⟨GX, 0, none⟩) ps.length ps.length, .agg (fl ds), .int .i64 cy, .int .i64 bt]) rfl rfl (by kernel_rfl) ((KS _ u3 X3).mono ?_)
        rintro e u4 ⟨⟨v, rfl, O4⟩, hb3⟩
        have N4 := N3.step hb3
        have X4 := X3.step hb3
        have S4 := bthen S3 hb3
        have hO3 := fun q hq => (O4.block q hq).1
        replace O4 := O4.low (lo' := w2.heap.size) S3.size
        obtain ⟨va, vc, rfl⟩ := O4.any
        have hq9 : ∀ q, (Value.slice va zs.length vc).ownBlock = some q → q ≠ GA := fun q hq => by have := hO3 q hq; have := N3.lt; omega
        refine ⟨_, rfl, S4, ?_⟩
        refine wpAnyH_take (i := 7) (v := .tuple #[.agg (plC (.slice va zs.length vc) zb zo), .int .i64 cd]) rfl (by kernel_rfl) (by kernel_rfl) (by kernel_rfl) (fun _ _ _ h => h) (yif rfl fun w2 hw2 => by kernel_rfl) (by assumption) ?_
        refine wpAnyH_take (i := 8) (v := .agg (plC (.slice va zs.length vc) zb zo)) rfl (by kernel_rfl) (by kernel_rfl) (by kernel_rfl) (fun _ _ _ h => h) (yif rfl fun w2 hw2 => by kernel_rfl) (by assumption) ?_
        refine wpAnyH_take (i := 9) (v := .int .i64 cd) rfl (by kernel_rfl) (by kernel_rfl) (by kernel_rfl) (fun _ _ _ h => h) (yif rfl fun w2 hw2 => by kernel_rfl) (by assumption) ?_
        refine wpAnyH_all (rs := [11]) (by kernel_rfl) (by simp) fun i9 hi9 => ?_
        obtain rfl := one_of hi9
        obtain ⟨u5, hu5⟩ : ∃ u, u = u4.setRow GA (plC (.slice va zs.length vc) zb zo) := ⟨_, rfl⟩
        have S5 := bset S4 (g := GA) hle (plC (.slice va zs.length vc) zb zo)
        have N5 := N4.setRow (plC (.slice va zs.length vc) zb zo)
        have O5 := O4.setRow_other (g := GA) hq9 (plC (.slice va zs.length vc) zb zo)
        rw [← hu5] at S5 N5 O5
        refine op_skip (w' := u5) rfl rfl (by rw [hu5]; exact store_fresh rfl 3 (plC_size _ _ _) (plC_size _ _ _) (by kernel_rfl) (pl_one _ (sl_one _ _ _) _ _) _ _ _ (by kernel_rfl) (by kernel_rfl) N4) ⟨S5, ?_⟩
        clear hu5
        refine wpAnyH_take (i := 12) (v := .int .i64 cd) rfl (by kernel_rfl) (by kernel_rfl) (by kernel_rfl) (fun _ _ _ h => h) (yif rfl fun w2 hw2 => by kernel_rfl) (by assumption) ?_
        refine wpAnyH_done (by kernel_rfl) ?_ _
        go_simp
        exact key GA GX va vc u5 ⟨N5, O5, S5⟩
    intro GS GX1 va1 vc1 w3 hh
    obtain ⟨S, O1, hb3⟩ := hh
    replace A := A.step hb3
    replace B := Lib.hid (bthen B.out hb3)
    have U1 := Lib.hid O1.block
    have q3 := Lib.hid (show w.heap.size < w2.heap.size ∧ w2.heap.size ≤ w3.heap.size from ⟨q2.out, hb3.size⟩)
    have qS := Lib.hid (show GS < w3.heap.size from S.lt)
    clear hb3 KS B2
    go_wp2_with fail
    refine (toPhaseS_any _ ps w3 (HF.out.step (Nat.le_refl _) B.out) hn).mono ?_
    rintro e w4 ⟨rfl, H, hb4⟩
    replace A := A.step hb4
    replace S := S.step hb4
    replace O1 := O1.step hb4
    replace B := Lib.hid (bthen B.out hb4)
    have q4 := Lib.hid (show w3.heap.size < w4.heap.size from H.lt)
    clear hb4
    obtain ⟨G4, hG4⟩ : ∃ G4, G4 = w3.heap.size := ⟨_, rfl⟩
    rw [← hG4] at H ⊢
    have q4' := Lib.hid hG4
    clear hG4
    go_wp2_with (((with_reducible refine is_load 24 _ rfl ?_); refine wpList_load_at rfl 24 _ rfl _ rfl (fl ds) _ (by with_reducible assumption) 8 (hfs) _ Try.underlying24 rfl (by kernel_rfl) ?_))
    refine (toFloat32A8_any ds hl w4).mono ?_
    rintro e w5 ⟨rfl, hb5⟩
    replace A := A.step hb5
    replace S := S.step hb5
    replace O1 := O1.step hb5
    replace H := H.step hb5
    replace B := Lib.hid (bthen B.out hb5)
    have q5 := Lib.hid (show w4.heap.size ≤ w5.heap.size from hb5.size)
    clear hb5
    go_wp2_with fail
    refine (KI G4 w5 H).mono ?_
    rintro e w6 ⟨⟨v2, rfl, O2⟩, hb6⟩
    replace A := A.step hb6
    replace S := S.step hb6
    replace O1 := O1.step hb6
    replace H := H.step hb6
    replace B := Lib.hid (bthen B.out hb6)
    have q6 := Lib.hid (show w5.heap.size ≤ w6.heap.size from hb6.size)
    clear hb6
    obtain ⟨va2, vc2, rfl⟩ := O2.any
    have U2 := Lib.hid O2.block
    have N0 := At.new w6 (#[.slice none 0 0, .int .i64 0, .int .i64 0]) 28
    have Gp := N0.setRow (plC (.slice va2 zs.length vc2) zb zo)
    have BN : Below w6.heap.size w6 ((w6.alloc (.cells (#[.slice none 0 0, .int .i64 0, .int .i64 0]) 28)).setRow w6.heap.size (plC (.slice va2 zs.length vc2) zb zo)) := bset (b0 _ _) (Nat.le_refl _) _
    replace A := A.step BN
    replace S := S.step BN
    replace O1 := O1.step BN
    replace O2 := O2.step BN
    replace H := H.step BN
    replace B := Lib.hid (bthen B.out BN)
    clear BN
    go_wp2_with (first | ((with_reducible refine is_store 28 _ _ rfl ?_); refine wpList_store_at rfl 28 _ _ rfl _ rfl ((plC (.slice va2 zs.length vc2) zb zo)) rfl (#[.slice none 0 0, .int .i64 0, .int .i64 0]) _ (by with_reducible assumption) 3 (plC_size _ _ _) (rfl) (by kernel_rfl) (pl_one _ (sl_one _ _ _) _ _) ?_) | ((with_reducible refine is_load 28 _ rfl ?_); refine wpList_load_at rfl 28 _ rfl _ rfl ((plC (.slice va1 zs.length vc1) zb zo)) _ (by with_reducible assumption) 3 (plC_size _ _ _) _ Try.underlying28 rfl (by kernel_rfl) ?_) | ((with_reducible refine is_load 28 _ rfl ?_); refine wpList_load_at rfl 28 _ rfl _ rfl ((plC (.slice va2 zs.length vc2) zb zo)) _ (by with_reducible assumption) 3 (plC_size _ _ _) _ Try.underlying28 rfl (by kernel_rfl) ?_))
    clear N0
    generalize World.setRow _ _ _ = wg at A B O1 O2 S H Gp ⊢
    refine (eqPlan_st va2 va1 vc2 vc1 zs zb zo hyl wg (O2.st HY.out hym) (O1.st HY.out hym)).mono ?_
    rintro e w7 ⟨rfl, hb7⟩
    replace A := A.step hb7
    replace S := S.step hb7
    replace O1 := O1.step hb7
    replace O2 := O2.step hb7
    replace H := H.step hb7
    replace Gp := Gp.step hb7
    replace B := Lib.hid (bthen B.out hb7)
    clear hb7
    go_wp2_with fail
    refine (toPhaseS_any _ ps w7 (HF.out.step (Nat.le_refl _) B.out) hn).mono ?_
    rintro e w8 ⟨rfl, X8, hb8⟩
    replace A := A.step hb8
    replace S := S.step hb8
    replace O1 := O1.step hb8
    replace O2 := O2.step hb8
    replace H := H.step hb8
    replace Gp := Gp.step hb8
    replace B := Lib.hid (bthen B.out hb8)
    clear hb8
    go_wp2_with fail
    refine (eqPhaseS_same G4 w7.heap.size ps hn _ _ w8 H X8).mono ?_
    rintro e w9 ⟨rfl, hb9⟩
    replace A := A.step hb9
    replace S := S.step hb9
    replace O1 := O1.step hb9
    replace O2 := O2.step hb9
    replace H := H.step hb9
    replace Gp := Gp.step hb9
    replace B := Lib.hid (bthen B.out hb9)
    clear hb9 X8
    go_wp2_with fail
    refine (markPhaseS_any G4 ps.length ps.length (fm f8 ps) 43 hn (by rw [fm_size f8_size]; exact Nat.le_refl _) w9 H).mono ?_
    rintro e w10 ⟨rfl, cm, rfl⟩
    have r3 := q3.out; have r4 := q4.out; have r5 := q5.out; have r6 := q6.out; have rS := qS.out; have r4' := q4'.out
    replace O1 := O1.setRow_other (g := G4) (fun q hq => by have := (U1.out q hq).2; omega) cm
    replace O2 := O2.setRow_other (g := G4) (fun q hq => by have := (U2.out q hq).1; omega) cm
    replace A := A.setRow_other (k := G4) (by omega) cm
    replace S := S.setRow_other (k := G4) (by omega) cm
    replace Gp := Gp.setRow_other (k := G4) (by omega) cm
    replace B := Lib.hid (bset B.out (g := G4) (by omega) cm)
    clear H r3 r4 r5 r6 rS r4'
    have hk0 : ¬ ((ps.length : Int) * 8 + 1 < 0) := by omega
    generalize (ps.length : Int) * 8 + 1 = k0 at hk0 ⊢
    generalize World.setRow _ _ _ = w11 at A S Gp O1 O2 B ⊢
    have ca := Gp.cell (k := 0) (plC_0 _ _ _)
    have cb := Gp.cell (k := 1) (plC_1 _ _ _)
    have cc := Gp.cell (k := 2) (plC_2 _ _ _)
    have cd' := S.cell (k := 0) (plC_0 _ _ _)
    have ce := S.cell (k := 1) (plC_1 _ _ _)
    have cf := S.cell (k := 2) (plC_2 _ _ _)
    go_wp2_with fail
    refine (eqPlan_st va2 va1 vc2 vc1 zs zb zo hyl w11 (O2.st HY.out hym) (O1.st HY.out hym)).mono ?_
    rintro e w12 ⟨rfl, hb12⟩
    replace A := A.step hb12
    replace S := S.step hb12
    replace O1 := O1.step hb12
    replace O2 := O2.step hb12
    replace Gp := Gp.step hb12
    replace B := Lib.hid (bthen B.out hb12)
    clear hb12 ca cb cc cd' ce cf
    go_wp2_with (((with_reducible refine is_load 28 _ rfl ?_); refine wpList_load_at rfl 28 _ rfl _ rfl ((plC (.slice va2 zs.length vc2) zb zo)) _ (by with_reducible assumption) 3 (plC_size _ _ _) _ Try.underlying28 rfl (by kernel_rfl) ?_))
    obtain ⟨M, hM0, KM⟩ := (O2.alloc (.cells (plC (.slice va2 zs.length vc2) zb zo) 28)).marks hyl
    have hM0' : ¬ M < 0 := by omega
    refine (markPlan_of va2 zs.length vc2 zb zo M _ w12 KM).mono ?_
    rintro e w13 ⟨rfl, hb13, hsz, hoth, KH⟩
    have r3 := q3.out; have r4 := q4.out; have r5 := q5.out; have r6 := q6.out; have rS := qS.out
    replace A : At w13 w.heap.size (fl ds) 24 := (hoth _ (fun e2 => by have := (U2.out _ e2).1; omega)).trans (A.alloc (.cells (plC (.slice va2 zs.length vc2) zb zo) 28))
    replace S : At w13 GS (plC (.slice va1 zs.length vc1) zb zo) 28 := (hoth _ (fun e2 => by have := (U2.out _ e2).1; omega)).trans (S.alloc (.cells (plC (.slice va2 zs.length vc2) zb zo) 28))
    replace Gp : At w13 w6.heap.size (plC (.slice va2 zs.length vc2) zb zo) 28 := (hoth _ (fun e2 => by have := (U2.out _ e2).2; omega)).trans (Gp.alloc (.cells (plC (.slice va2 zs.length vc2) zb zo) 28))
    replace O1 : OwnSl w13 w2.heap.size (.slice va1 zs.length vc1) zs := by
      have O1' := O1.alloc (.cells (plC (.slice va2 zs.length vc2) zb zo) 28)
      refine ⟨O1'.1, O1'.2.imp id ?_⟩
      rintro ⟨g', cap', cur', e', h1, h2, h3⟩
      have hg1 : g' < w3.heap.size := (U1.out g' (by rw [e']; rfl)).2
      refine ⟨g', cap', cur', e', h1, (hoth g' (fun e2 => ?_)).trans h2, h3⟩
      have := (U2.out g' e2).1
      omega
    replace B := Lib.hid ((bnew B.out (.cells (plC (.slice va2 zs.length vc2) zb zo) 28)).trans (hb13.mono (by omega)))
    have C13 := Lib.hid (Below.refl w13.heap.size w13)
    clear hb13 hsz hoth O2 KM U1 U2 r3 r4 r5 r6 rS
    go_wp2_with (((with_reducible refine is_load 28 _ rfl ?_); refine wpList_load_at rfl 28 _ rfl _ rfl ((plC (.slice va2 zs.length vc2) zb zo)) _ (by with_reducible assumption) 3 (plC_size _ _ _) _ Try.underlying28 rfl (by kernel_rfl) ?_))
    refine (heldPlan_of va2 zs.length vc2 zb zo M hM0 _ w13 (KH _ (b0 w13 _))).mono ?_
    rintro e w14 ⟨rfl, rfl⟩
    have hb14 := b0 w13 (.cells (plC (.slice va2 zs.length vc2) zb zo) 28)
    replace A := A.step hb14
    replace S := S.step hb14
    replace O1 := O1.step hb14
    replace Gp := Gp.step hb14
    replace B := Lib.hid (bthen B.out hb14)
    replace C13 := Lib.hid (bthen C13.out hb14)
    clear hb14
    generalize w13.alloc (.cells (plC (.slice va2 zs.length vc2) zb zo) 28) = w14 at A S O1 Gp B C13 ⊢
    have B14 := B
    go_wp2_with fail
    apply share4 (H := fun GA GX va vc w9 => At w9 GA (plC (.slice va zs.length vc) zb zo) 28 ∧ OwnSl w9 w14.heap.size (.slice va zs.length vc) zs ∧ Below w14.heap.size w14 w9) (fun key => ?main)
    case main =>
      refine wp_region_held (S := fun w' => Below w14.heap.size w14 w') (by kernel_rfl) ?_
      show wpAnyH _ _ _ _ _ 13 (Array.replicate 13 false) _ _
      have S0 : Below w14.heap.size w14 { w14 with drawn := w14.drawn + 1 } := bdrew (Below.refl _ w14) 1
      generalize hw0 : ({ w14 with drawn := w14.drawn + 1 } : World) = u0 at S0 ⊢
      clear hw0
      refine wpAnyH_take (i := 0) (v := .slice a0 ps.length c0) rfl (by kernel_rfl) (by kernel_rfl) (by kernel_rfl) (fun _ _ _ h => h) (yif rfl fun w2 hw2 => by kernel_rfl) (by assumption) ?_
      refine wpAnyH_take (i := 2) (v := .agg (fl ds)) rfl (by kernel_rfl) (by kernel_rfl) (by kernel_rfl) (fun _ _ _ h => h) (yif rfl fun w' hw' => x_load 24 (.tmp 5) rfl ⟨w.heap.size, 0, none⟩ (by kernel_rfl) (HD8.out _ (A.step hw'))) (by assumption) ?_
      refine wpAnyH_take (i := 4) (v := .int .i64 cy) rfl (by kernel_rfl) (by kernel_rfl) (by kernel_rfl) (fun _ _ _ h => h) (yif rfl fun w2 hw2 => by kernel_rfl) (by assumption) ?_
      refine wpAnyH_take (i := 5) (v := .int .i64 bt) rfl (by kernel_rfl) (by kernel_rfl) (by kernel_rfl) (fun _ _ _ h => h) (yif rfl fun w2 hw2 => by kernel_rfl) (by assumption) ?_
      refine wpAnyH_all (rs := [1, 10]) (by kernel_rfl) (by simp) fun i9 hi9 => ?_
      rcases two_of8 hi9 with rfl | rfl
      · refine op_call (f := 7) (args := #[.slice a0 ps.length c0]) rfl rfl (by kernel_rfl) ((toPhaseS_any _ ps u0 (HF.out.step (Nat.le_refl _) (bthen B14.out S0)) hn).mono ?_)
        rintro e u1 ⟨rfl, X1, hb0⟩
        have S1 := bthen S0 hb0
        obtain ⟨GX, hGX⟩ : ∃ g, g = u0.heap.size := ⟨_, rfl⟩
        rw [← hGX] at X1 ⊢
        clear hGX
        refine ⟨_, rfl, S1, ?_⟩
        refine wpAnyH_all (rs := [3, 10]) (by kernel_rfl) (by simp) fun i9 hi9 => ?_
        rcases two_of8 hi9 with rfl | rfl
        · refine op_call (f := 8) (args := #[.agg (fl ds)]) rfl rfl (by kernel_rfl) ((toFloat32A8_any ds hl u1).mono ?_)
          rintro e u2 ⟨rfl, hb1⟩
          have X2 := X1.step hb1
          have S2 := bthen S1 hb1
          refine ⟨_, rfl, S2, ?_⟩
          refine wpAnyH_all (rs := [6, 10]) (by kernel_rfl) (by simp) fun i9 hi9 => ?_
          rcases two_of8 hi9 with rfl | rfl
          · refine op_call (f := 9) (args := #[.slice (some ⟨GX, 0, none⟩) ps.length ps.length, .agg (fl ds), .int .i64 cy, .int .i64 bt]) rfl rfl (by kernel_rfl) ((KI _ u2 X2).mono ?_)
            rintro e u3 ⟨⟨v, rfl, O3⟩, hb2⟩
            have X3 := X2.step hb2
            have S3 := bthen S2 hb2
            have hO2 := fun q hq => (O3.block q hq).1
            replace O3 := O3.low (lo' := w14.heap.size) S2.size
            obtain ⟨va, vc, rfl⟩ := O3.any
            refine ⟨_, rfl, S3, ?_⟩
            refine wpAnyH_take (i := 7) (v := .tuple #[.agg (plC (.slice va zs.length vc) zb zo), .int .i64 cd]) rfl (by kernel_rfl) (by kernel_rfl) (by kernel_rfl) (fun _ _ _ h => h) (yif rfl fun w2 hw2 => by kernel_rfl) (by assumption) ?_
            refine wpAnyH_take (i := 8) (v := .agg (plC (.slice va zs.length vc) zb zo)) rfl (by kernel_rfl) (by kernel_rfl) (by kernel_rfl) (fun _ _ _ h => h) (yif rfl fun w2 hw2 => by kernel_rfl) (by assumption) ?_
            refine wpAnyH_take (i := 9) (v := .int .i64 cd) rfl (by kernel_rfl) (by kernel_rfl) (by kernel_rfl) (fun _ _ _ h => h) (yif rfl fun w2 hw2 => by kernel_rfl) (by assumption) ?_
            refine wpAnyH_all (rs := [10]) (by kernel_rfl) (by simp) fun i9 hi9 => ?_
            obtain rfl := one_of hi9
            obtain ⟨GA, hGA⟩ : ∃ g, g = u3.heap.size := ⟨_, rfl⟩
            obtain ⟨u4, hu4⟩ : ∃ u, u = u3.alloc (.cells (#[.slice none 0 0, .int .i64 0, .int .i64 0]) 28) := ⟨_, rfl⟩
            have S4 := bnew S3 (.cells (#[.slice none 0 0, .int .i64 0, .int .i64 0]) 28)
            have N4 : At (u3.alloc (.cells (#[.slice none 0 0, .int .i64 0, .int .i64 0]) 28)) u3.heap.size (plC (.slice none 0 0) 0 0) 28 := At.new u3 (#[.slice none 0 0, .int .i64 0, .int .i64 0]) 28
            have hle := S3.size
            have X4 := X3.alloc (.cells (#[.slice none 0 0, .int .i64 0, .int .i64 0]) 28)
            have O4 := O3.alloc (.cells (#[.slice none 0 0, .int .i64 0, .int .i64 0]) 28)
            have hq9 : ∀ q, (Value.slice va zs.length vc).ownBlock = some q → q ≠ GA := fun q hq => by have := (O3.block q hq).2; omega
            rw [← hu4] at S4 N4 X4 O4
            rw [← hGA] at N4 hle
            refine op_value (v := .pointer (some ⟨GA, 0, none⟩)) (w' := u4) rfl rfl (by rw [hu4, hGA]; kernel_rfl) ⟨S4, ?_⟩
            clear hu4 hGA
            refine wpAnyH_all (rs := [11]) (by kernel_rfl) (by simp) fun i9 hi9 => ?_
            obtain rfl := one_of hi9
            obtain ⟨u5, hu5⟩ : ∃ u, u = u4.setRow GA (plC (.slice va zs.length vc) zb zo) := ⟨_, rfl⟩
            have S5 := bset S4 (g := GA) hle (plC (.slice va zs.length vc) zb zo)
            have N5 := N4.setRow (plC (.slice va zs.length vc) zb zo)
            have O5 := O4.setRow_other (g := GA) hq9 (plC (.slice va zs.length vc) zb zo)
            rw [← hu5] at S5 N5 O5
            refine op_skip (w' := u5) rfl rfl (by rw [hu5]; exact store_fresh rfl 3 (plC_size _ _ _) (plC_size _ _ _) (by kernel_rfl) (pl_one _ (sl_one _ _ _) _ _) _ _ _ (by kernel_rfl) (by kernel_rfl) N4) ⟨S5, ?_⟩
            clear hu5
            refine wpAnyH_take (i := 12) (v := .int .i64 cd) rfl (by kernel_rfl) (by kernel_rfl) (by kernel_rfl) (fun _ _ _ h => h) (yif rfl fun w2 hw2 => by kernel_rfl) (by assumption) ?_
            refine wpAnyH_done (by kernel_rfl) ?_ _
            go_simp
            exact key GA GX va vc u5 ⟨N5, O5, S5⟩
          · obtain ⟨GA, hGA⟩ : ∃ g, g = u2.heap.size := ⟨_, rfl⟩
            obtain ⟨u3, hu3⟩ : ∃ u, u = u2.alloc (.cells (#[.slice none 0 0, .int .i64 0, .int .i64 0]) 28) := ⟨_, rfl⟩
            have S3 := bnew S2 (.cells (#[.slice none 0 0, .int .i64 0, .int .i64 0]) 28)
            have N3 : At (u2.alloc (.cells (#[.slice none 0 0, .int .i64 0, .int .i64 0]) 28)) u2.heap.size (plC (.slice none 0 0) 0 0) 28 := At.new u2 (#[.slice none 0 0, .int .i64 0, .int .i64 0]) 28
            have hle := S2.size
            have X3 := X2.alloc (.cells (#[.slice none 0 0, .int .i64 0, .int .i64 0]) 28)
            rw [← hu3] at S3 N3 X3
            rw [← hGA] at N3 hle
            refine op_value (v := .pointer (some ⟨GA, 0, none⟩)) (w' := u3) rfl rfl (by rw [hu3, hGA]; kernel_rfl) ⟨S3, ?_⟩
            clear hu3 hGA
            refine wpAnyH_all (rs := [6]) (by kernel_rfl) (by simp) fun i9 hi9 => ?_
            obtain rfl := one_of hi9
            refine op_call (f := 9) (args := #[.slice (some ⟨GX, 0, none⟩) ps.length ps.length, .agg (fl ds), .int .i64 cy, .int .i64 bt]) rfl rfl (by kernel_rfl) ((KI _ u3 X3).mono ?_)
            rintro e u4 ⟨⟨v, rfl, O4⟩, hb3⟩
            have X4 := X3.step hb3
            have N4 := N3.step hb3
            have S4 := bthen S3 hb3
            have hO3 := fun q hq => (O4.block q hq).1
            replace O4 := O4.low (lo' := w14.heap.size) S3.size
            obtain ⟨va, vc, rfl⟩ := O4.any
            have hq9 : ∀ q, (Value.slice va zs.length vc).ownBlock = some q → q ≠ GA := fun q hq => by have := hO3 q hq; have := N3.lt; omega
            refine ⟨_, rfl, S4, ?_⟩
            refine wpAnyH_take (i := 7) (v := .tuple #[.agg (plC (.slice va zs.length vc) zb zo), .int .i64 cd]) rfl (by kernel_rfl) (by kernel_rfl) (by kernel_rfl) (fun _ _ _ h => h) (yif rfl fun w2 hw2 => by kernel_rfl) (by assumption) ?_
            refine wpAnyH_take (i := 8) (v := .agg (plC (.slice va zs.length vc) zb zo)) rfl (by kernel_rfl) (by kernel_rfl) (by kernel_rfl) (fun _ _ _ h => h) (yif rfl fun w2 hw2 => by kernel_rfl) (by assumption) ?_
            refine wpAnyH_take (i := 9) (v := .int .i64 cd) rfl (by kernel_rfl) (by kernel_rfl) (by kernel_rfl) (fun _ _ _ h => h) (yif rfl fun w2 hw2 => by kernel_rfl) (by assumption) ?_
            refine wpAnyH_all (rs := [11]) (by kernel_rfl) (by simp) fun i9 hi9 => ?_
            obtain rfl := one_of hi9
            obtain ⟨u5, hu5⟩ : ∃ u, u = u4.setRow GA (plC (.slice va zs.length vc) zb zo) := ⟨_, rfl⟩
            have S5 := bset S4 (g := GA) hle (plC (.slice va zs.length vc) zb zo)
            have N5 := N4.setRow (plC (.slice va zs.length vc) zb zo)
            have O5 := O4.setRow_other (g := GA) hq9 (plC (.slice va zs.length vc) zb zo)
            rw [← hu5] at S5 N5 O5
            refine op_skip (w' := u5) rfl rfl (by rw [hu5]; exact store_fresh rfl 3 (plC_size _ _ _) (plC_size _ _ _) (by kernel_rfl) (pl_one _ (sl_one _ _ _) _ _) _ _ _ (by kernel_rfl) (by kernel_rfl) N4) ⟨S5, ?_⟩
            clear hu5
            refine wpAnyH_take (i := 12) (v := .int .i64 cd) rfl (by kernel_rfl) (by kernel_rfl) (by kernel_rfl) (fun _ _ _ h => h) (yif rfl fun w2 hw2 => by kernel_rfl) (by assumption) ?_
            refine wpAnyH_done (by kernel_rfl) ?_ _
            go_simp
            exact key GA GX va vc u5 ⟨N5, O5, S5⟩
        · obtain ⟨GA, hGA⟩ : ∃ g, g = u1.heap.size := ⟨_, rfl⟩
          obtain ⟨u2, hu2⟩ : ∃ u, u = u1.alloc (.cells (#[.slice none 0 0, .int .i64 0, .int .i64 0]) 28) := ⟨_, rfl⟩
          have S2 := bnew S1 (.cells (#[.slice none 0 0, .int .i64 0, .int .i64 0]) 28)
          have N2 : At (u1.alloc (.cells (#[.slice none 0 0, .int .i64 0, .int .i64 0]) 28)) u1.heap.size (plC (.slice none 0 0) 0 0) 28 := At.new u1 (#[.slice none 0 0, .int .i64 0, .int .i64 0]) 28
          have hle := S1.size
          have X2 := X1.alloc (.cells (#[.slice none 0 0, .int .i64 0, .int .i64 0]) 28)
          rw [← hu2] at S2 N2 X2
          rw [← hGA] at N2 hle
          refine op_value (v := .pointer (some ⟨GA, 0, none⟩)) (w' := u2) rfl rfl (by rw [hu2, hGA]; kernel_rfl) ⟨S2, ?_⟩
          clear hu2 hGA
          refine wpAnyH_all (rs := [3]) (by kernel_rfl) (by simp) fun i9 hi9 => ?_
          obtain rfl := one_of hi9
          refine op_call (f := 8) (args := #[.agg (fl ds)]) rfl rfl (by kernel_rfl) ((toFloat32A8_any ds hl u2).mono ?_)
          rintro e u3 ⟨rfl, hb2⟩
          have X3 := X2.step hb2
          have N3 := N2.step hb2
          have S3 := bthen S2 hb2
          refine ⟨_, rfl, S3, ?_⟩
          refine wpAnyH_all (rs := [6]) (by kernel_rfl) (by simp) fun i9 hi9 => ?_
          obtain rfl := one_of hi9
          refine op_call (f := 9) (args := #[.slice (some ⟨GX, 0, none⟩) ps.length ps.length, .agg (fl ds), .int .i64 cy, .int .i64 bt]) rfl rfl (by kernel_rfl) ((KI _ u3 X3).mono ?_)
          rintro e u4 ⟨⟨v, rfl, O4⟩, hb3⟩
          have X4 := X3.step hb3
          have N4 := N3.step hb3
          have S4 := bthen S3 hb3
          have hO3 := fun q hq => (O4.block q hq).1
          replace O4 := O4.low (lo' := w14.heap.size) S3.size
          obtain ⟨va, vc, rfl⟩ := O4.any
          have hq9 : ∀ q, (Value.slice va zs.length vc).ownBlock = some q → q ≠ GA := fun q hq => by have := hO3 q hq; have := N3.lt; omega
          refine ⟨_, rfl, S4, ?_⟩
          refine wpAnyH_take (i := 7) (v := .tuple #[.agg (plC (.slice va zs.length vc) zb zo), .int .i64 cd]) rfl (by kernel_rfl) (by kernel_rfl) (by kernel_rfl) (fun _ _ _ h => h) (yif rfl fun w2 hw2 => by kernel_rfl) (by assumption) ?_
          refine wpAnyH_take (i := 8) (v := .agg (plC (.slice va zs.length vc) zb zo)) rfl (by kernel_rfl) (by kernel_rfl) (by kernel_rfl) (fun _ _ _ h => h) (yif rfl fun w2 hw2 => by kernel_rfl) (by assumption) ?_
          refine wpAnyH_take (i := 9) (v := .int .i64 cd) rfl (by kernel_rfl) (by kernel_rfl) (by kernel_rfl) (fun _ _ _ h => h) (yif rfl fun w2 hw2 => by kernel_rfl) (by assumption) ?_
          refine wpAnyH_all (rs := [11]) (by kernel_rfl) (by simp) fun i9 hi9 => ?_
          obtain rfl := one_of hi9
          obtain ⟨u5, hu5⟩ : ∃ u, u = u4.setRow GA (plC (.slice va zs.length vc) zb zo) := ⟨_, rfl⟩
          have S5 := bset S4 (g := GA) hle (plC (.slice va zs.length vc) zb zo)
          have N5 := N4.setRow (plC (.slice va zs.length vc) zb zo)
          have O5 := O4.setRow_other (g := GA) hq9 (plC (.slice va zs.length vc) zb zo)
          rw [← hu5] at S5 N5 O5
          refine op_skip (w' := u5) rfl rfl (by rw [hu5]; exact store_fresh rfl 3 (plC_size _ _ _) (plC_size _ _ _) (by kernel_rfl) (pl_one _ (sl_one _ _ _) _ _) _ _ _ (by kernel_rfl) (by kernel_rfl) N4) ⟨S5, ?_⟩
          clear hu5
          refine wpAnyH_take (i := 12) (v := .int .i64 cd) rfl (by kernel_rfl) (by kernel_rfl) (by kernel_rfl) (fun _ _ _ h => h) (yif rfl fun w2 hw2 => by kernel_rfl) (by assumption) ?_
          refine wpAnyH_done (by kernel_rfl) ?_ _
          go_simp
          exact key GA GX va vc u5 ⟨N5, O5, S5⟩
      · obtain ⟨GA, hGA⟩ : ∃ g, g = u0.heap.size := ⟨_, rfl⟩
        obtain ⟨u1, hu1⟩ : ∃ u, u = u0.alloc (.cells (#[.slice none 0 0, .int .i64 0, .int .i64 0]) 28) := ⟨_, rfl⟩
        have S1 := bnew S0 (.cells (#[.slice none 0 0, .int .i64 0, .int .i64 0]) 28)
        have N1 : At (u0.alloc (.cells (#[.slice none 0 0, .int .i64 0, .int .i64 0]) 28)) u0.heap.size (plC (.slice none 0 0) 0 0) 28 := At.new u0 (#[.slice none 0 0, .int .i64 0, .int .i64 0]) 28
        have hle := S0.size
        rw [← hu1] at S1 N1 
        rw [← hGA] at N1 hle
        refine op_value (v := .pointer (some ⟨GA, 0, none⟩)) (w' := u1) rfl rfl (by rw [hu1, hGA]; kernel_rfl) ⟨S1, ?_⟩
        clear hu1 hGA
        refine wpAnyH_all (rs := [1]) (by kernel_rfl) (by simp) fun i9 hi9 => ?_
        obtain rfl := one_of hi9
        refine op_call (f := 7) (args := #[.slice a0 ps.length c0]) rfl rfl (by kernel_rfl) ((toPhaseS_any _ ps u1 (HF.out.step (Nat.le_refl _) (bthen B14.out S1)) hn).mono ?_)
        rintro e u2 ⟨rfl, X2, hb1⟩
        have N2 := N1.step hb1
        have S2 := bthen S1 hb1
        obtain ⟨GX, hGX⟩ : ∃ g, g = u1.heap.size := ⟨_, rfl⟩
        rw [← hGX] at X2 ⊢
        clear hGX
        refine ⟨_, rfl, S2, ?_⟩
        refine wpAnyH_all (rs := [3]) (by kernel_rfl) (by simp) fun i9 hi9 => ?_
        obtain rfl := one_of hi9
        refine op_call (f := 8) (args := #[.agg (fl ds)]) rfl rfl (by kernel_rfl) ((toFloat32A8_any ds hl u2).mono ?_)
        rintro e u3 ⟨rfl, hb2⟩
        have N3 := N2.step hb2
        have X3 := X2.step hb2
        have S3 := bthen S2 hb2
        refine ⟨_, rfl, S3, ?_⟩
        refine wpAnyH_all (rs := [6]) (by kernel_rfl) (by simp) fun i9 hi9 => ?_
        obtain rfl := one_of hi9
        refine op_call (f := 9) (args := #[.slice (some ⟨GX, 0, none⟩) ps.length ps.length, .agg (fl ds), .int .i64 cy, .int .i64 bt]) rfl rfl (by kernel_rfl) ((KI _ u3 X3).mono ?_)
        rintro e u4 ⟨⟨v, rfl, O4⟩, hb3⟩
        have N4 := N3.step hb3
        have X4 := X3.step hb3
        have S4 := bthen S3 hb3
        have hO3 := fun q hq => (O4.block q hq).1
        replace O4 := O4.low (lo' := w14.heap.size) S3.size
        obtain ⟨va, vc, rfl⟩ := O4.any
        have hq9 : ∀ q, (Value.slice va zs.length vc).ownBlock = some q → q ≠ GA := fun q hq => by have := hO3 q hq; have := N3.lt; omega
        refine ⟨_, rfl, S4, ?_⟩
        refine wpAnyH_take (i := 7) (v := .tuple #[.agg (plC (.slice va zs.length vc) zb zo), .int .i64 cd]) rfl (by kernel_rfl) (by kernel_rfl) (by kernel_rfl) (fun _ _ _ h => h) (yif rfl fun w2 hw2 => by kernel_rfl) (by assumption) ?_
        refine wpAnyH_take (i := 8) (v := .agg (plC (.slice va zs.length vc) zb zo)) rfl (by kernel_rfl) (by kernel_rfl) (by kernel_rfl) (fun _ _ _ h => h) (yif rfl fun w2 hw2 => by kernel_rfl) (by assumption) ?_
        refine wpAnyH_take (i := 9) (v := .int .i64 cd) rfl (by kernel_rfl) (by kernel_rfl) (by kernel_rfl) (fun _ _ _ h => h) (yif rfl fun w2 hw2 => by kernel_rfl) (by assumption) ?_
        refine wpAnyH_all (rs := [11]) (by kernel_rfl) (by simp) fun i9 hi9 => ?_
        obtain rfl := one_of hi9
        obtain ⟨u5, hu5⟩ : ∃ u, u = u4.setRow GA (plC (.slice va zs.length vc) zb zo) := ⟨_, rfl⟩
        have S5 := bset S4 (g := GA) hle (plC (.slice va zs.length vc) zb zo)
        have N5 := N4.setRow (plC (.slice va zs.length vc) zb zo)
        have O5 := O4.setRow_other (g := GA) hq9 (plC (.slice va zs.length vc) zb zo)
        rw [← hu5] at S5 N5 O5
        refine op_skip (w' := u5) rfl rfl (by rw [hu5]; exact store_fresh rfl 3 (plC_size _ _ _) (plC_size _ _ _) (by kernel_rfl) (pl_one _ (sl_one _ _ _) _ _) _ _ _ (by kernel_rfl) (by kernel_rfl) N4) ⟨S5, ?_⟩
        clear hu5
        refine wpAnyH_take (i := 12) (v := .int .i64 cd) rfl (by kernel_rfl) (by kernel_rfl) (by kernel_rfl) (fun _ _ _ h => h) (yif rfl fun w2 hw2 => by kernel_rfl) (by assumption) ?_
        refine wpAnyH_done (by kernel_rfl) ?_ _
        go_simp
        exact key GA GX va vc u5 ⟨N5, O5, S5⟩
    intro GH GX3 va3 vc3 w17 hh
    obtain ⟨Hp, O3, hb17⟩ := hh
    replace S := S.step hb17
    replace O1 := O1.step hb17
    replace Gp := Gp.step hb17
    replace B := Lib.hid (bthen B.out hb17)
    replace C13 := Lib.hid (bthen C13.out hb17)
    clear hb17 A B14
    go_wp2_with (first | ((with_reducible refine is_load 28 _ rfl ?_); refine wpList_load_at rfl 28 _ rfl _ rfl ((plC (.slice va3 zs.length vc3) zb zo)) _ (by with_reducible assumption) 3 (plC_size _ _ _) _ Try.underlying28 rfl (by kernel_rfl) ?_) | ((with_reducible refine is_load 28 _ rfl ?_); refine wpList_load_at rfl 28 _ rfl _ rfl ((plC (.slice va1 zs.length vc1) zb zo)) _ (by with_reducible assumption) 3 (plC_size _ _ _) _ Try.underlying28 rfl (by kernel_rfl) ?_))
    refine (eqPlan_st va3 va1 vc3 vc1 zs zb zo hyl w17 (O3.st HY.out hym) (O1.st HY.out hym)).mono ?_
    rintro e w18 ⟨rfl, hb18⟩
    replace Gp := Gp.step hb18
    replace B := Lib.hid (bthen B.out hb18)
    replace C13 := Lib.hid (bthen C13.out hb18)
    clear hb18 S O1 O3 Hp
    go_wp2_with (((with_reducible refine is_load 28 _ rfl ?_); refine wpList_load_at rfl 28 _ rfl _ rfl ((plC (.slice va2 zs.length vc2) zb zo)) _ (by with_reducible assumption) 3 (plC_size _ _ _) _ Try.underlying28 rfl (by kernel_rfl) ?_))
    refine (heldPlan_of va2 zs.length vc2 zb zo M hM0 _ w18 (KH _ (bnew C13.out _))).mono ?_
    rintro e w19 ⟨rfl, rfl⟩
    go_wp2_with fail
    go_ret
    exact ⟨rfl, bnew B.out _⟩
  · rw [if_pos (by omega)] at K
    go_enter Try.func3, Try.ntmps3
    go_wp2_with fail
    refine K.mono ?_
    rintro e w1 ⟨rfl, hb1⟩
    go_wp2_with fail
    go_ret
    exact ⟨rfl, bthen B.out hb1⟩

set_option maxRecDepth 100000 in
theorem lifted (os : Os) (started : os.Started) (H : Type) (enc : TypeId × Value → H) :
    ReturnsInHanded {} Try.checked os 3 .any (Rows.fnExactShareGreenSpec.pre6 enc Try.prog Try.f3 Rows.fnExactShareGreenRow.domain false) (Rows.fnExactShareGreenSpec.post enc Try.prog Try.f3 false true false false) := by
  refine law_liftedS enc os started (by kernel_rfl) Try.func3
    (ChangeSpec.witness6 (enc := enc) (C := Try.checked) false ⟨#[], #[.slice none 0 0, .agg (Array.replicate 8 (.float .f32 0)), .int .i64 0, .int .i64 0], []⟩ 24 (by kernel_rfl) (by kernel_rfl) (by kernel_rfl) (by kernel_rfl)) rfl (by kernel_rfl) ?_ ?_ ?_
  · rw [Try.params3]
    intro t ht
    have hall : (#[22, 24, 2, 2].toList.all fun u => Try.prog.readableRec u && decide (u < Try.prog.types.size)) = true := by kernel_rfl
    have := List.all_eq_true.1 hall t ht
    simpa using this
  · intro ds h
    rw [Try.params3] at h
    match ds, h with
    | [d0, d1, d2, d3], _ => rfl
  · intro W base args ds ps hl hval hA
    rw [Try.params3] at hl hval hA
    obtain ⟨v0, v1, v2, v3, rfl⟩ : ∃ v0 v1 v2 v3, args = #[v0, v1, v2, v3] := by
      obtain ⟨l⟩ := args
      match l, hl with
      | [v0, v1, v2, v3], _ => exact ⟨v0, v1, v2, v3, rfl⟩
    obtain ⟨vx0, vy0, dd0, de0, pp0, pq0, ee0, -, -, tr0, rr0⟩ := trodAll_cons hA
    obtain ⟨rfl, rfl⟩ := List.cons.inj ee0
    obtain ⟨vx1, vy1, dd1, de1, pp1, pq1, ee1, -, -, tr1, rr1⟩ := trodAll_cons rr0
    obtain ⟨rfl, rfl⟩ := List.cons.inj ee1
    obtain ⟨vx2, vy2, dd2, de2, pp2, pq2, ee2, -, -, tr2, rr2⟩ := trodAll_cons rr1
    obtain ⟨rfl, rfl⟩ := List.cons.inj ee2
    obtain ⟨vx3, vy3, dd3, de3, pp3, pq3, ee3, -, -, tr3, rr3⟩ := trodAll_cons rr2
    obtain ⟨rfl, rfl⟩ := List.cons.inj ee3
    obtain ⟨x0, h0⟩ := shape_phases (okWide_slice Try.underlying22 (hval 0 _ _ rfl rfl)) tr0
    obtain ⟨c1, rfl, hl1, hc1⟩ := shape_fl (n := 8) Try.underlying24 rfl (by kernel_rfl) (by kernel_rfl) (hval 1 _ _ rfl rfl)
    obtain ⟨x2, rfl, h2⟩ := shape_i64 (hval 2 _ _ rfl rfl)
    obtain ⟨x3, rfl, h3⟩ := shape_i64 (hval 3 _ _ rfl rfl)
    exact walk W v0 x0 h0 c1 hl1 hc1 x2 h2 x3 h3

/-- THE STATEMENT -/
theorem proved : Rows.FnExactShareGreenSaid := by
  first
    | (refine OpenClaim.holds_of_wide 3 Try.f3 rfl rfl rfl rfl rfl rfl rfl ⟨rfl, rfl, rfl, rfl, rfl⟩ rfl rfl rfl rfl rfl (by kernel_rfl) Try.func3 (by kernel_rfl) (of_decide_eq_true (by kernel_rfl)) ?_ (fun os started H enc _ => lifted os started H enc))
    | (refine OpenClaim.holds_of_wide_leaving 3 Try.f3 rfl rfl rfl rfl rfl rfl rfl ⟨rfl, rfl, rfl, rfl, rfl⟩ rfl rfl rfl rfl rfl (by kernel_rfl) Try.func3 (by kernel_rfl) (of_decide_eq_true (by kernel_rfl)) ?_ (fun os started H enc _ => leaving_of_handed (lifted os started H enc)))
  unfold Func.isWrapper
  first | (rw [if_pos (by decide +kernel)]; kernel_rfl) | (rw [if_neg (by decide +kernel)]; exact ⟨rfl, rfl⟩)
#print axioms proved
end Go.Proofs.Ytlpbehokcogcpaa.lawFnExactShareGreen
