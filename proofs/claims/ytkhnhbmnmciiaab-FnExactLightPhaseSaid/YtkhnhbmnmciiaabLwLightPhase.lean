/-
  FnExactLightPhase: the program's LightPhase answers as its model, at every plan and light. No condition.
-/
import Derived.Test.YtkhnhbmnmciiaabLightI
import Derived.Test.YtkhnhbmnmciiaabShLight
import Derived.Test.YtkhnhbmnmciiaabShPlan
import Derived.Test.YtkhnhbmnmciiaabLawS
import Derived.Test.YtkhnhbmnmciiaabHeldOps
import Derived.Test.YtkhnhbmnmciiaabPiece
namespace Go.Proofs.Ytkhnhbmnmciiaab.lawFnExactLightPhase
open Go Go.ChangeShapes Go.WideShapes Go.ChangeAt Go.RowKit

set_option maxRecDepth 100000
set_option maxHeartbeats 2000000 in
theorem walk (w : World) (a : Option Addr) (cap : Nat) (xs : Slots) (b o : Int) (hF : SSl w (.slice a xs.length cap) xs) (_hb : I64 b) (_ho : I64 o) (s n : Int) (r : Bool) :
    Calls Try.prog 13 #[.agg (plC (.slice a xs.length cap) b o), .agg (ltC s n r)] w (True? w) := by
  have A0 : At ((w.alloc (.cells (plC (.slice a xs.length cap) b o) 24)).alloc (.cells (ltC s n r) 73)) w.heap.size (plC (.slice a xs.length cap) b o) 24 := (At.new w _ _).alloc _
  have L0 : At ((w.alloc (.cells (plC (.slice a xs.length cap) b o) 24)).alloc (.cells (ltC s n r) 73)) (w.heap.size + 1) (ltC s n r) 73 := At.last1 w _ _ _
  have B0 := Lib.hid (bnew (b0 w (.cells (plC (.slice a xs.length cap) b o) 24)) (.cells (ltC s n r) 73))
  have F0 := hF.step (Nat.le_refl _) B0.out
  have hW := hF.wf
  have hlen : xs.length ≤ 9223372036854775807 := Nat.le_trans hF.len (by decide)
  have K := szPlan_any a xs.length cap b o 1048576 (by omega) hF.len
  by_cases hn : xs.length ≤ 1048576
  · have KS0 := fun G w hA => sLightPhase_any G xs b o hF.wf 90 s n r hn w hA
    have KI0 := fun G w hA => LightPhase_any G xs b o hF.wf 90 s n r hn w hA
    have hl8 : (vLp xs b o s n r).1.length = 8 := vLp_len hF.wf
    generalize (vLp xs b o s n r).1 = rw8 at KS0 KI0 hl8
    generalize (vLp xs b o s n r).2 = v0 at KS0 KI0
    have SZV : (bl rw8).size = 8 := by rw [bl_size, hl8]
    rw [if_neg (by omega)] at K
    have hnn : ¬ (1048576 - ((xs.length : Nat) : Int) < 0) := by omega
    go_enter Try.func13, Try.ntmps13
    go_wp2_with (((with_reducible refine is_load 24 _ rfl ?_); refine wpList_load_at rfl 24 _ rfl _ rfl ((plC (.slice a xs.length cap) b o)) _ (by with_reducible assumption) 3 (plC_size _ _ _) _ Try.underlying24 rfl (by kernel_rfl) ?_))
    refine (K _).mono ?_
    rintro e w1 ⟨rfl, hb1⟩
    have A1 := A0.step hb1
    have L1 := L0.step hb1
    have F1 := F0.step (Nat.le_refl _) hb1
    have B1 := Lib.hid (bthen B0.out hb1)
    clear A0 L0 F0 B0 hb1 K
    go_wp2
    apply share3 (H := fun GA _ w9 => At w9 GA (bl rw8) 36 ∧ Below w1.heap.size w1 w9) (fun key => ?main)
    case main =>
      refine wp_region_held (S := fun w' => Below w1.heap.size w1 w') (by kernel_rfl) ?_
      show wpAnyH _ _ _ _ _ 11 (Array.replicate 11 false) _ _
      have S0 : Below w1.heap.size w1 { w1 with drawn := w1.drawn + 1 } := bdrew (Below.refl _ w1) 1
      generalize hw0 : ({ w1 with drawn := w1.drawn + 1 } : World) = u0 at S0 ⊢
      clear hw0
      refine wpAnyH_take (i := 0) (v := .agg (plC (.slice a xs.length cap) b o)) rfl (by kernel_rfl) (by kernel_rfl) (by kernel_rfl) (fun _ _ _ h => h) (yif rfl fun w' hw' => x_load 24 (.tmp 2) rfl ⟨w.heap.size, 0, none⟩ (by kernel_rfl) (run_plan 24 _ (A1.step hw') Try.underlying24 (by kernel_rfl))) (by assumption) ?_
      refine wpAnyH_take (i := 2) (v := .agg (ltC s n r)) rfl (by kernel_rfl) (by kernel_rfl) (by kernel_rfl) (fun _ _ _ h => h) (yif rfl fun w' hw' => x_load 73 (.tmp 3) rfl ⟨w.heap.size + 1, 0, none⟩ (by kernel_rfl) (run_light 73 _ (L1.step hw') Try.underlying73 (by kernel_rfl))) (by assumption) ?_
      refine wpAnyH_all (rs := [1, 8]) (by kernel_rfl) (by simp) fun i9 hi9 => ?_
      rcases two_of hi9 with rfl | rfl
      · refine op_call (f := 17) (args := #[.agg (plC (.slice a xs.length cap) b o)]) rfl rfl (by kernel_rfl) ((toPlan_any a cap xs b o u0 (F1.step (Nat.le_refl _) S0) hn).mono ?_)
        rintro e u1 ⟨G8, rfl, hG8, -, hb0⟩
        have HG8 := hG8
        have S1 := bthen S0 hb0
        refine ⟨_, rfl, S1, ?_⟩
        refine wpAnyH_all (rs := [3, 8]) (by kernel_rfl) (by simp) fun i9 hi9 => ?_
        rcases two_of hi9 with rfl | rfl
        · refine op_call (f := 55) (args := #[.agg (ltC s n r)]) rfl rfl (by kernel_rfl) ((toLight_any s n r u1).mono ?_)
          rintro e u2 ⟨rfl, hb1⟩
          try replace HG8 := HG8.step hb1
          have S2 := bthen S1 hb1
          refine ⟨_, rfl, S2, ?_⟩
          refine wpAnyH_all (rs := [4, 8]) (by kernel_rfl) (by simp) fun i9 hi9 => ?_
          rcases two_of hi9 with rfl | rfl
          · refine op_call (f := 54) (args := #[.agg (plC (.slice (some ⟨G8, 0, none⟩) xs.length xs.length) b o), .agg (ltC s n r)]) rfl rfl (by kernel_rfl) ((KS0 G8 u2 HG8).mono ?_)
            rintro e u3 ⟨rfl, hb2⟩
            try replace HG8 := HG8.step hb2
            have S3 := bthen S2 hb2
            refine ⟨_, rfl, S3, ?_⟩
            refine wpAnyH_take (i := 5) (v := .tuple #[.agg (bl rw8), .int .i64 v0]) rfl (by kernel_rfl) (by kernel_rfl) (by kernel_rfl) (fun _ _ _ h => h) (yif rfl fun w2 hw2 => by kernel_rfl) (by assumption) ?_
            refine wpAnyH_take (i := 6) (v := .agg (bl rw8)) rfl (by kernel_rfl) (by kernel_rfl) (by kernel_rfl) (fun _ _ _ h => h) (yif rfl fun w2 hw2 => by kernel_rfl) (by assumption) ?_
            refine wpAnyH_take (i := 7) (v := .int .i64 v0) rfl (by kernel_rfl) (by kernel_rfl) (by kernel_rfl) (fun _ _ _ h => h) (yif rfl fun w2 hw2 => by kernel_rfl) (by assumption) ?_
            refine wpAnyH_all (rs := [8]) (by kernel_rfl) (by simp) fun i9 hi9 => ?_
            obtain rfl := one_of hi9
            obtain ⟨GA, hGA⟩ : ∃ g, g = u3.heap.size := ⟨_, rfl⟩
            obtain ⟨u4, hu4⟩ : ∃ u, u = u3.alloc (.cells #[.bool false, .bool false, .bool false, .bool false, .bool false, .bool false, .bool false, .bool false] 36) := ⟨_, rfl⟩
            have S4 := bnew S3 (.cells #[.bool false, .bool false, .bool false, .bool false, .bool false, .bool false, .bool false, .bool false] 36)
            have N4 := At.new u3 #[.bool false, .bool false, .bool false, .bool false, .bool false, .bool false, .bool false, .bool false] 36
            try replace HG8 := HG8.alloc (.cells #[.bool false, .bool false, .bool false, .bool false, .bool false, .bool false, .bool false, .bool false] 36)
            have hle := S3.size
            rw [← hu4] at S4 N4
            try rw [← hu4] at HG8
            rw [← hGA] at N4 hle
            refine op_value (v := .pointer (some ⟨GA, 0, none⟩)) (w' := u4) rfl rfl (by rw [hu4, hGA]; kernel_rfl) ⟨S4, ?_⟩
            clear hu4 hGA
            refine wpAnyH_all (rs := [9]) (by kernel_rfl) (by simp) fun i9 hi9 => ?_
            obtain rfl := one_of hi9
            obtain ⟨u5, hu5⟩ : ∃ u, u = u4.setRow GA (bl rw8) := ⟨_, rfl⟩
            have S5 := bset S4 (g := GA) hle (bl rw8)
            have N5 := N4.setRow (bl rw8)
            rw [← hu5] at S5 N5
            try rw [← hu5] at HG8
            refine op_skip (w' := u5) rfl rfl (by rw [hu5]; exact store_fresh rfl 8 SZV rfl (by kernel_rfl) (bl_one _) _ _ _ (by kernel_rfl) (by kernel_rfl) N4) ⟨S5, ?_⟩
            clear hu5
            refine wpAnyH_take (i := 10) (v := .int .i64 v0) rfl (by kernel_rfl) (by kernel_rfl) (by kernel_rfl) (fun _ _ _ h => h) (yif rfl fun w2 hw2 => by kernel_rfl) (by assumption) ?_
            refine wpAnyH_done (by kernel_rfl) ?_ _
            go_simp
            exact key GA G8 u5 ⟨N5, S5⟩
          · obtain ⟨GA, hGA⟩ : ∃ g, g = u2.heap.size := ⟨_, rfl⟩
            obtain ⟨u3, hu3⟩ : ∃ u, u = u2.alloc (.cells #[.bool false, .bool false, .bool false, .bool false, .bool false, .bool false, .bool false, .bool false] 36) := ⟨_, rfl⟩
            have S3 := bnew S2 (.cells #[.bool false, .bool false, .bool false, .bool false, .bool false, .bool false, .bool false, .bool false] 36)
            have N3 := At.new u2 #[.bool false, .bool false, .bool false, .bool false, .bool false, .bool false, .bool false, .bool false] 36
            try replace HG8 := HG8.alloc (.cells #[.bool false, .bool false, .bool false, .bool false, .bool false, .bool false, .bool false, .bool false] 36)
            have hle := S2.size
            rw [← hu3] at S3 N3
            try rw [← hu3] at HG8
            rw [← hGA] at N3 hle
            refine op_value (v := .pointer (some ⟨GA, 0, none⟩)) (w' := u3) rfl rfl (by rw [hu3, hGA]; kernel_rfl) ⟨S3, ?_⟩
            clear hu3 hGA
            refine wpAnyH_all (rs := [4]) (by kernel_rfl) (by simp) fun i9 hi9 => ?_
            obtain rfl := one_of hi9
            refine op_call (f := 54) (args := #[.agg (plC (.slice (some ⟨G8, 0, none⟩) xs.length xs.length) b o), .agg (ltC s n r)]) rfl rfl (by kernel_rfl) ((KS0 G8 u3 HG8).mono ?_)
            rintro e u4 ⟨rfl, hb3⟩
            try replace HG8 := HG8.step hb3
            have S4 := bthen S3 hb3
            have N4 := N3.step hb3
            refine ⟨_, rfl, S4, ?_⟩
            refine wpAnyH_take (i := 5) (v := .tuple #[.agg (bl rw8), .int .i64 v0]) rfl (by kernel_rfl) (by kernel_rfl) (by kernel_rfl) (fun _ _ _ h => h) (yif rfl fun w2 hw2 => by kernel_rfl) (by assumption) ?_
            refine wpAnyH_take (i := 6) (v := .agg (bl rw8)) rfl (by kernel_rfl) (by kernel_rfl) (by kernel_rfl) (fun _ _ _ h => h) (yif rfl fun w2 hw2 => by kernel_rfl) (by assumption) ?_
            refine wpAnyH_take (i := 7) (v := .int .i64 v0) rfl (by kernel_rfl) (by kernel_rfl) (by kernel_rfl) (fun _ _ _ h => h) (yif rfl fun w2 hw2 => by kernel_rfl) (by assumption) ?_
            refine wpAnyH_all (rs := [9]) (by kernel_rfl) (by simp) fun i9 hi9 => ?_
            obtain rfl := one_of hi9
            obtain ⟨u5, hu5⟩ : ∃ u, u = u4.setRow GA (bl rw8) := ⟨_, rfl⟩
            have S5 := bset S4 (g := GA) hle (bl rw8)
            have N5 := N4.setRow (bl rw8)
            rw [← hu5] at S5 N5
            try rw [← hu5] at HG8
            refine op_skip (w' := u5) rfl rfl (by rw [hu5]; exact store_fresh rfl 8 SZV rfl (by kernel_rfl) (bl_one _) _ _ _ (by kernel_rfl) (by kernel_rfl) N4) ⟨S5, ?_⟩
            clear hu5
            refine wpAnyH_take (i := 10) (v := .int .i64 v0) rfl (by kernel_rfl) (by kernel_rfl) (by kernel_rfl) (fun _ _ _ h => h) (yif rfl fun w2 hw2 => by kernel_rfl) (by assumption) ?_
            refine wpAnyH_done (by kernel_rfl) ?_ _
            go_simp
            exact key GA G8 u5 ⟨N5, S5⟩
        · obtain ⟨GA, hGA⟩ : ∃ g, g = u1.heap.size := ⟨_, rfl⟩
          obtain ⟨u2, hu2⟩ : ∃ u, u = u1.alloc (.cells #[.bool false, .bool false, .bool false, .bool false, .bool false, .bool false, .bool false, .bool false] 36) := ⟨_, rfl⟩
          have S2 := bnew S1 (.cells #[.bool false, .bool false, .bool false, .bool false, .bool false, .bool false, .bool false, .bool false] 36)
          have N2 := At.new u1 #[.bool false, .bool false, .bool false, .bool false, .bool false, .bool false, .bool false, .bool false] 36
          try replace HG8 := HG8.alloc (.cells #[.bool false, .bool false, .bool false, .bool false, .bool false, .bool false, .bool false, .bool false] 36)
          have hle := S1.size
          rw [← hu2] at S2 N2
          try rw [← hu2] at HG8
          rw [← hGA] at N2 hle
          refine op_value (v := .pointer (some ⟨GA, 0, none⟩)) (w' := u2) rfl rfl (by rw [hu2, hGA]; kernel_rfl) ⟨S2, ?_⟩
          clear hu2 hGA
          refine wpAnyH_all (rs := [3]) (by kernel_rfl) (by simp) fun i9 hi9 => ?_
          obtain rfl := one_of hi9
          refine op_call (f := 55) (args := #[.agg (ltC s n r)]) rfl rfl (by kernel_rfl) ((toLight_any s n r u2).mono ?_)
          rintro e u3 ⟨rfl, hb2⟩
          try replace HG8 := HG8.step hb2
          have S3 := bthen S2 hb2
          have N3 := N2.step hb2
          refine ⟨_, rfl, S3, ?_⟩
          refine wpAnyH_all (rs := [4]) (by kernel_rfl) (by simp) fun i9 hi9 => ?_
          obtain rfl := one_of hi9
          refine op_call (f := 54) (args := #[.agg (plC (.slice (some ⟨G8, 0, none⟩) xs.length xs.length) b o), .agg (ltC s n r)]) rfl rfl (by kernel_rfl) ((KS0 G8 u3 HG8).mono ?_)
          rintro e u4 ⟨rfl, hb3⟩
          try replace HG8 := HG8.step hb3
          have S4 := bthen S3 hb3
          have N4 := N3.step hb3
          refine ⟨_, rfl, S4, ?_⟩
          refine wpAnyH_take (i := 5) (v := .tuple #[.agg (bl rw8), .int .i64 v0]) rfl (by kernel_rfl) (by kernel_rfl) (by kernel_rfl) (fun _ _ _ h => h) (yif rfl fun w2 hw2 => by kernel_rfl) (by assumption) ?_
          refine wpAnyH_take (i := 6) (v := .agg (bl rw8)) rfl (by kernel_rfl) (by kernel_rfl) (by kernel_rfl) (fun _ _ _ h => h) (yif rfl fun w2 hw2 => by kernel_rfl) (by assumption) ?_
          refine wpAnyH_take (i := 7) (v := .int .i64 v0) rfl (by kernel_rfl) (by kernel_rfl) (by kernel_rfl) (fun _ _ _ h => h) (yif rfl fun w2 hw2 => by kernel_rfl) (by assumption) ?_
          refine wpAnyH_all (rs := [9]) (by kernel_rfl) (by simp) fun i9 hi9 => ?_
          obtain rfl := one_of hi9
          obtain ⟨u5, hu5⟩ : ∃ u, u = u4.setRow GA (bl rw8) := ⟨_, rfl⟩
          have S5 := bset S4 (g := GA) hle (bl rw8)
          have N5 := N4.setRow (bl rw8)
          rw [← hu5] at S5 N5
          try rw [← hu5] at HG8
          refine op_skip (w' := u5) rfl rfl (by rw [hu5]; exact store_fresh rfl 8 SZV rfl (by kernel_rfl) (bl_one _) _ _ _ (by kernel_rfl) (by kernel_rfl) N4) ⟨S5, ?_⟩
          clear hu5
          refine wpAnyH_take (i := 10) (v := .int .i64 v0) rfl (by kernel_rfl) (by kernel_rfl) (by kernel_rfl) (fun _ _ _ h => h) (yif rfl fun w2 hw2 => by kernel_rfl) (by assumption) ?_
          refine wpAnyH_done (by kernel_rfl) ?_ _
          go_simp
          exact key GA G8 u5 ⟨N5, S5⟩
      · obtain ⟨GA, hGA⟩ : ∃ g, g = u0.heap.size := ⟨_, rfl⟩
        obtain ⟨u1, hu1⟩ : ∃ u, u = u0.alloc (.cells #[.bool false, .bool false, .bool false, .bool false, .bool false, .bool false, .bool false, .bool false] 36) := ⟨_, rfl⟩
        have S1 := bnew S0 (.cells #[.bool false, .bool false, .bool false, .bool false, .bool false, .bool false, .bool false, .bool false] 36)
        have N1 := At.new u0 #[.bool false, .bool false, .bool false, .bool false, .bool false, .bool false, .bool false, .bool false] 36
        try replace HG8 := HG8.alloc (.cells #[.bool false, .bool false, .bool false, .bool false, .bool false, .bool false, .bool false, .bool false] 36)
        have hle := S0.size
        rw [← hu1] at S1 N1
        try rw [← hu1] at HG8
        rw [← hGA] at N1 hle
        refine op_value (v := .pointer (some ⟨GA, 0, none⟩)) (w' := u1) rfl rfl (by rw [hu1, hGA]; kernel_rfl) ⟨S1, ?_⟩
        clear hu1 hGA
        refine wpAnyH_all (rs := [1]) (by kernel_rfl) (by simp) fun i9 hi9 => ?_
        obtain rfl := one_of hi9
        refine op_call (f := 17) (args := #[.agg (plC (.slice a xs.length cap) b o)]) rfl rfl (by kernel_rfl) ((toPlan_any a cap xs b o u1 (F1.step (Nat.le_refl _) S1) hn).mono ?_)
        rintro e u2 ⟨G8, rfl, hG8, -, hb1⟩
        have HG8 := hG8
        have S2 := bthen S1 hb1
        have N2 := N1.step hb1
        refine ⟨_, rfl, S2, ?_⟩
        refine wpAnyH_all (rs := [3]) (by kernel_rfl) (by simp) fun i9 hi9 => ?_
        obtain rfl := one_of hi9
        refine op_call (f := 55) (args := #[.agg (ltC s n r)]) rfl rfl (by kernel_rfl) ((toLight_any s n r u2).mono ?_)
        rintro e u3 ⟨rfl, hb2⟩
        try replace HG8 := HG8.step hb2
        have S3 := bthen S2 hb2
        have N3 := N2.step hb2
        refine ⟨_, rfl, S3, ?_⟩
        refine wpAnyH_all (rs := [4]) (by kernel_rfl) (by simp) fun i9 hi9 => ?_
        obtain rfl := one_of hi9
        refine op_call (f := 54) (args := #[.agg (plC (.slice (some ⟨G8, 0, none⟩) xs.length xs.length) b o), .agg (ltC s n r)]) rfl rfl (by kernel_rfl) ((KS0 G8 u3 HG8).mono ?_)
        rintro e u4 ⟨rfl, hb3⟩
        try replace HG8 := HG8.step hb3
        have S4 := bthen S3 hb3
        have N4 := N3.step hb3
        refine ⟨_, rfl, S4, ?_⟩
        refine wpAnyH_take (i := 5) (v := .tuple #[.agg (bl rw8), .int .i64 v0]) rfl (by kernel_rfl) (by kernel_rfl) (by kernel_rfl) (fun _ _ _ h => h) (yif rfl fun w2 hw2 => by kernel_rfl) (by assumption) ?_
        refine wpAnyH_take (i := 6) (v := .agg (bl rw8)) rfl (by kernel_rfl) (by kernel_rfl) (by kernel_rfl) (fun _ _ _ h => h) (yif rfl fun w2 hw2 => by kernel_rfl) (by assumption) ?_
        refine wpAnyH_take (i := 7) (v := .int .i64 v0) rfl (by kernel_rfl) (by kernel_rfl) (by kernel_rfl) (fun _ _ _ h => h) (yif rfl fun w2 hw2 => by kernel_rfl) (by assumption) ?_
        refine wpAnyH_all (rs := [9]) (by kernel_rfl) (by simp) fun i9 hi9 => ?_
        obtain rfl := one_of hi9
        obtain ⟨u5, hu5⟩ : ∃ u, u = u4.setRow GA (bl rw8) := ⟨_, rfl⟩
        have S5 := bset S4 (g := GA) hle (bl rw8)
        have N5 := N4.setRow (bl rw8)
        rw [← hu5] at S5 N5
        try rw [← hu5] at HG8
        refine op_skip (w' := u5) rfl rfl (by rw [hu5]; exact store_fresh rfl 8 SZV rfl (by kernel_rfl) (bl_one _) _ _ _ (by kernel_rfl) (by kernel_rfl) N4) ⟨S5, ?_⟩
        clear hu5
        refine wpAnyH_take (i := 10) (v := .int .i64 v0) rfl (by kernel_rfl) (by kernel_rfl) (by kernel_rfl) (fun _ _ _ h => h) (yif rfl fun w2 hw2 => by kernel_rfl) (by assumption) ?_
        refine wpAnyH_done (by kernel_rfl) ?_ _
        go_simp
        exact key GA G8 u5 ⟨N5, S5⟩
    rintro GA G8 w3 ⟨S3, hb3⟩
    have A3 := A1.step hb3
    have L3 := L1.step hb3
    have F3 := F1.step (Nat.le_refl _) hb3
    have B3 := Lib.hid (bthen B1.out hb3)
    clear A1 L1 F1 B1 hb3 KS0
    go_wp2_with (first | ((with_reducible refine is_load 24 _ rfl ?_); refine wpList_load_at rfl 24 _ rfl _ rfl ((plC (.slice a xs.length cap) b o)) _ (by with_reducible assumption) 3 (plC_size _ _ _) _ Try.underlying24 rfl (by kernel_rfl) ?_))
    refine (toPlan_any a cap xs b o _ F3 hn).mono ?_
    rintro e w4 ⟨G4, rfl, hG4, -, hb4⟩
    have A4 := A3.step hb4
    have L4 := L3.step hb4
    have F4 := F3.step (Nat.le_refl _) hb4
    have S4 := S3.step hb4
    have B4 := Lib.hid (bthen B3.out hb4)
    clear A3 L3 F3 B3 S3 hb4
    have X0 := At.new w4 #[.slice none 0 0, .int .i64 0, .int .i64 0] 29
    have XX := X0.setRow (plC (.slice (some ⟨G4, 0, none⟩) xs.length xs.length) b o)
    have AA := (A4.alloc (.cells #[.slice none 0 0, .int .i64 0, .int .i64 0] 29)).setRow_other (k := w4.heap.size) (Nat.ne_of_lt A4.lt) (plC (.slice (some ⟨G4, 0, none⟩) xs.length xs.length) b o)
    have LL := (L4.alloc (.cells #[.slice none 0 0, .int .i64 0, .int .i64 0] 29)).setRow_other (k := w4.heap.size) (Nat.ne_of_lt L4.lt) (plC (.slice (some ⟨G4, 0, none⟩) xs.length xs.length) b o)
    have SS := (S4.alloc (.cells #[.slice none 0 0, .int .i64 0, .int .i64 0] 29)).setRow_other (k := w4.heap.size) (Nat.ne_of_lt S4.lt) (plC (.slice (some ⟨G4, 0, none⟩) xs.length xs.length) b o)
    have GG := (hG4.alloc (.cells #[.slice none 0 0, .int .i64 0, .int .i64 0] 29)).setRow_other (k := w4.heap.size) (Nat.ne_of_lt hG4.lt) (plC (.slice (some ⟨G4, 0, none⟩) xs.length xs.length) b o)
    have BN : Below w4.heap.size w4 ((w4.alloc (.cells #[.slice none 0 0, .int .i64 0, .int .i64 0] 29)).setRow w4.heap.size (plC (.slice (some ⟨G4, 0, none⟩) xs.length xs.length) b o)) := bset (b0 _ _) (Nat.le_refl _) _
    have FF := F4.step (Nat.le_refl _) BN
    have BB := Lib.hid (bthen B4.out BN)
    clear A4 L4 F4 S4 B4 BN hG4
    go_wp2_with (first | ((with_reducible refine is_store 29 _ _ rfl ?_); refine wpList_store_at rfl 29 _ _ rfl _ rfl ((plC (.slice (some ⟨G4, 0, none⟩) xs.length xs.length) b o)) rfl (#[.slice none 0 0, .int .i64 0, .int .i64 0]) _ (by with_reducible assumption) 3 (plC_size _ _ _) (rfl) (by kernel_rfl) (pl_one _ (sl_one _ _ _) _ _) ?_))
    generalize hw5 : (w4.alloc (.cells #[.slice none 0 0, .int .i64 0, .int .i64 0] 29)).setRow w4.heap.size (plC (.slice (some ⟨G4, 0, none⟩) xs.length xs.length) b o) = w5 at XX AA LL SS GG FF BB ⊢
    have X5 := XX; have A5 := AA; have L5 := LL; have S5 := SS; have G5 := GG; have F5 := FF; have B5 := BB
    clear XX AA LL SS GG FF BB hw5 X0
    apply share2 (H := fun GB w9 => At w9 GB (bl rw8) 36 ∧ Below w5.heap.size w5 w9) (fun key => ?main)
    case main =>
      refine wp_region_held (S := fun w' => Below w5.heap.size w5 w') (by kernel_rfl) ?_
      show wpAnyH _ _ _ _ _ 10 (Array.replicate 10 false) _ _
      have S0 : Below w5.heap.size w5 { w5 with drawn := w5.drawn + 1 } := bdrew (Below.refl _ w5) 1
      generalize hw0 : ({ w5 with drawn := w5.drawn + 1 } : World) = u0 at S0 ⊢
      clear hw0
      refine wpAnyH_take (i := 0) (v := .agg (plC (.slice (some ⟨G4, 0, none⟩) xs.length xs.length) b o)) rfl (by kernel_rfl) (by kernel_rfl) (by kernel_rfl) (fun _ _ _ h => h) (yif rfl fun w' hw' => x_load 29 (.tmp 8) rfl ⟨w4.heap.size, 0, none⟩ (by kernel_rfl) (run_plan 29 _ (X5.step hw') Try.underlying29 (by kernel_rfl))) (by assumption) ?_
      refine wpAnyH_take (i := 1) (v := .agg (ltC s n r)) rfl (by kernel_rfl) (by kernel_rfl) (by kernel_rfl) (fun _ _ _ h => h) (yif rfl fun w' hw' => x_load 73 (.tmp 3) rfl ⟨w.heap.size + 1, 0, none⟩ (by kernel_rfl) (run_light 73 _ (L5.step hw') Try.underlying73 (by kernel_rfl))) (by assumption) ?_
      refine wpAnyH_all (rs := [2, 7]) (by kernel_rfl) (by simp) fun i9 hi9 => ?_
      rcases two_of hi9 with rfl | rfl
      · refine op_call (f := 55) (args := #[.agg (ltC s n r)]) rfl rfl (by kernel_rfl) ((toLight_any s n r u0).mono ?_)
        rintro e u1 ⟨rfl, hb0⟩
        have S1 := bthen S0 hb0
        refine ⟨_, rfl, S1, ?_⟩
        refine wpAnyH_all (rs := [3, 7]) (by kernel_rfl) (by simp) fun i9 hi9 => ?_
        rcases two_of hi9 with rfl | rfl
        · refine op_call (f := 56) (args := #[.agg (plC (.slice (some ⟨G4, 0, none⟩) xs.length xs.length) b o), .agg (ltC s n r)]) rfl rfl (by kernel_rfl) ((KI0 G4 u1 (G5.step S1)).mono ?_)
          rintro e u2 ⟨rfl, hb1⟩
          have S2 := bthen S1 hb1
          refine ⟨_, rfl, S2, ?_⟩
          refine wpAnyH_take (i := 4) (v := .tuple #[.agg (bl rw8), .int .i64 v0]) rfl (by kernel_rfl) (by kernel_rfl) (by kernel_rfl) (fun _ _ _ h => h) (yif rfl fun w2 hw2 => by kernel_rfl) (by assumption) ?_
          refine wpAnyH_take (i := 5) (v := .agg (bl rw8)) rfl (by kernel_rfl) (by kernel_rfl) (by kernel_rfl) (fun _ _ _ h => h) (yif rfl fun w2 hw2 => by kernel_rfl) (by assumption) ?_
          refine wpAnyH_take (i := 6) (v := .int .i64 v0) rfl (by kernel_rfl) (by kernel_rfl) (by kernel_rfl) (fun _ _ _ h => h) (yif rfl fun w2 hw2 => by kernel_rfl) (by assumption) ?_
          refine wpAnyH_all (rs := [7]) (by kernel_rfl) (by simp) fun i9 hi9 => ?_
          obtain rfl := one_of hi9
          obtain ⟨GB, hGA⟩ : ∃ g, g = u2.heap.size := ⟨_, rfl⟩
          obtain ⟨u3, hu3⟩ : ∃ u, u = u2.alloc (.cells #[.bool false, .bool false, .bool false, .bool false, .bool false, .bool false, .bool false, .bool false] 36) := ⟨_, rfl⟩
          have S3 := bnew S2 (.cells #[.bool false, .bool false, .bool false, .bool false, .bool false, .bool false, .bool false, .bool false] 36)
          have N3 := At.new u2 #[.bool false, .bool false, .bool false, .bool false, .bool false, .bool false, .bool false, .bool false] 36
          have hle := S2.size
          rw [← hu3] at S3 N3
          rw [← hGA] at N3 hle
          refine op_value (v := .pointer (some ⟨GB, 0, none⟩)) (w' := u3) rfl rfl (by rw [hu3, hGA]; kernel_rfl) ⟨S3, ?_⟩
          clear hu3 hGA
          refine wpAnyH_all (rs := [8]) (by kernel_rfl) (by simp) fun i9 hi9 => ?_
          obtain rfl := one_of hi9
          obtain ⟨u4, hu4⟩ : ∃ u, u = u3.setRow GB (bl rw8) := ⟨_, rfl⟩
          have S4 := bset S3 (g := GB) hle (bl rw8)
          have N4 := N3.setRow (bl rw8)
          rw [← hu4] at S4 N4
          refine op_skip (w' := u4) rfl rfl (by rw [hu4]; exact store_fresh rfl 8 SZV rfl (by kernel_rfl) (bl_one _) _ _ _ (by kernel_rfl) (by kernel_rfl) N3) ⟨S4, ?_⟩
          clear hu4
          refine wpAnyH_take (i := 9) (v := .int .i64 v0) rfl (by kernel_rfl) (by kernel_rfl) (by kernel_rfl) (fun _ _ _ h => h) (yif rfl fun w2 hw2 => by kernel_rfl) (by assumption) ?_
          refine wpAnyH_done (by kernel_rfl) ?_ _
          go_simp
          exact key GB u4 ⟨N4, S4⟩
        · obtain ⟨GB, hGA⟩ : ∃ g, g = u1.heap.size := ⟨_, rfl⟩
          obtain ⟨u2, hu2⟩ : ∃ u, u = u1.alloc (.cells #[.bool false, .bool false, .bool false, .bool false, .bool false, .bool false, .bool false, .bool false] 36) := ⟨_, rfl⟩
          have S2 := bnew S1 (.cells #[.bool false, .bool false, .bool false, .bool false, .bool false, .bool false, .bool false, .bool false] 36)
          have N2 := At.new u1 #[.bool false, .bool false, .bool false, .bool false, .bool false, .bool false, .bool false, .bool false] 36
          have hle := S1.size
          rw [← hu2] at S2 N2
          rw [← hGA] at N2 hle
          refine op_value (v := .pointer (some ⟨GB, 0, none⟩)) (w' := u2) rfl rfl (by rw [hu2, hGA]; kernel_rfl) ⟨S2, ?_⟩
          clear hu2 hGA
          refine wpAnyH_all (rs := [3]) (by kernel_rfl) (by simp) fun i9 hi9 => ?_
          obtain rfl := one_of hi9
          refine op_call (f := 56) (args := #[.agg (plC (.slice (some ⟨G4, 0, none⟩) xs.length xs.length) b o), .agg (ltC s n r)]) rfl rfl (by kernel_rfl) ((KI0 G4 u2 (G5.step S2)).mono ?_)
          rintro e u3 ⟨rfl, hb2⟩
          have S3 := bthen S2 hb2
          have N3 := N2.step hb2
          refine ⟨_, rfl, S3, ?_⟩
          refine wpAnyH_take (i := 4) (v := .tuple #[.agg (bl rw8), .int .i64 v0]) rfl (by kernel_rfl) (by kernel_rfl) (by kernel_rfl) (fun _ _ _ h => h) (yif rfl fun w2 hw2 => by kernel_rfl) (by assumption) ?_
          refine wpAnyH_take (i := 5) (v := .agg (bl rw8)) rfl (by kernel_rfl) (by kernel_rfl) (by kernel_rfl) (fun _ _ _ h => h) (yif rfl fun w2 hw2 => by kernel_rfl) (by assumption) ?_
          refine wpAnyH_take (i := 6) (v := .int .i64 v0) rfl (by kernel_rfl) (by kernel_rfl) (by kernel_rfl) (fun _ _ _ h => h) (yif rfl fun w2 hw2 => by kernel_rfl) (by assumption) ?_
          refine wpAnyH_all (rs := [8]) (by kernel_rfl) (by simp) fun i9 hi9 => ?_
          obtain rfl := one_of hi9
          obtain ⟨u4, hu4⟩ : ∃ u, u = u3.setRow GB (bl rw8) := ⟨_, rfl⟩
          have S4 := bset S3 (g := GB) hle (bl rw8)
          have N4 := N3.setRow (bl rw8)
          rw [← hu4] at S4 N4
          refine op_skip (w' := u4) rfl rfl (by rw [hu4]; exact store_fresh rfl 8 SZV rfl (by kernel_rfl) (bl_one _) _ _ _ (by kernel_rfl) (by kernel_rfl) N3) ⟨S4, ?_⟩
          clear hu4
          refine wpAnyH_take (i := 9) (v := .int .i64 v0) rfl (by kernel_rfl) (by kernel_rfl) (by kernel_rfl) (fun _ _ _ h => h) (yif rfl fun w2 hw2 => by kernel_rfl) (by assumption) ?_
          refine wpAnyH_done (by kernel_rfl) ?_ _
          go_simp
          exact key GB u4 ⟨N4, S4⟩
      · obtain ⟨GB, hGA⟩ : ∃ g, g = u0.heap.size := ⟨_, rfl⟩
        obtain ⟨u1, hu1⟩ : ∃ u, u = u0.alloc (.cells #[.bool false, .bool false, .bool false, .bool false, .bool false, .bool false, .bool false, .bool false] 36) := ⟨_, rfl⟩
        have S1 := bnew S0 (.cells #[.bool false, .bool false, .bool false, .bool false, .bool false, .bool false, .bool false, .bool false] 36)
        have N1 := At.new u0 #[.bool false, .bool false, .bool false, .bool false, .bool false, .bool false, .bool false, .bool false] 36
        have hle := S0.size
        rw [← hu1] at S1 N1
        rw [← hGA] at N1 hle
        refine op_value (v := .pointer (some ⟨GB, 0, none⟩)) (w' := u1) rfl rfl (by rw [hu1, hGA]; kernel_rfl) ⟨S1, ?_⟩
        clear hu1 hGA
        refine wpAnyH_all (rs := [2]) (by kernel_rfl) (by simp) fun i9 hi9 => ?_
        obtain rfl := one_of hi9
        refine op_call (f := 55) (args := #[.agg (ltC s n r)]) rfl rfl (by kernel_rfl) ((toLight_any s n r u1).mono ?_)
        rintro e u2 ⟨rfl, hb1⟩
        have S2 := bthen S1 hb1
        have N2 := N1.step hb1
        refine ⟨_, rfl, S2, ?_⟩
        refine wpAnyH_all (rs := [3]) (by kernel_rfl) (by simp) fun i9 hi9 => ?_
        obtain rfl := one_of hi9
        refine op_call (f := 56) (args := #[.agg (plC (.slice (some ⟨G4, 0, none⟩) xs.length xs.length) b o), .agg (ltC s n r)]) rfl rfl (by kernel_rfl) ((KI0 G4 u2 (G5.step S2)).mono ?_)
        rintro e u3 ⟨rfl, hb2⟩
        have S3 := bthen S2 hb2
        have N3 := N2.step hb2
        refine ⟨_, rfl, S3, ?_⟩
        refine wpAnyH_take (i := 4) (v := .tuple #[.agg (bl rw8), .int .i64 v0]) rfl (by kernel_rfl) (by kernel_rfl) (by kernel_rfl) (fun _ _ _ h => h) (yif rfl fun w2 hw2 => by kernel_rfl) (by assumption) ?_
        refine wpAnyH_take (i := 5) (v := .agg (bl rw8)) rfl (by kernel_rfl) (by kernel_rfl) (by kernel_rfl) (fun _ _ _ h => h) (yif rfl fun w2 hw2 => by kernel_rfl) (by assumption) ?_
        refine wpAnyH_take (i := 6) (v := .int .i64 v0) rfl (by kernel_rfl) (by kernel_rfl) (by kernel_rfl) (fun _ _ _ h => h) (yif rfl fun w2 hw2 => by kernel_rfl) (by assumption) ?_
        refine wpAnyH_all (rs := [8]) (by kernel_rfl) (by simp) fun i9 hi9 => ?_
        obtain rfl := one_of hi9
        obtain ⟨u4, hu4⟩ : ∃ u, u = u3.setRow GB (bl rw8) := ⟨_, rfl⟩
        have S4 := bset S3 (g := GB) hle (bl rw8)
        have N4 := N3.setRow (bl rw8)
        rw [← hu4] at S4 N4
        refine op_skip (w' := u4) rfl rfl (by rw [hu4]; exact store_fresh rfl 8 SZV rfl (by kernel_rfl) (bl_one _) _ _ _ (by kernel_rfl) (by kernel_rfl) N3) ⟨S4, ?_⟩
        clear hu4
        refine wpAnyH_take (i := 9) (v := .int .i64 v0) rfl (by kernel_rfl) (by kernel_rfl) (by kernel_rfl) (fun _ _ _ h => h) (yif rfl fun w2 hw2 => by kernel_rfl) (by assumption) ?_
        refine wpAnyH_done (by kernel_rfl) ?_ _
        go_simp
        exact key GB u4 ⟨N4, S4⟩
    rintro GB w6 ⟨I6, hb6⟩
    have A6 := A5.step hb6
    have X6 := X5.step hb6
    have G6 := G5.step hb6
    have F6 := F5.step (Nat.le_refl _) hb6
    have S6 := S5.step hb6
    have B6 := Lib.hid (bthen B5.out hb6)
    clear A5 X5 G5 F5 S5 L5 B5 hb6 KI0
    go_wp2_with (first | ((with_reducible refine is_load 36 _ rfl ?_); refine wpList_load_at rfl 36 _ rfl _ rfl (bl rw8) _ (by with_reducible assumption) 8 (SZV) _ Try.underlying36 rfl (by kernel_rfl) ?_))
    refine (eqPhase_same rw8 hl8 _).mono ?_
    rintro e wz ⟨rfl, hbz⟩
    replace A6 := A6.step hbz
    replace X6 := X6.step hbz
    replace G6 := G6.step hbz
    replace F6 := F6.step (Nat.le_refl _) hbz
    replace B6 := Lib.hid (bthen B6.out hbz)
    clear I6 S6 hbz
    go_wp2
    refine wp_region_held (S := fun w' => Below wz.heap.size wz w') (by kernel_rfl) ?_
    show wpAnyH _ _ _ _ _ 5 (Array.replicate 5 false) _ _
    have S0 : Below wz.heap.size wz { wz with drawn := wz.drawn + 1 } := bdrew (Below.refl _ wz) 1
    generalize hw0 : ({ wz with drawn := wz.drawn + 1 } : World) = w7 at S0 ⊢
    clear hw0
    refine wpAnyH_take (i := 0) (v := .agg (plC (.slice (some ⟨G4, 0, none⟩) xs.length xs.length) b o)) rfl (by kernel_rfl) (by kernel_rfl) (by kernel_rfl) (fun _ _ _ h => h) (yif rfl fun w' hw' => x_load 29 (.tmp 8) rfl ⟨w4.heap.size, 0, none⟩ (by kernel_rfl) (run_plan 29 _ (X6.step hw') Try.underlying29 (by kernel_rfl))) (by assumption) ?_
    refine wpAnyH_take (i := 1) (v := .agg (plC (.slice a xs.length cap) b o)) rfl (by kernel_rfl) (by kernel_rfl) (by kernel_rfl) (fun _ _ _ h => h) (yif rfl fun w' hw' => x_load 24 (.tmp 2) rfl ⟨w.heap.size, 0, none⟩ (by kernel_rfl) (run_plan 24 _ (A6.step hw') Try.underlying24 (by kernel_rfl))) (by assumption) ?_
    refine wpAnyH_all (rs := [2]) (by kernel_rfl) (by simp) fun i' hi'' => ?_
    obtain rfl := one_of hi''
    refine op_call (f := 17) (args := #[.agg (plC (.slice a xs.length cap) b o)]) rfl rfl (by kernel_rfl) ((toPlan_any a cap xs b o w7 (F6.step (Nat.le_refl _) S0) hn).mono ?_)
    rintro e w8 ⟨G8, rfl, hG8, -, hb8⟩
    have S1 := bthen S0 hb8
    refine ⟨_, rfl, S1, ?_⟩
    refine wpAnyH_all (rs := [3]) (by kernel_rfl) (by simp) fun i' hi'' => ?_
    obtain rfl := one_of hi''
    refine op_call (f := 19) (args := #[.agg (plC (.slice (some ⟨G4, 0, none⟩) xs.length xs.length) b o), .agg (plC (.slice (some ⟨G8, 0, none⟩) xs.length xs.length) b o)]) rfl rfl (by kernel_rfl) ((eqPlan_same G4 G8 xs b o hW hn _ _ w8 (G6.step S1) hG8).mono ?_)
    rintro e w9 ⟨rfl, hb9⟩
    have S2 := bthen S1 hb9
    refine ⟨_, rfl, S2, ?_⟩
    refine wpAnyH_take (i := 4) (v := .bool false) rfl (by kernel_rfl) (by kernel_rfl) (by kernel_rfl) (fun _ _ _ h => h) (yif rfl fun w' hw' => by kernel_rfl) (by assumption) ?_
    refine wpAnyH_done (by kernel_rfl) ?_ _
    have B9 := Lib.hid (bthen B6.out S2)
    clear A6 X6 G6 F6 B6 hG8 S0 S1 S2 hb8 hb9
    go_simp
    go_wp2
    go_ret
    exact ⟨rfl, B9.out⟩
  · rw [if_pos (by omega)] at K
    go_enter Try.func13, Try.ntmps13
    go_wp2_with (((with_reducible refine is_load 24 _ rfl ?_); refine wpList_load_at rfl 24 _ rfl _ rfl ((plC (.slice a xs.length cap) b o)) _ (by with_reducible assumption) 3 (plC_size _ _ _) _ Try.underlying24 rfl (by kernel_rfl) ?_))
    refine (K _).mono ?_
    rintro e w1 ⟨rfl, hb1⟩
    go_wp2_with fail
    go_ret
    exact ⟨rfl, bthen B0.out hb1⟩

set_option maxRecDepth 100000 in
theorem lifted (os : Os) (started : os.Started) (H : Type) (enc : TypeId × Value → H) :
    ReturnsInHanded {} Try.checked os 13 .any (Rows.fnExactLightPhaseSpec.pre6 enc Try.prog Try.f13 Rows.fnExactLightPhaseRow.domain false) (Rows.fnExactLightPhaseSpec.post enc Try.prog Try.f13 false true false false) := by
  refine law_liftedS enc os started (by kernel_rfl) Try.func13
    (ChangeSpec.witness6 (enc := enc) (C := Try.checked) false ⟨#[], #[.agg #[.slice none 0 0, .int .i64 0, .int .i64 0], .agg #[.int .i64 0, .int .i64 0, .bool false]], []⟩ 24 (by kernel_rfl) (by kernel_rfl) (by kernel_rfl) (by kernel_rfl)) rfl (by kernel_rfl) ?_ ?_ ?_
  · rw [Try.params13]
    intro t ht
    have hall : (#[24, 73].toList.all fun u => Try.prog.readableRec u && decide (u < Try.prog.types.size)) = true := by kernel_rfl
    have := List.all_eq_true.1 hall t ht
    simpa using this
  · intro ds h
    rw [Try.params13] at h
    match ds, h with
    | [d0, d1], _ => rfl
  · intro W base args ds ps hl hval hA
    rw [Try.params13] at hl hval hA
    obtain ⟨v0, v1, rfl⟩ : ∃ v0 v1, args = #[v0, v1] := by
      obtain ⟨l⟩ := args
      match l, hl with
      | [v0, v1], _ => exact ⟨v0, v1, rfl⟩
    obtain ⟨vx0, vy0, dd0, de0, pp0, pq0, ee0, -, -, tr0, rr0⟩ := trodAll_cons hA
    obtain ⟨rfl, rfl⟩ := List.cons.inj ee0
    obtain ⟨vx1, vy1, dd1, de1, pp1, pq1, ee1, -, -, tr1, rr1⟩ := trodAll_cons rr0
    obtain ⟨rfl, rfl⟩ := List.cons.inj ee1
    obtain ⟨a0, cap0, x0, b0, o0, rfl, h0, hb0, ho0⟩ := shape_plan (hval 0 _ _ rfl rfl) tr0
    obtain ⟨s1, n1, r1, rfl⟩ := shape_light (hval 1 _ _ rfl rfl) tr1
    exact walk W a0 cap0 x0 b0 o0 h0 hb0 ho0 s1 n1 r1

/-- THE STATEMENT -/
theorem proved : Rows.FnExactLightPhaseSaid :=
  OpenClaim.holds_of_wide 13 Try.f13 rfl rfl rfl rfl rfl rfl rfl ⟨rfl, rfl, rfl, rfl, rfl⟩ rfl rfl rfl rfl rfl (by kernel_rfl) Try.func13 (by kernel_rfl)
    (of_decide_eq_true (by kernel_rfl)) (by unfold Func.isWrapper; first | (rw [if_pos (by decide +kernel)]; kernel_rfl) | (rw [if_neg (by decide +kernel)]; exact ⟨rfl, rfl⟩))
    (fun os started H enc _ => lifted os started H enc)
#print axioms proved
end Go.Proofs.Ytkhnhbmnmciiaab.lawFnExactLightPhase
