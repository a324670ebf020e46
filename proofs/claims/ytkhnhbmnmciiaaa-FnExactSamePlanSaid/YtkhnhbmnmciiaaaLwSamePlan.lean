/-
  FnExactSamePlan: the program's SamePlan answers as its model, at every two plans. No condition.
-/
import Derived.Test.YtkhnhbmnmciiaaaSamePS
import Derived.Test.YtkhnhbmnmciiaaaShPlan
import Derived.Test.YtkhnhbmnmciiaaaLawS
import Derived.Test.YtkhnhbmnmciiaaaHeldOps
namespace Go.Proofs.Ytkhnhbmnmciiaaa.lawFnExactSamePlan
open Go Go.ChangeShapes Go.WideShapes Go.ChangeAt Go.RowKit

theorem run_plan {w : World} {g : Nat} {s : Value} {b o : Int} {T : TypeId} (ty : TypeId) (fs : Array Field) (h : At w g (plC s b o) T) (hu : Try.prog.underlying ty = some (.struct fs)) (hi : (Try.prog.info? ty).map (·.size) = some 3) :
    (Instr.loadAt ty (.pointer (some ⟨g, 0, none⟩))).run Try.prog w = .ok (.agg (plC s b o)) w :=
  run_loadAt_part w g 0 3 ty (plC s b o) T (0, 0) _ h hu rfl hi (by rw [plC_size]; omega)
set_option maxRecDepth 100000
set_option maxHeartbeats 2000000 in
theorem walk (w : World) (a1 : Option Addr) (cap1 : Nat) (xs : Slots) (b o : Int) (hF1 : SSl w (.slice a1 xs.length cap1) xs) (_hb : I64 b) (_ho : I64 o) (a2 : Option Addr) (cap2 : Nat) (ys : Slots) (b' o' : Int) (hF2 : SSl w (.slice a2 ys.length cap2) ys) (_hb' : I64 b') (_ho' : I64 o') :
    Calls Try.prog 14 #[.agg (plC (.slice a1 xs.length cap1) b o), .agg (plC (.slice a2 ys.length cap2) b' o')] w (True? w) := by
  have A0 : At ((w.alloc (.cells (plC (.slice a1 xs.length cap1) b o) 55)).alloc (.cells (plC (.slice a2 ys.length cap2) b' o') 55)) w.heap.size (plC (.slice a1 xs.length cap1) b o) 55 := (At.new w _ _).alloc _
  have C0 : At ((w.alloc (.cells (plC (.slice a1 xs.length cap1) b o) 55)).alloc (.cells (plC (.slice a2 ys.length cap2) b' o') 55)) (w.heap.size + 1) (plC (.slice a2 ys.length cap2) b' o') 55 := At.last1 w _ _ _
  have B0 := Lib.hid (bnew (b0 w (.cells (plC (.slice a1 xs.length cap1) b o) 55)) (.cells (plC (.slice a2 ys.length cap2) b' o') 55))
  have F0 := hF1.step (Nat.le_refl _) B0.out
  have H0 := hF2.step (Nat.le_refl _) B0.out
  have hW1 := hF1.wf
  have hW2 := hF2.wf
  have hlen1 : xs.length ≤ 9223372036854775807 := Nat.le_trans hF1.len (by decide)
  have hlen2 : ys.length ≤ 9223372036854775807 := Nat.le_trans hF2.len (by decide)
  have K := szPlan_any a1 xs.length cap1 b o 1048576 (by omega) hF1.len
  have hml := hF2.len
  clear hF1 hF2
  by_cases hn : xs.length ≤ 1048576
  · rw [if_neg (by omega)] at K
    have hnn : ¬ (1048576 - ((xs.length : Nat) : Int) < 0) := by omega
    have K2 := szPlan_any a2 ys.length cap2 b' o' (1048576 - (xs.length : Int)) (by omega) hml
    go_enter Try.func14, Try.ntmps14
    go_wp2_with (first | ((with_reducible refine is_load 55 _ rfl ?_); refine wpList_load_at rfl 55 _ rfl _ rfl ((plC (.slice a1 xs.length cap1) b o)) _ (by with_reducible assumption) 3 (plC_size _ _ _) _ Try.underlying55 rfl (by kernel_rfl) ?_) | ((with_reducible refine is_load 55 _ rfl ?_); refine wpList_load_at rfl 55 _ rfl _ rfl ((plC (.slice a2 ys.length cap2) b' o')) _ (by with_reducible assumption) 3 (plC_size _ _ _) _ Try.underlying55 rfl (by kernel_rfl) ?_))
    refine (K _).mono ?_
    rintro e w1 ⟨rfl, hb1⟩
    have A1 := A0.step hb1
    have C1 := C0.step hb1
    have F1 := F0.step (Nat.le_refl _) hb1
    have H1 := H0.step (Nat.le_refl _) hb1
    have B1 := Lib.hid (bthen B0.out hb1)
    clear A0 C0 F0 H0 B0 hb1 K
    by_cases hn2 : ((ys.length : Nat) : Int) ≤ 1048576 - (xs.length : Int)
    · rw [if_neg (by omega)] at K2
      have hnn2 : ¬ (1048576 - ((xs.length : Nat) : Int) - ((ys.length : Nat) : Int) < 0) := by omega
      have hm2 : ys.length ≤ 1048576 := by omega
      go_wp2_with (first | ((with_reducible refine is_load 55 _ rfl ?_); refine wpList_load_at rfl 55 _ rfl _ rfl ((plC (.slice a1 xs.length cap1) b o)) _ (by with_reducible assumption) 3 (plC_size _ _ _) _ Try.underlying55 rfl (by kernel_rfl) ?_) | ((with_reducible refine is_load 55 _ rfl ?_); refine wpList_load_at rfl 55 _ rfl _ rfl ((plC (.slice a2 ys.length cap2) b' o')) _ (by with_reducible assumption) 3 (plC_size _ _ _) _ Try.underlying55 rfl (by kernel_rfl) ?_))
      refine (K2 _).mono ?_
      rintro e w2 ⟨rfl, hb2⟩
      have A2 := A1.step hb2
      have C2 := C1.step hb2
      have F2 := F1.step (Nat.le_refl _) hb2
      have H2 := H1.step (Nat.le_refl _) hb2
      have B2 := Lib.hid (bthen B1.out hb2)
      clear A1 C1 F1 H1 B1 hb2 K2
      go_wp2_with fail
      refine wp_region_held (S := fun w' => Below w2.heap.size w2 w') (by kernel_rfl) ?_
      show wpAnyH _ _ _ _ _ 6 (Array.replicate 6 false) _ _
      have S0 : Below w2.heap.size w2 { w2 with drawn := w2.drawn + 1 } := bdrew (Below.refl _ w2) 1
      generalize hw0 : ({ w2 with drawn := w2.drawn + 1 } : World) = wa at S0 ⊢
      clear hw0
      refine wpAnyH_take (i := 0) (v := .agg (plC (.slice a1 xs.length cap1) b o)) rfl (by kernel_rfl) (by kernel_rfl) (by kernel_rfl) (fun _ _ _ h => h) (yif rfl fun w' hw' => x_load 55 (.tmp 2) rfl ⟨w.heap.size, 0, none⟩ (by kernel_rfl) (run_plan 55 _ (A2.step hw') Try.underlying55 (by kernel_rfl))) (by assumption) ?_
      refine wpAnyH_take (i := 2) (v := .agg (plC (.slice a2 ys.length cap2) b' o')) rfl (by kernel_rfl) (by kernel_rfl) (by kernel_rfl) (fun _ _ _ h => h) (yif rfl fun w' hw' => x_load 55 (.tmp 3) rfl ⟨w.heap.size + 1, 0, none⟩ (by kernel_rfl) (run_plan 55 _ (C2.step hw') Try.underlying55 (by kernel_rfl))) (by assumption) ?_
      refine wpAnyH_all (rs := [1]) (by kernel_rfl) (by simp) fun i' hi'' => ?_
      obtain rfl := one_of hi''
      refine op_call (f := 41) (args := #[.agg (plC (.slice a1 xs.length cap1) b o)]) rfl rfl (by kernel_rfl) ((toPlan_any a1 cap1 xs b o wa (F2.step (Nat.le_refl _) S0) hn).mono ?_)
      rintro e wb ⟨G1, rfl, hG1, -, hbb⟩
      have S1' := bthen S0 hbb
      refine ⟨_, rfl, S1', ?_⟩
      refine wpAnyH_all (rs := [3]) (by kernel_rfl) (by simp) fun i' hi'' => ?_
      obtain rfl := one_of hi''
      refine op_call (f := 41) (args := #[.agg (plC (.slice a2 ys.length cap2) b' o')]) rfl rfl (by kernel_rfl) ((toPlan_any a2 cap2 ys b' o' wb (H2.step (Nat.le_refl _) S1') hm2).mono ?_)
      rintro e wc ⟨G2, rfl, hG2, -, hbc⟩
      have S2' := bthen S1' hbc
      refine ⟨_, rfl, S2', ?_⟩
      refine wpAnyH_all (rs := [4]) (by kernel_rfl) (by simp) fun i' hi'' => ?_
      obtain rfl := one_of hi''
      refine op_call (f := 50) (args := #[.agg (plC (.slice (some ⟨G1, 0, none⟩) xs.length xs.length) b o), .agg (plC (.slice (some ⟨G2, 0, none⟩) ys.length ys.length) b' o')]) rfl rfl (by kernel_rfl) ((sSamePlan_any G1 G2 xs ys b o b' o' hW1 hW2 hn _ _ wc (hG1.step hbc) hG2).mono ?_)
      rintro e w3 ⟨rfl, hbd⟩
      have S3' := bthen S2' hbd
      refine ⟨_, rfl, S3', ?_⟩
      refine wpAnyH_take (i := 5) (v := .bool (vSame xs ys b o b' o')) rfl (by kernel_rfl) (by kernel_rfl) (by kernel_rfl) (fun _ _ _ h => h) (yif rfl fun w' hw' => by kernel_rfl) (by assumption) ?_
      refine wpAnyH_done (by kernel_rfl) ?_ _
      have A3 := A2.step S3'
      have C3 := C2.step S3'
      have F3 := F2.step (Nat.le_refl _) S3'
      have H3 := H2.step (Nat.le_refl _) S3'
      have B3 := Lib.hid (bthen B2.out S3')
      clear A2 C2 F2 H2 B2 S0 S1' S2' S3' hG1 hG2 hbb hbc hbd
      go_simp
      go_wp2_with (first | ((with_reducible refine is_load 55 _ rfl ?_); refine wpList_load_at rfl 55 _ rfl _ rfl ((plC (.slice a1 xs.length cap1) b o)) _ (by with_reducible assumption) 3 (plC_size _ _ _) _ Try.underlying55 rfl (by kernel_rfl) ?_) | ((with_reducible refine is_load 55 _ rfl ?_); refine wpList_load_at rfl 55 _ rfl _ rfl ((plC (.slice a2 ys.length cap2) b' o')) _ (by with_reducible assumption) 3 (plC_size _ _ _) _ Try.underlying55 rfl (by kernel_rfl) ?_))
      refine (toPlan_any a1 cap1 xs b o _ F3 hn).mono ?_
      rintro e w4 ⟨G4, rfl, hG4, -, hb4⟩
      have A4 := A3.step hb4
      have C4 := C3.step hb4
      have F4 := F3.step (Nat.le_refl _) hb4
      have H4 := H3.step (Nat.le_refl _) hb4
      have B4 := Lib.hid (bthen B3.out hb4)
      clear A3 C3 F3 H3 B3 hb4
      have X0 := At.new w4 #[.slice none 0 0, .int .i64 0, .int .i64 0] 61
      have X5 := X0.setRow (plC (.slice (some ⟨G4, 0, none⟩) xs.length xs.length) b o)
      have BN : Below w4.heap.size w4 ((w4.alloc (.cells #[.slice none 0 0, .int .i64 0, .int .i64 0] 61)).setRow w4.heap.size (plC (.slice (some ⟨G4, 0, none⟩) xs.length xs.length) b o)) := bset (b0 _ _) (Nat.le_refl _) _
      have A5 := A4.step BN
      have C5 := C4.step BN
      have G5 := hG4.step BN
      have F5 := F4.step (Nat.le_refl _) BN
      have H5 := H4.step (Nat.le_refl _) BN
      have B5 := Lib.hid (bthen B4.out BN)
      clear A4 C4 F4 H4 B4 BN hG4
      go_wp2_with (first | ((with_reducible refine is_store 61 _ _ rfl ?_); refine wpList_store_at rfl 61 _ _ rfl _ rfl ((plC (.slice (some ⟨G4, 0, none⟩) xs.length xs.length) b o)) rfl (#[.slice none 0 0, .int .i64 0, .int .i64 0]) _ (by with_reducible assumption) 3 (plC_size _ _ _) (rfl) (by kernel_rfl) (pl_one _ (sl_one _ _ _) _ _) ?_) | ((with_reducible refine is_load 55 _ rfl ?_); refine wpList_load_at rfl 55 _ rfl _ rfl ((plC (.slice a1 xs.length cap1) b o)) _ (by with_reducible assumption) 3 (plC_size _ _ _) _ Try.underlying55 rfl (by kernel_rfl) ?_) | ((with_reducible refine is_load 55 _ rfl ?_); refine wpList_load_at rfl 55 _ rfl _ rfl ((plC (.slice a2 ys.length cap2) b' o')) _ (by with_reducible assumption) 3 (plC_size _ _ _) _ Try.underlying55 rfl (by kernel_rfl) ?_))
      refine (toPlan_any a2 cap2 ys b' o' _ H5 hm2).mono ?_
      rintro e w6 ⟨G6, rfl, hG6, -, hb6⟩
      have A6 := A5.step hb6
      have C6 := C5.step hb6
      have X6 := X5.step hb6
      have G5' := G5.step hb6
      have F6 := F5.step (Nat.le_refl _) hb6
      have H6 := H5.step (Nat.le_refl _) hb6
      have B6 := Lib.hid (bthen B5.out hb6)
      clear A5 C5 X0 X5 G5 F5 H5 B5 hb6
      have Y0 := At.new w6 #[.slice none 0 0, .int .i64 0, .int .i64 0] 61
      have Y7 := Y0.setRow (plC (.slice (some ⟨G6, 0, none⟩) ys.length ys.length) b' o')
      have BM : Below w6.heap.size w6 ((w6.alloc (.cells #[.slice none 0 0, .int .i64 0, .int .i64 0] 61)).setRow w6.heap.size (plC (.slice (some ⟨G6, 0, none⟩) ys.length ys.length) b' o')) := bset (b0 _ _) (Nat.le_refl _) _
      have A7 := A6.step BM
      have C7 := C6.step BM
      have X7 := X6.step BM
      have G7 := G5'.step BM
      have J7 := hG6.step BM
      have F7 := F6.step (Nat.le_refl _) BM
      have H7 := H6.step (Nat.le_refl _) BM
      have B7 := Lib.hid (bthen B6.out BM)
      have KI := SamePlan_any G4 G6 xs ys b o b' o' hW1 hW2 hn _ _ _ G7 J7
      clear A6 C6 X6 G5' F6 H6 B6 BM hG6
      go_wp2_with (first | ((with_reducible refine is_store 61 _ _ rfl ?_); refine wpList_store_at rfl 61 _ _ rfl _ rfl ((plC (.slice (some ⟨G6, 0, none⟩) ys.length ys.length) b' o')) rfl (#[.slice none 0 0, .int .i64 0, .int .i64 0]) _ (by with_reducible assumption) 3 (plC_size _ _ _) (rfl) (by kernel_rfl) (pl_one _ (sl_one _ _ _) _ _) ?_) | ((with_reducible refine is_load 61 _ rfl ?_); refine wpList_load_at rfl 61 _ rfl _ rfl ((plC (.slice (some ⟨G4, 0, none⟩) xs.length xs.length) b o)) _ (by with_reducible assumption) 3 (plC_size _ _ _) _ Try.underlying61 rfl (by kernel_rfl) ?_) | ((with_reducible refine is_load 61 _ rfl ?_); refine wpList_load_at rfl 61 _ rfl _ rfl ((plC (.slice (some ⟨G6, 0, none⟩) ys.length ys.length) b' o')) _ (by with_reducible assumption) 3 (plC_size _ _ _) _ Try.underlying61 rfl (by kernel_rfl) ?_))
      refine KI.mono ?_
      rintro e w8 ⟨rfl, hb8⟩
      have A8 := A7.step hb8
      have C8 := C7.step hb8
      have X8 := X7.step hb8
      have Y8 := Y7.step hb8
      have G8 := G7.step hb8
      have J8 := J7.step hb8
      have F8 := F7.step (Nat.le_refl _) hb8
      have H8 := H7.step (Nat.le_refl _) hb8
      have B8 := Lib.hid (bthen B7.out hb8)
      clear A7 C7 X7 Y0 Y7 G7 J7 F7 H7 B7 KI hb8
      go_wp2
      refine wp_region_held (S := fun w' => Below w8.heap.size w8 w') (by kernel_rfl) ?_
      show wpAnyH _ _ _ _ _ 5 (Array.replicate 5 false) _ _
      have S0 : Below w8.heap.size w8 { w8 with drawn := w8.drawn + 1 } := bdrew (Below.refl _ w8) 1
      generalize hw0 : ({ w8 with drawn := w8.drawn + 1 } : World) = wa at S0 ⊢
      clear hw0
      refine wpAnyH_take (i := 0) (v := .agg (plC (.slice (some ⟨G4, 0, none⟩) xs.length xs.length) b o)) rfl (by kernel_rfl) (by kernel_rfl) (by kernel_rfl) (fun _ _ _ h => h) (yif rfl fun w' hw' => x_load 61 (.tmp 7) rfl ⟨w4.heap.size, 0, none⟩ (by kernel_rfl) (run_plan 61 _ (X8.step hw') Try.underlying61 (by kernel_rfl))) (by assumption) ?_
      refine wpAnyH_take (i := 1) (v := .agg (plC (.slice a1 xs.length cap1) b o)) rfl (by kernel_rfl) (by kernel_rfl) (by kernel_rfl) (fun _ _ _ h => h) (yif rfl fun w' hw' => x_load 55 (.tmp 2) rfl ⟨w.heap.size, 0, none⟩ (by kernel_rfl) (run_plan 55 _ (A8.step hw') Try.underlying55 (by kernel_rfl))) (by assumption) ?_
      refine wpAnyH_all (rs := [2]) (by kernel_rfl) (by simp) fun i' hi'' => ?_
      obtain rfl := one_of hi''
      refine op_call (f := 41) (args := #[.agg (plC (.slice a1 xs.length cap1) b o)]) rfl rfl (by kernel_rfl) ((toPlan_any a1 cap1 xs b o wa (F8.step (Nat.le_refl _) S0) hn).mono ?_)
      rintro e wb ⟨GG, rfl, hGG, -, hbb⟩
      have S1' := bthen S0 hbb
      refine ⟨_, rfl, S1', ?_⟩
      refine wpAnyH_all (rs := [3]) (by kernel_rfl) (by simp) fun i' hi'' => ?_
      obtain rfl := one_of hi''
      refine op_call (f := 43) (args := #[.agg (plC (.slice (some ⟨G4, 0, none⟩) xs.length xs.length) b o), .agg (plC (.slice (some ⟨GG, 0, none⟩) xs.length xs.length) b o)]) rfl rfl (by kernel_rfl) ((eqPlan_same G4 GG xs b o hW1 hn _ _ wb (G8.step S1') hGG).mono ?_)
      rintro e wc ⟨rfl, hbc⟩
      have S2' := bthen S1' hbc
      refine ⟨_, rfl, S2', ?_⟩
      refine wpAnyH_take (i := 4) (v := .bool false) rfl (by kernel_rfl) (by kernel_rfl) (by kernel_rfl) (fun _ _ _ h => h) (yif rfl fun w' hw' => by kernel_rfl) (by assumption) ?_
      refine wpAnyH_done (by kernel_rfl) ?_ _
      have C9 := C8.step S2'
      have Y9 := Y8.step S2'
      have J9 := J8.step S2'
      have H9 := H8.step (Nat.le_refl _) S2'
      have B9 := Lib.hid (bthen B8.out S2')
      clear A8 C8 X8 Y8 G8 J8 F8 H8 B8 hGG S0 S1' S2' hbb hbc
      go_simp
      go_wp2
      refine wp_region_held (S := fun w' => Below wc.heap.size wc w') (by kernel_rfl) ?_
      show wpAnyH _ _ _ _ _ 5 (Array.replicate 5 false) _ _
      have S0 : Below wc.heap.size wc { wc with drawn := wc.drawn + 1 } := bdrew (Below.refl _ wc) 1
      generalize hw0 : ({ wc with drawn := wc.drawn + 1 } : World) = wa at S0 ⊢
      clear hw0
      refine wpAnyH_take (i := 0) (v := .agg (plC (.slice (some ⟨G6, 0, none⟩) ys.length ys.length) b' o')) rfl (by kernel_rfl) (by kernel_rfl) (by kernel_rfl) (fun _ _ _ h => h) (yif rfl fun w' hw' => x_load 61 (.tmp 8) rfl ⟨w6.heap.size, 0, none⟩ (by kernel_rfl) (run_plan 61 _ (Y9.step hw') Try.underlying61 (by kernel_rfl))) (by assumption) ?_
      refine wpAnyH_take (i := 1) (v := .agg (plC (.slice a2 ys.length cap2) b' o')) rfl (by kernel_rfl) (by kernel_rfl) (by kernel_rfl) (fun _ _ _ h => h) (yif rfl fun w' hw' => x_load 55 (.tmp 3) rfl ⟨w.heap.size + 1, 0, none⟩ (by kernel_rfl) (run_plan 55 _ (C9.step hw') Try.underlying55 (by kernel_rfl))) (by assumption) ?_
      refine wpAnyH_all (rs := [2]) (by kernel_rfl) (by simp) fun i' hi'' => ?_
      obtain rfl := one_of hi''
      refine op_call (f := 41) (args := #[.agg (plC (.slice a2 ys.length cap2) b' o')]) rfl rfl (by kernel_rfl) ((toPlan_any a2 cap2 ys b' o' wa (H9.step (Nat.le_refl _) S0) hm2).mono ?_)
      rintro e wd ⟨GG, rfl, hGG, -, hbb⟩
      have S1' := bthen S0 hbb
      refine ⟨_, rfl, S1', ?_⟩
      refine wpAnyH_all (rs := [3]) (by kernel_rfl) (by simp) fun i' hi'' => ?_
      obtain rfl := one_of hi''
      refine op_call (f := 43) (args := #[.agg (plC (.slice (some ⟨G6, 0, none⟩) ys.length ys.length) b' o'), .agg (plC (.slice (some ⟨GG, 0, none⟩) ys.length ys.length) b' o')]) rfl rfl (by kernel_rfl) ((eqPlan_same G6 GG ys b' o' hW2 hm2 _ _ wd (J9.step S1') hGG).mono ?_)
      rintro e we ⟨rfl, hbc⟩
      have S2' := bthen S1' hbc
      refine ⟨_, rfl, S2', ?_⟩
      refine wpAnyH_take (i := 4) (v := .bool false) rfl (by kernel_rfl) (by kernel_rfl) (by kernel_rfl) (fun _ _ _ h => h) (yif rfl fun w' hw' => by kernel_rfl) (by assumption) ?_
      refine wpAnyH_done (by kernel_rfl) ?_ _
      have BZ := Lib.hid (bthen B9.out S2')
      clear C9 Y9 J9 H9 B9 hGG S0 S1' S2' hbb hbc
      go_simp
      go_wp2
      go_ret
      exact ⟨rfl, BZ.out⟩
    · rw [if_pos (by omega)] at K2
      go_wp2_with (first | ((with_reducible refine is_load 55 _ rfl ?_); refine wpList_load_at rfl 55 _ rfl _ rfl ((plC (.slice a1 xs.length cap1) b o)) _ (by with_reducible assumption) 3 (plC_size _ _ _) _ Try.underlying55 rfl (by kernel_rfl) ?_) | ((with_reducible refine is_load 55 _ rfl ?_); refine wpList_load_at rfl 55 _ rfl _ rfl ((plC (.slice a2 ys.length cap2) b' o')) _ (by with_reducible assumption) 3 (plC_size _ _ _) _ Try.underlying55 rfl (by kernel_rfl) ?_))
      refine (K2 _).mono ?_
      rintro e w2 ⟨rfl, hb2⟩
      go_wp2_with fail
      go_ret
      exact ⟨rfl, bthen B1.out hb2⟩
  · rw [if_pos (by omega)] at K
    go_enter Try.func14, Try.ntmps14
    go_wp2_with (first | ((with_reducible refine is_load 55 _ rfl ?_); refine wpList_load_at rfl 55 _ rfl _ rfl ((plC (.slice a1 xs.length cap1) b o)) _ (by with_reducible assumption) 3 (plC_size _ _ _) _ Try.underlying55 rfl (by kernel_rfl) ?_) | ((with_reducible refine is_load 55 _ rfl ?_); refine wpList_load_at rfl 55 _ rfl _ rfl ((plC (.slice a2 ys.length cap2) b' o')) _ (by with_reducible assumption) 3 (plC_size _ _ _) _ Try.underlying55 rfl (by kernel_rfl) ?_))
    refine (K _).mono ?_
    rintro e w1 ⟨rfl, hb1⟩
    go_wp2_with fail
    go_ret
    exact ⟨rfl, bthen B0.out hb1⟩

set_option maxRecDepth 100000 in
theorem lifted (os : Os) (started : os.Started) (H : Type) (enc : TypeId × Value → H) :
    ReturnsInHanded {} Try.checked os 14 .any (Rows.fnExactSamePlanSpec.pre6 enc Try.prog Try.f14 Rows.fnExactSamePlanRow.domain false) (Rows.fnExactSamePlanSpec.post enc Try.prog Try.f14 false true false false) := by
  refine law_liftedS enc os started (by kernel_rfl) Try.func14
    (ChangeSpec.witness6 (enc := enc) (C := Try.checked) false ⟨#[], #[.agg #[.slice none 0 0, .int .i64 0, .int .i64 0], .agg #[.slice none 0 0, .int .i64 0, .int .i64 0]], []⟩ 24 (by kernel_rfl) (by kernel_rfl) (by kernel_rfl) (by kernel_rfl)) rfl (by kernel_rfl) ?_ ?_ ?_
  · rw [Try.params14]
    intro t ht
    have hall : (#[55, 55].toList.all fun u => Try.prog.readableRec u && decide (u < Try.prog.types.size)) = true := by kernel_rfl
    have := List.all_eq_true.1 hall t ht
    simpa using this
  · intro ds h
    rw [Try.params14] at h
    match ds, h with
    | [d0, d1], _ => rfl
  · intro W base args ds ps hl hval hA
    rw [Try.params14] at hl hval hA
    obtain ⟨v0, v1, rfl⟩ : ∃ v0 v1, args = #[v0, v1] := by
      obtain ⟨l⟩ := args
      match l, hl with
      | [v0, v1], _ => exact ⟨v0, v1, rfl⟩
    obtain ⟨vx0, vy0, dd0, de0, pp0, pq0, ee0, -, -, tr0, rr0⟩ := trodAll_cons hA
    obtain ⟨rfl, rfl⟩ := List.cons.inj ee0
    obtain ⟨vx1, vy1, dd1, de1, pp1, pq1, ee1, -, -, tr1, rr1⟩ := trodAll_cons rr0
    obtain ⟨rfl, rfl⟩ := List.cons.inj ee1
    obtain ⟨a0, cap0, x0, b0, o0, rfl, h0, hb0, ho0⟩ := shape_plan (hval 0 _ _ rfl rfl) tr0
    obtain ⟨a1, cap1, x1, b1, o1, rfl, h1, hb1, ho1⟩ := shape_plan (hval 1 _ _ rfl rfl) tr1
    exact walk W a0 cap0 x0 b0 o0 h0 hb0 ho0 a1 cap1 x1 b1 o1 h1 hb1 ho1

/-- THE STATEMENT -/
theorem proved : Rows.FnExactSamePlanSaid :=
  OpenClaim.holds_of_wide 14 Try.f14 rfl rfl rfl rfl rfl rfl rfl ⟨rfl, rfl, rfl, rfl, rfl⟩ rfl rfl rfl rfl rfl (by kernel_rfl) Try.func14 (by kernel_rfl)
    (of_decide_eq_true (by kernel_rfl)) (by unfold Func.isWrapper; first | (rw [if_pos (by decide +kernel)]; kernel_rfl) | (rw [if_neg (by decide +kernel)]; exact ⟨rfl, rfl⟩))
    (fun os started H enc _ => lifted os started H enc)
#print axioms proved
end Go.Proofs.Ytkhnhbmnmciiaaa.lawFnExactSamePlan
