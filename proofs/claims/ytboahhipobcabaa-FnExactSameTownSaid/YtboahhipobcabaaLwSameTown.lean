/-
  FnExactSameTown: the program's SameTown answers as its model, at every two towns. No condition.
-/
import Derived.Test.YtboahhipobcabaaTnSm
import Derived.Test.YtboahhipobcabaaG21
import Derived.Test.YtboahhipobcabaaG7
namespace Go.Proofs.Ytboahhipobcabaa.lawFnExactSameTown
open Go Go.ChangeShapes Go.WideShapes Go.ChangeAt Go.RowKit


theorem run_tn {w : World} {g : Nat} {T : Tn} {vr vf vj vp : Value} {Ty : TypeId} (ty : TypeId) (fs : Array Field) (h : At w g (tnR T vr vf vj vp) Ty) (hu : Try.prog.underlying ty = some (.struct fs)) (hi : (Try.prog.info? ty).map (·.size) = some 7) :
    (Instr.loadAt ty (.pointer (some ⟨g, 0, none⟩))).run Try.prog w = .ok (.agg (tnR T vr vf vj vp)) w :=
  run_loadAt_part w g 0 7 ty (tnR T vr vf vj vp) Ty (0, 0) _ h hu rfl hi (by show 0 + 7 ≤ 7; omega)

set_option maxRecDepth 100000
set_option maxHeartbeats 4000000 in
theorem walk (w : World) (vr vf vj vp : Value) (T : Tn) (hI : TIn w vr vf vj vp T) (hB : TnB T) (ur uf uj up : Value) (U : Tn) (hJ : TIn w ur uf uj up U) (hB' : TnB U) :
    Calls Try.prog 3 #[.agg (tnR T vr vf vj vp), .agg (tnR U ur uf uj up)] w (True? w) := by
  have A0 : At ((w.alloc (.cells (tnR T vr vf vj vp) 28)).alloc (.cells (tnR U ur uf uj up) 28)) w.heap.size (tnR T vr vf vj vp) 28 := (At.new w _ _).alloc _
  have C0 : At ((w.alloc (.cells (tnR T vr vf vj vp) 28)).alloc (.cells (tnR U ur uf uj up) 28)) (w.heap.size + 1) (tnR U ur uf uj up) 28 := At.last1 w _ _ _
  have BB : Below w.heap.size w ((w.alloc (.cells (tnR T vr vf vj vp) 28)).alloc (.cells (tnR U ur uf uj up) 28)) := bnew (b0 w (.cells (tnR T vr vf vj vp) 28)) (.cells (tnR U ur uf uj up) 28)
  have B0 := Lib.hid BB
  have K1 := szTown_any T vr vf vj vp 1048576 (by omega) _ (hI.step (Nat.le_refl _) BB)
  by_cases hn : tnN T ≤ 1048576
  · have hN := TnN.of hn
    rw [szV_ge (by omega)] at K1
    have hnn : ¬ (1048576 - ((tnN T : Nat) : Int) < 0) := by omega
    have K2 := fun w' (hb : Below w.heap.size w w') => szTown_any U ur uf uj up (1048576 - ((tnN T : Nat) : Int)) (by omega) w' (hJ.step (Nat.le_refl _) hb)
    by_cases hm : ((tnN U : Nat) : Int) ≤ 1048576 - ((tnN T : Nat) : Int)
    · have hN' := TnN.of (T := U) (by omega)
      simp only [szV_ge (show ¬ (1048576 - ((tnN T : Nat) : Int) < ((tnN U : Nat) : Int)) from by omega)] at K2
      have hnn2 : ¬ (1048576 - ((tnN T : Nat) : Int) - ((tnN U : Nat) : Int) < 0) := by omega
      have KT := fun w' (hb : Below w.heap.size w w') => toTown_any T vr vf vj vp w' (hI.step (Nat.le_refl _) hb) hN
      have KU := fun w' (hb : Below w.heap.size w w') => toTown_any U ur uf uj up w' (hJ.step (Nat.le_refl _) hb) hN'
      have KS := fun a b c d a' b' c' d' w' h h' => sSameTown_own T U a b c d a' b' c' d' hN hB hB' w' h h'
      have KV := fun a b c d a' b' c' d' w' h h' => SameTown_own T U a b c d a' b' c' d' hN hB hB' w' h h'
      have KE := fun a1 b1 c1 d1 a2 b2 c2 d2 w' h1 h2 => eqTown_st T a1 b1 c1 d1 a2 b2 c2 d2 w' h1 h2 hN hB
      have KF := fun a1 b1 c1 d1 a2 b2 c2 d2 w' h1 h2 => eqTown_st U a1 b1 c1 d1 a2 b2 c2 d2 w' h1 h2 hN' hB'
      generalize sameT T U = ok at *
      clear hI hJ hN hN' hB hB' hn hm BB
      go_enter Try.func3, Try.ntmps3
      go_wp2_with (first | ((with_reducible refine is_load 28 _ rfl ?_); refine wpList_load_at rfl 28 _ rfl _ rfl (tnR T vr vf vj vp) _ (by with_reducible assumption) 7 (rfl) _ Try.underlying28 rfl (by kernel_rfl) ?_) | ((with_reducible refine is_load 28 _ rfl ?_); refine wpList_load_at rfl 28 _ rfl _ rfl (tnR U ur uf uj up) _ (by with_reducible assumption) 7 (rfl) _ Try.underlying28 rfl (by kernel_rfl) ?_))
      refine K1.mono ?_
      rintro e w1 ⟨rfl, hb1⟩
      have A1 := A0.step hb1
      have C1 := C0.step hb1
      have B1 := Lib.hid (bthen B0.out hb1)
      clear A0 C0 B0 hb1 K1
      go_wp2_with (first | ((with_reducible refine is_load 28 _ rfl ?_); refine wpList_load_at rfl 28 _ rfl _ rfl (tnR T vr vf vj vp) _ (by with_reducible assumption) 7 (rfl) _ Try.underlying28 rfl (by kernel_rfl) ?_) | ((with_reducible refine is_load 28 _ rfl ?_); refine wpList_load_at rfl 28 _ rfl _ rfl (tnR U ur uf uj up) _ (by with_reducible assumption) 7 (rfl) _ Try.underlying28 rfl (by kernel_rfl) ?_))
      refine (K2 _ B1.out).mono ?_
      rintro e w2 ⟨rfl, hb2⟩
      have A2 := A1.step hb2
      have C2 := C1.step hb2
      have B2 := Lib.hid (bthen B1.out hb2)
      clear A1 C1 B1 hb2 K2
      go_wp2_with fail
      refine wp_region_held (S := fun w' => Below w2.heap.size w2 w') (by kernel_rfl) ?_
      show wpAnyH _ _ _ _ _ 6 (Array.replicate 6 false) _ _
      have S0 : Below w2.heap.size w2 { w2 with drawn := w2.drawn + 1 } := bdrew (Below.refl _ w2) 1
      generalize hw0 : ({ w2 with drawn := w2.drawn + 1 } : World) = wa at S0 ⊢
      clear hw0
      refine wpAnyH_take (i := 0) (v := .agg (tnR T vr vf vj vp)) rfl (by kernel_rfl) (by kernel_rfl) (by kernel_rfl) (fun _ _ _ h => h) (yif rfl fun w' hw' => x_load 28 (.tmp 2) rfl ⟨w.heap.size, 0, none⟩ (by kernel_rfl) (run_tn 28 _ (A2.step hw') Try.underlying28 (by kernel_rfl))) (by assumption) ?_
      refine wpAnyH_take (i := 2) (v := .agg (tnR U ur uf uj up)) rfl (by kernel_rfl) (by kernel_rfl) (by kernel_rfl) (fun _ _ _ h => h) (yif rfl fun w' hw' => x_load 28 (.tmp 3) rfl ⟨w.heap.size + 1, 0, none⟩ (by kernel_rfl) (run_tn 28 _ (C2.step hw') Try.underlying28 (by kernel_rfl))) (by assumption) ?_
      refine wpAnyH_call (j := 1) (f := 8) (args := #[.agg (tnR T vr vf vj vp)]) (by kernel_rfl) rfl (by kernel_rfl) (by kernel_rfl) ((KT wa (bthen B2.out S0)).mono ?_)
      rintro e wb ⟨a1, b1, c1, d1, rfl, H1, hbb⟩
      have S1 := bthen S0 hbb
      refine ⟨_, rfl, S1, ?_⟩
      refine wpAnyH_call (j := 3) (f := 8) (args := #[.agg (tnR U ur uf uj up)]) (by kernel_rfl) rfl (by kernel_rfl) (by kernel_rfl) ((KU wb (bthen B2.out S1)).mono ?_)
      rintro e wc ⟨a2, b2, c2, d2, rfl, H2, hbc⟩
      have S2 := bthen S1 hbc
      refine ⟨_, rfl, S2, ?_⟩
      refine wpAnyH_call (j := 4) (f := 7) (args := #[.agg (tnR T (slN a1 T.rs.length) (slN b1 T.fs.length) (slN c1 T.js.length) (slN d1 T.ps.length)), .agg (tnR U (slN a2 U.rs.length) (slN b2 U.fs.length) (slN c2 U.js.length) (slN d2 U.ps.length))]) (by kernel_rfl) rfl (by kernel_rfl) (by kernel_rfl) ((KS a1 b1 c1 d1 a2 b2 c2 d2 wc (H1.step hbc) H2).mono ?_)
      rintro e w3 ⟨rfl, hbd⟩
      have S3 := bthen S2 hbd
      refine ⟨_, rfl, S3, ?_⟩
      refine wpAnyH_take (i := 5) (v := .bool ok) rfl (by kernel_rfl) (by kernel_rfl) (by kernel_rfl) (fun _ _ _ h => h) (yif rfl fun w' hw' => by kernel_rfl) (by assumption) ?_
      refine wpAnyH_done (by kernel_rfl) ?_ _
      have A3 := A2.step S3
      have C3 := C2.step S3
      have B3 := Lib.hid (bthen B2.out S3)
      clear A2 C2 B2 S0 S1 S2 S3 H1 H2 hbb hbc hbd KS
      go_simp
      go_wp2_with (first | ((with_reducible refine is_load 28 _ rfl ?_); refine wpList_load_at rfl 28 _ rfl _ rfl (tnR T vr vf vj vp) _ (by with_reducible assumption) 7 (rfl) _ Try.underlying28 rfl (by kernel_rfl) ?_) | ((with_reducible refine is_load 28 _ rfl ?_); refine wpList_load_at rfl 28 _ rfl _ rfl (tnR U ur uf uj up) _ (by with_reducible assumption) 7 (rfl) _ Try.underlying28 rfl (by kernel_rfl) ?_))
      refine (KT _ B3.out).mono ?_
      rintro e w4 ⟨a4, b4, c4, d4, rfl, H4, hb4⟩
      have A4 := A3.step hb4
      have C4 := C3.step hb4
      have B4 := Lib.hid (bthen B3.out hb4)
      clear A3 C3 B3 hb4
      have Y0 := At.new w4 (#[.slice none 0 0, .slice none 0 0, .slice none 0 0, .slice none 0 0, .int .i64 0, .float .f32 0, .float .f32 0]) 35
      have X0 := Y0.setRow (tnR T (slN a4 T.rs.length) (slN b4 T.fs.length) (slN c4 T.js.length) (slN d4 T.ps.length))
      have hset : Below w4.heap.size w4 ((w4.alloc (.cells (#[.slice none 0 0, .slice none 0 0, .slice none 0 0, .slice none 0 0, .int .i64 0, .float .f32 0, .float .f32 0]) 35)).setRow w4.heap.size (tnR T (slN a4 T.rs.length) (slN b4 T.fs.length) (slN c4 T.js.length) (slN d4 T.ps.length))) := bset (b0 w4 (.cells (#[.slice none 0 0, .slice none 0 0, .slice none 0 0, .slice none 0 0, .int .i64 0, .float .f32 0, .float .f32 0]) 35)) (Nat.le_refl _) _
      have A5 := A4.step hset
      have C5 := C4.step hset
      have G5 := H4.step hset
      have B5 := Lib.hid (bthen B4.out hset)
      clear A4 C4 H4 B4 hset
      go_wp2_with (first | ((with_reducible refine is_store 35 _ _ rfl ?_); refine wpList_store_at rfl 35 _ _ rfl _ rfl (tnR T (slN a4 T.rs.length) (slN b4 T.fs.length) (slN c4 T.js.length) (slN d4 T.ps.length)) rfl (#[.slice none 0 0, .slice none 0 0, .slice none 0 0, .slice none 0 0, .int .i64 0, .float .f32 0, .float .f32 0]) _ (by with_reducible assumption) 7 rfl rfl (by kernel_rfl) (tnC_one _ _ _ _ _ _ _ rfl rfl rfl rfl) ?_) | ((with_reducible refine is_load 28 _ rfl ?_); refine wpList_load_at rfl 28 _ rfl _ rfl (tnR T vr vf vj vp) _ (by with_reducible assumption) 7 (rfl) _ Try.underlying28 rfl (by kernel_rfl) ?_) | ((with_reducible refine is_load 28 _ rfl ?_); refine wpList_load_at rfl 28 _ rfl _ rfl (tnR U ur uf uj up) _ (by with_reducible assumption) 7 (rfl) _ Try.underlying28 rfl (by kernel_rfl) ?_))
      refine (KU _ B5.out).mono ?_
      rintro e w6 ⟨a6, b6, c6, d6, rfl, H6, hb6⟩
      have A6 := A5.step hb6
      have C6 := C5.step hb6
      have X6 := X0.step hb6
      have G6 := G5.step hb6
      have B6 := Lib.hid (bthen B5.out hb6)
      clear A5 C5 Y0 X0 G5 B5 hb6
      have Y1 := At.new w6 (#[.slice none 0 0, .slice none 0 0, .slice none 0 0, .slice none 0 0, .int .i64 0, .float .f32 0, .float .f32 0]) 35
      have X1 := Y1.setRow (tnR U (slN a6 U.rs.length) (slN b6 U.fs.length) (slN c6 U.js.length) (slN d6 U.ps.length))
      have hset : Below w6.heap.size w6 ((w6.alloc (.cells (#[.slice none 0 0, .slice none 0 0, .slice none 0 0, .slice none 0 0, .int .i64 0, .float .f32 0, .float .f32 0]) 35)).setRow w6.heap.size (tnR U (slN a6 U.rs.length) (slN b6 U.fs.length) (slN c6 U.js.length) (slN d6 U.ps.length))) := bset (b0 w6 (.cells (#[.slice none 0 0, .slice none 0 0, .slice none 0 0, .slice none 0 0, .int .i64 0, .float .f32 0, .float .f32 0]) 35)) (Nat.le_refl _) _
      have A7 := A6.step hset
      have C7 := C6.step hset
      have X7 := X6.step hset
      have G7 := G6.step hset
      have J7 := H6.step hset
      have B7 := Lib.hid (bthen B6.out hset)
      clear A6 C6 X6 G6 H6 B6 hset
      go_wp2_with (first | ((with_reducible refine is_store 35 _ _ rfl ?_); refine wpList_store_at rfl 35 _ _ rfl _ rfl (tnR U (slN a6 U.rs.length) (slN b6 U.fs.length) (slN c6 U.js.length) (slN d6 U.ps.length)) rfl (#[.slice none 0 0, .slice none 0 0, .slice none 0 0, .slice none 0 0, .int .i64 0, .float .f32 0, .float .f32 0]) _ (by with_reducible assumption) 7 rfl rfl (by kernel_rfl) (tnC_one _ _ _ _ _ _ _ rfl rfl rfl rfl) ?_) | ((with_reducible refine is_load 35 _ rfl ?_); refine wpList_load_at rfl 35 _ rfl _ rfl (tnR T (slN a4 T.rs.length) (slN b4 T.fs.length) (slN c4 T.js.length) (slN d4 T.ps.length)) _ (by with_reducible assumption) 7 (rfl) _ Try.underlying35 rfl (by kernel_rfl) ?_) | ((with_reducible refine is_load 35 _ rfl ?_); refine wpList_load_at rfl 35 _ rfl _ rfl (tnR U (slN a6 U.rs.length) (slN b6 U.fs.length) (slN c6 U.js.length) (slN d6 U.ps.length)) _ (by with_reducible assumption) 7 (rfl) _ Try.underlying35 rfl (by kernel_rfl) ?_))
      refine (KV _ _ _ _ _ _ _ _ _ G7 J7).mono ?_
      rintro e w8 ⟨rfl, hb8⟩
      have A8 := A7.step hb8
      have C8 := C7.step hb8
      have X8 := X7.step hb8
      have Y8 := X1.step hb8
      have G8 := G7.step hb8
      have J8 := J7.step hb8
      have B8 := Lib.hid (bthen B7.out hb8)
      clear A7 C7 X7 Y1 X1 G7 J7 B7 KV hb8
      go_wp2_with fail
      refine wp_region_held (S := fun w' => Below w8.heap.size w8 w') (by kernel_rfl) ?_
      show wpAnyH _ _ _ _ _ 5 (Array.replicate 5 false) _ _
      have S0 : Below w8.heap.size w8 { w8 with drawn := w8.drawn + 1 } := bdrew (Below.refl _ w8) 1
      generalize hw0 : ({ w8 with drawn := w8.drawn + 1 } : World) = wd at S0 ⊢
      clear hw0
      refine wpAnyH_take (i := 0) (v := .agg (tnR T (slN a4 T.rs.length) (slN b4 T.fs.length) (slN c4 T.js.length) (slN d4 T.ps.length))) rfl (by kernel_rfl) (by kernel_rfl) (by kernel_rfl) (fun _ _ _ h => h) (yif rfl fun w' hw' => x_load 35 (.tmp 7) rfl ⟨w4.heap.size, 0, none⟩ (by kernel_rfl) (run_tn 35 _ (X8.step hw') Try.underlying35 (by kernel_rfl))) (by assumption) ?_
      refine wpAnyH_take (i := 1) (v := .agg (tnR T vr vf vj vp)) rfl (by kernel_rfl) (by kernel_rfl) (by kernel_rfl) (fun _ _ _ h => h) (yif rfl fun w' hw' => x_load 28 (.tmp 2) rfl ⟨w.heap.size, 0, none⟩ (by kernel_rfl) (run_tn 28 _ (A8.step hw') Try.underlying28 (by kernel_rfl))) (by assumption) ?_
      refine wpAnyH_call (j := 2) (f := 8) (args := #[.agg (tnR T vr vf vj vp)]) (by kernel_rfl) rfl (by kernel_rfl) (by kernel_rfl) ((KT wd (bthen B8.out S0)).mono ?_)
      rintro e we ⟨a5, b5, c5, d5, rfl, H5, hbe⟩
      have S1 := bthen S0 hbe
      refine ⟨_, rfl, S1, ?_⟩
      refine wpAnyH_call (j := 3) (f := 10) (args := #[.agg (tnR T (slN a4 T.rs.length) (slN b4 T.fs.length) (slN c4 T.js.length) (slN d4 T.ps.length)), .agg (tnR T (slN a5 T.rs.length) (slN b5 T.fs.length) (slN c5 T.js.length) (slN d5 T.ps.length))]) (by kernel_rfl) rfl (by kernel_rfl) (by kernel_rfl) ((KE a4 b4 c4 d4 a5 b5 c5 d5 we (G8.step S1) H5).mono ?_)
      rintro e wf ⟨rfl, hbf⟩
      have S2 := bthen S1 hbf
      refine ⟨_, rfl, S2, ?_⟩
      refine wpAnyH_take (i := 4) (v := .bool false) rfl (by kernel_rfl) (by kernel_rfl) (by kernel_rfl) (fun _ _ _ h => h) (yif rfl fun w' hw' => by kernel_rfl) (by assumption) ?_
      refine wpAnyH_done (by kernel_rfl) ?_ _
      have C9 := C8.step S2
      have Y9 := Y8.step S2
      have J9 := J8.step S2
      have B9 := Lib.hid (bthen B8.out S2)
      clear A8 C8 X8 Y8 G8 J8 B8 S0 S1 S2 H5 hbe hbf KT KE
      go_simp
      go_wp2_with fail
      refine wp_region_held (S := fun w' => Below wf.heap.size wf w') (by kernel_rfl) ?_
      show wpAnyH _ _ _ _ _ 5 (Array.replicate 5 false) _ _
      have S0 : Below wf.heap.size wf { wf with drawn := wf.drawn + 1 } := bdrew (Below.refl _ wf) 1
      generalize hw0 : ({ wf with drawn := wf.drawn + 1 } : World) = wg at S0 ⊢
      clear hw0
      refine wpAnyH_take (i := 0) (v := .agg (tnR U (slN a6 U.rs.length) (slN b6 U.fs.length) (slN c6 U.js.length) (slN d6 U.ps.length))) rfl (by kernel_rfl) (by kernel_rfl) (by kernel_rfl) (fun _ _ _ h => h) (yif rfl fun w' hw' => x_load 35 (.tmp 8) rfl ⟨w6.heap.size, 0, none⟩ (by kernel_rfl) (run_tn 35 _ (Y9.step hw') Try.underlying35 (by kernel_rfl))) (by assumption) ?_
      refine wpAnyH_take (i := 1) (v := .agg (tnR U ur uf uj up)) rfl (by kernel_rfl) (by kernel_rfl) (by kernel_rfl) (fun _ _ _ h => h) (yif rfl fun w' hw' => x_load 28 (.tmp 3) rfl ⟨w.heap.size + 1, 0, none⟩ (by kernel_rfl) (run_tn 28 _ (C9.step hw') Try.underlying28 (by kernel_rfl))) (by assumption) ?_
      refine wpAnyH_call (j := 2) (f := 8) (args := #[.agg (tnR U ur uf uj up)]) (by kernel_rfl) rfl (by kernel_rfl) (by kernel_rfl) ((KU wg (bthen B9.out S0)).mono ?_)
      rintro e wh ⟨a7, b7, c7, d7, rfl, H7, hbg⟩
      have S1 := bthen S0 hbg
      refine ⟨_, rfl, S1, ?_⟩
      refine wpAnyH_call (j := 3) (f := 10) (args := #[.agg (tnR U (slN a6 U.rs.length) (slN b6 U.fs.length) (slN c6 U.js.length) (slN d6 U.ps.length)), .agg (tnR U (slN a7 U.rs.length) (slN b7 U.fs.length) (slN c7 U.js.length) (slN d7 U.ps.length))]) (by kernel_rfl) rfl (by kernel_rfl) (by kernel_rfl) ((KF a6 b6 c6 d6 a7 b7 c7 d7 wh (J9.step S1) H7).mono ?_)
      rintro e wi ⟨rfl, hbh⟩
      have S2 := bthen S1 hbh
      refine ⟨_, rfl, S2, ?_⟩
      refine wpAnyH_take (i := 4) (v := .bool false) rfl (by kernel_rfl) (by kernel_rfl) (by kernel_rfl) (fun _ _ _ h => h) (yif rfl fun w' hw' => by kernel_rfl) (by assumption) ?_
      refine wpAnyH_done (by kernel_rfl) ?_ _
      have BZ := Lib.hid (bthen B9.out S2)
      clear C9 Y9 J9 B9 S0 S1 S2 H7 hbg hbh KU KF
      go_simp
      go_wp2
      go_ret
      exact ⟨rfl, BZ.out⟩
    · simp only [szV_lt (show 1048576 - ((tnN T : Nat) : Int) < ((tnN U : Nat) : Int) from by omega)] at K2
      clear hB hB' hI hJ BB hm hn
      go_enter Try.func3, Try.ntmps3
      go_wp2_with (first | ((with_reducible refine is_load 28 _ rfl ?_); refine wpList_load_at rfl 28 _ rfl _ rfl (tnR T vr vf vj vp) _ (by with_reducible assumption) 7 (rfl) _ Try.underlying28 rfl (by kernel_rfl) ?_) | ((with_reducible refine is_load 28 _ rfl ?_); refine wpList_load_at rfl 28 _ rfl _ rfl (tnR U ur uf uj up) _ (by with_reducible assumption) 7 (rfl) _ Try.underlying28 rfl (by kernel_rfl) ?_))
      refine K1.mono ?_
      rintro e w1 ⟨rfl, hb1⟩
      have A1 := A0.step hb1
      have C1 := C0.step hb1
      have B1 := Lib.hid (bthen B0.out hb1)
      clear A0 C0 B0 hb1 K1
      go_wp2_with (first | ((with_reducible refine is_load 28 _ rfl ?_); refine wpList_load_at rfl 28 _ rfl _ rfl (tnR T vr vf vj vp) _ (by with_reducible assumption) 7 (rfl) _ Try.underlying28 rfl (by kernel_rfl) ?_) | ((with_reducible refine is_load 28 _ rfl ?_); refine wpList_load_at rfl 28 _ rfl _ rfl (tnR U ur uf uj up) _ (by with_reducible assumption) 7 (rfl) _ Try.underlying28 rfl (by kernel_rfl) ?_))
      refine (K2 _ B1.out).mono ?_
      rintro e w2 ⟨rfl, hb2⟩
      go_wp2_with fail
      go_ret
      exact ⟨rfl, bthen B1.out hb2⟩
  · rw [szV_lt (by omega)] at K1
    go_enter Try.func3, Try.ntmps3
    go_wp2_with (first | ((with_reducible refine is_load 28 _ rfl ?_); refine wpList_load_at rfl 28 _ rfl _ rfl (tnR T vr vf vj vp) _ (by with_reducible assumption) 7 (rfl) _ Try.underlying28 rfl (by kernel_rfl) ?_) | ((with_reducible refine is_load 28 _ rfl ?_); refine wpList_load_at rfl 28 _ rfl _ rfl (tnR U ur uf uj up) _ (by with_reducible assumption) 7 (rfl) _ Try.underlying28 rfl (by kernel_rfl) ?_))
    refine K1.mono ?_
    rintro e w1 ⟨rfl, hb1⟩
    go_wp2_with fail
    go_ret
    exact ⟨rfl, bthen B0.out hb1⟩

set_option maxRecDepth 100000 in
theorem lifted (os : Os) (started : os.Started) (H : Type) (enc : TypeId × Value → H) :
    ReturnsInHanded {} Try.checked os 3 .any (Rows.fnExactSameTownSpec.pre6 enc Try.prog Try.f3 Rows.fnExactSameTownRow.domain false) (Rows.fnExactSameTownSpec.post enc Try.prog Try.f3 false true false false) := by
  refine law_liftedS enc os started (by kernel_rfl) Try.func3
    (ChangeSpec.witness6 (enc := enc) (C := Try.checked) false ⟨#[], #[.agg #[.slice none 0 0, .slice none 0 0, .slice none 0 0, .slice none 0 0, .int .i64 0, .float .f32 0, .float .f32 0], .agg #[.slice none 0 0, .slice none 0 0, .slice none 0 0, .slice none 0 0, .int .i64 0, .float .f32 0, .float .f32 0]], []⟩ 24 (by kernel_rfl) (by kernel_rfl) (by kernel_rfl) (by kernel_rfl)) rfl (by kernel_rfl) ?_ ?_ ?_
  · rw [Try.params3]
    intro t ht
    have hall : (#[28, 28].toList.all fun u => Try.prog.readableRec u && decide (u < Try.prog.types.size)) = true := by kernel_rfl
    have := List.all_eq_true.1 hall t ht
    simpa using this
  · intro ds h
    rw [Try.params3] at h
    match ds, h with
    | [d0, d1], _ => rfl
  · intro W base args ds ps hl hval hA
    rw [Try.params3] at hl hval hA
    obtain ⟨v0, v1, rfl⟩ : ∃ v0 v1, args = #[v0, v1] := by
      obtain ⟨l⟩ := args
      match l, hl with
      | [v0, v1], _ => exact ⟨v0, v1, rfl⟩
    obtain ⟨vx0, vy0, dd0, de0, pp0, pq0, ee0, -, -, tr0, rr0⟩ := trodAll_cons hA
    obtain ⟨rfl, rfl⟩ := List.cons.inj ee0
    obtain ⟨vx1, vy1, dd1, de1, pp1, pq1, ee1, -, -, tr1, rr1⟩ := trodAll_cons rr0
    obtain ⟨rfl, rfl⟩ := List.cons.inj ee1
    obtain ⟨vr0, vf0, vj0, vp0, T0, rfl, hI0, hB0⟩ := shape_town (hval 0 _ _ rfl rfl) tr0
    obtain ⟨vr1, vf1, vj1, vp1, T1, rfl, hI1, hB1⟩ := shape_town (hval 1 _ _ rfl rfl) tr1
    exact walk W vr0 vf0 vj0 vp0 T0 hI0 hB0 vr1 vf1 vj1 vp1 T1 hI1 hB1

/-- THE STATEMENT -/
theorem proved : Rows.FnExactSameTownSaid := by
  first
    | (refine OpenClaim.holds_of_wide 3 Try.f3 rfl rfl rfl rfl rfl rfl rfl ⟨rfl, rfl, rfl, rfl, rfl⟩ rfl rfl rfl rfl rfl (by kernel_rfl) Try.func3 (by kernel_rfl) (of_decide_eq_true (by kernel_rfl)) ?_ (fun os started H enc _ => lifted os started H enc))
    | (refine OpenClaim.holds_of_wide_leaving 3 Try.f3 rfl rfl rfl rfl rfl rfl rfl ⟨rfl, rfl, rfl, rfl, rfl⟩ rfl rfl rfl rfl rfl (by kernel_rfl) Try.func3 (by kernel_rfl) (of_decide_eq_true (by kernel_rfl)) ?_ (fun os started H enc _ => leaving_of_handed (lifted os started H enc)))
  unfold Func.isWrapper
  first | (rw [if_pos (by decide +kernel)]; kernel_rfl) | (rw [if_neg (by decide +kernel)]; exact ⟨rfl, rfl⟩)
#print axioms proved
end Go.Proofs.Ytboahhipobcabaa.lawFnExactSameTown
