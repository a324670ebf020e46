/-
  FnExactCarsIn: the program's CarsIn answers as its model, at every town. No condition.
-/
import Derived.Test.YtopjikgkoodbmaaG18
import Derived.Test.YtopjikgkoodbmaaShTn
import Derived.Test.YtopjikgkoodbmaaG10
import Derived.Test.YtopjikgkoodbmaaG7
namespace Go.Proofs.Ytopjikgkoodbmaa.lawFnExactCarsIn
open Go Go.ChangeShapes Go.WideShapes Go.ChangeAt Go.RowKit


theorem run_tn {w : World} {g : Nat} {T : Tn} {vr vf vj vp : Value} {Ty : TypeId} (ty : TypeId) (fs : Array Field) (h : At w g (tnR T vr vf vj vp) Ty) (hu : Try.prog.underlying ty = some (.struct fs)) (hi : (Try.prog.info? ty).map (·.size) = some 7) :
    (Instr.loadAt ty (.pointer (some ⟨g, 0, none⟩))).run Try.prog w = .ok (.agg (tnR T vr vf vj vp)) w :=
  run_loadAt_part w g 0 7 ty (tnR T vr vf vj vp) Ty (0, 0) _ h hu rfl hi (by show 0 + 7 ≤ 7; omega)


theorem vCI_good (T : Tn) : (vCI T).1 < 4294967296 ∧ nanB (vCI T).1 = false := by
  unfold vCI
  cases h : validT T
  · exact ⟨by show (0 : Nat) < 4294967296; decide, by show nanB 0 = false; decide⟩
  · exact nan_le (carsT_le (cK_le h) _ (Nat.le_refl _)) (by omega)
set_option maxRecDepth 100000
set_option maxHeartbeats 2000000 in
theorem walk (w : World) (vr vf vj vp : Value) (T : Tn) (hI : TIn w vr vf vj vp T) (hB : TnB T) :
    Calls Try.prog 5 #[.agg (tnR T vr vf vj vp)] w (True? w) := by
  have A0 := At.new w (tnR T vr vf vj vp) 28
  have B0 := Lib.hid (b0 w (.cells (tnR T vr vf vj vp) 28))
  have K := szTown_any T vr vf vj vp 1048576 (by omega) _ (hI.step (Nat.le_refl _) (b0 w (.cells (tnR T vr vf vj vp) 28)))
  by_cases hn : tnN T ≤ 1048576
  · have hN := TnN.of hn
    rw [szV_ge (by omega)] at K
    have hnn : ¬ (1048576 - ((tnN T : Nat) : Int) < 0) := by omega
    have KT := fun w' (hb : Below w.heap.size w w') => toTown_any T vr vf vj vp w' (hI.step (Nat.le_refl _) hb) hN
    have KS := fun a b c d w' h => sCarsIn_own T a b c d hN hB w' h
    have KV := fun a b c d w' h => CarsIn_own T a b c d hN hB w' h
    have KE := fun a1 b1 c1 d1 a2 b2 c2 d2 w' h1 h2 => eqTown_st T a1 b1 c1 d1 a2 b2 c2 d2 w' h1 h2 hN hB
    have hgood := vCI_good T
    generalize vCI T = vv at *
    obtain ⟨o1, o2⟩ := vv
    have hg1 : o1 < 4294967296 := hgood.1
    have hg2 : nanB o1 = false := hgood.2
    clear hgood
    clear hI hN hB hn
    go_enter Try.func5, Try.ntmps5
    go_wp2_with (((with_reducible refine is_load 28 _ rfl ?_); refine wpList_load_at rfl 28 _ rfl _ rfl (tnR T vr vf vj vp) _ (by with_reducible assumption) 7 (rfl) _ Try.underlying28 rfl (by kernel_rfl) ?_))
    refine K.mono ?_
    rintro e w1 ⟨rfl, hb1⟩
    have A1 := A0.step hb1
    have B1 := Lib.hid (bthen B0.out hb1)
    clear A0 B0 hb1 K
    go_wp2_with (((with_reducible refine is_load 28 _ rfl ?_); refine wpList_load_at rfl 28 _ rfl _ rfl (tnR T vr vf vj vp) _ (by with_reducible assumption) 7 (rfl) _ Try.underlying28 rfl (by kernel_rfl) ?_))
    refine (KT _ B1.out).mono ?_
    rintro e w2 ⟨a2, b2, c2, d2, rfl, H2, hb2⟩
    have A2 := A1.step hb2
    have B2 := Lib.hid (bthen B1.out hb2)
    clear A1 B1 hb2
    go_wp2_with fail
    refine (KS _ _ _ _ _ H2).mono ?_
    rintro e w3 ⟨rfl, hb3⟩
    have A3 := A2.step hb3
    have B3 := Lib.hid (bthen B2.out hb3)
    clear A2 B2 hb3 H2 KS
    go_wp2_with (((with_reducible refine is_load 28 _ rfl ?_); refine wpList_load_at rfl 28 _ rfl _ rfl (tnR T vr vf vj vp) _ (by with_reducible assumption) 7 (rfl) _ Try.underlying28 rfl (by kernel_rfl) ?_))
    refine (KT _ B3.out).mono ?_
    rintro e w4 ⟨a4, b4, c4, d4, rfl, H4, hb4⟩
    have A4 := A3.step hb4
    have B4 := Lib.hid (bthen B3.out hb4)
    clear A3 B3 hb4
    have X0 := At.new w4 (#[.slice none 0 0, .slice none 0 0, .slice none 0 0, .slice none 0 0, .int .i64 0, .float .f32 0, .float .f32 0]) 35
    have X5 := X0.setRow (tnR T (slN a4 T.rs.length) (slN b4 T.fs.length) (slN c4 T.js.length) (slN d4 T.ps.length))
    have hset : Below w4.heap.size w4 ((w4.alloc (.cells (#[.slice none 0 0, .slice none 0 0, .slice none 0 0, .slice none 0 0, .int .i64 0, .float .f32 0, .float .f32 0]) 35)).setRow w4.heap.size (tnR T (slN a4 T.rs.length) (slN b4 T.fs.length) (slN c4 T.js.length) (slN d4 T.ps.length))) := bset (b0 w4 (.cells (#[.slice none 0 0, .slice none 0 0, .slice none 0 0, .slice none 0 0, .int .i64 0, .float .f32 0, .float .f32 0]) 35)) (Nat.le_refl _) _
    have A5 := A4.step hset
    have G5 := H4.step hset
    have B5 := Lib.hid (bthen B4.out hset)
    clear A4 B4 H4 hset
    go_wp2_with (first | ((with_reducible refine is_store 35 _ _ rfl ?_); refine wpList_store_at rfl 35 _ _ rfl _ rfl (tnR T (slN a4 T.rs.length) (slN b4 T.fs.length) (slN c4 T.js.length) (slN d4 T.ps.length)) rfl (#[.slice none 0 0, .slice none 0 0, .slice none 0 0, .slice none 0 0, .int .i64 0, .float .f32 0, .float .f32 0]) _ (by with_reducible assumption) 7 rfl rfl (by kernel_rfl) (tnC_one _ _ _ _ _ _ _ rfl rfl rfl rfl) ?_) | ((with_reducible refine is_load 35 _ rfl ?_); refine wpList_load_at rfl 35 _ rfl _ rfl (tnR T (slN a4 T.rs.length) (slN b4 T.fs.length) (slN c4 T.js.length) (slN d4 T.ps.length)) _ (by with_reducible assumption) 7 (rfl) _ Try.underlying35 rfl (by kernel_rfl) ?_) | ((with_reducible refine is_load 28 _ rfl ?_); refine wpList_load_at rfl 28 _ rfl _ rfl (tnR T vr vf vj vp) _ (by with_reducible assumption) 7 (rfl) _ Try.underlying28 rfl (by kernel_rfl) ?_))
    refine (KV _ _ _ _ _ G5).mono ?_
    rintro e w6 ⟨rfl, hb6⟩
    have A6 := A5.step hb6
    have X6 := X5.step hb6
    have G6 := G5.step hb6
    have B6 := Lib.hid (bthen B5.out hb6)
    clear KV X0 A5 X5 G5 B5 hb6
    have u1 := wide_at hg1 hg2
    go_wp2_with (go_at_call 17; refine (sameFloat_same _ hg1 hg2 _).mono ?_; rintro e w' ⟨rfl, rfl⟩)
    refine wp_region_held (S := fun w' => Below w6.heap.size w6 w') (by kernel_rfl) ?_
    show wpAnyH _ _ _ _ _ 5 (Array.replicate 5 false) _ _
    have S0 : Below w6.heap.size w6 { w6 with drawn := w6.drawn + 1 } := bdrew (Below.refl _ w6) 1
    generalize hw0 : ({ w6 with drawn := w6.drawn + 1 } : World) = w7 at S0 ⊢
    clear hw0
    refine wpAnyH_take (i := 0) (v := .agg (tnR T (slN a4 T.rs.length) (slN b4 T.fs.length) (slN c4 T.js.length) (slN d4 T.ps.length))) rfl (by kernel_rfl) (by kernel_rfl) (by kernel_rfl) (fun _ _ _ h => h) (yif rfl fun w' hw' => x_load 35 (.tmp 6) rfl ⟨w4.heap.size, 0, none⟩ (by kernel_rfl) (run_tn 35 _ (X6.step hw') Try.underlying35 (by kernel_rfl))) (by assumption) ?_
    refine wpAnyH_take (i := 1) (v := .agg (tnR T vr vf vj vp)) rfl (by kernel_rfl) (by kernel_rfl) (by kernel_rfl) (fun _ _ _ h => h) (yif rfl fun w' hw' => x_load 28 (.tmp 1) rfl ⟨w.heap.size, 0, none⟩ (by kernel_rfl) (run_tn 28 _ (A6.step hw') Try.underlying28 (by kernel_rfl))) (by assumption) ?_
    refine wpAnyH_call (j := 2) (f := 10) (args := #[.agg (tnR T vr vf vj vp)]) (by kernel_rfl) rfl (by kernel_rfl) (by kernel_rfl) ((KT w7 (bthen B6.out S0)).mono ?_)
    rintro e w8 ⟨a8, b8, c8, d8, rfl, H8, hb8⟩
    have S1 := bthen S0 hb8
    refine ⟨_, rfl, S1, ?_⟩
    refine wpAnyH_call (j := 3) (f := 12) (args := #[.agg (tnR T (slN a4 T.rs.length) (slN b4 T.fs.length) (slN c4 T.js.length) (slN d4 T.ps.length)), .agg (tnR T (slN a8 T.rs.length) (slN b8 T.fs.length) (slN c8 T.js.length) (slN d8 T.ps.length))]) (by kernel_rfl) rfl (by kernel_rfl) (by kernel_rfl) ((KE a4 b4 c4 d4 a8 b8 c8 d8 w8 (G6.step S1) H8).mono ?_)
    rintro e w9 ⟨rfl, hb9⟩
    have S2 := bthen S1 hb9
    refine ⟨_, rfl, S2, ?_⟩
    refine wpAnyH_take (i := 4) (v := .bool false) rfl (by kernel_rfl) (by kernel_rfl) (by kernel_rfl) (fun _ _ _ h => h) (yif rfl fun w' hw' => by kernel_rfl) (by assumption) ?_
    refine wpAnyH_done (by kernel_rfl) ?_ _
    have B9 := Lib.hid (bthen B6.out S2)
    clear A6 X6 G6 B6 H8 S0 S1 S2 hb8 hb9 KT KE
    simp only [Act.put, Array.setIfInBounds]
    go_wp2
    go_ret
    exact ⟨rfl, B9.out⟩
  · rw [szV_lt (by omega)] at K
    go_enter Try.func5, Try.ntmps5
    go_wp2_with (((with_reducible refine is_load 28 _ rfl ?_); refine wpList_load_at rfl 28 _ rfl _ rfl (tnR T vr vf vj vp) _ (by with_reducible assumption) 7 (rfl) _ Try.underlying28 rfl (by kernel_rfl) ?_))
    refine K.mono ?_
    rintro e w1 ⟨rfl, hb1⟩
    go_wp2_with fail
    go_ret
    exact ⟨rfl, bthen B0.out hb1⟩

set_option maxRecDepth 100000 in
theorem lifted (os : Os) (started : os.Started) (H : Type) (enc : TypeId × Value → H) :
    ReturnsInHanded {} Try.checked os 5 .any (Rows.fnExactCarsInSpec.pre6 enc Try.prog Try.f5 Rows.fnExactCarsInRow.domain false) (Rows.fnExactCarsInSpec.post enc Try.prog Try.f5 false true false false) := by
  refine law_liftedS enc os started (by kernel_rfl) Try.func5
    (ChangeSpec.witness6 (enc := enc) (C := Try.checked) false ⟨#[], #[.agg #[.slice none 0 0, .slice none 0 0, .slice none 0 0, .slice none 0 0, .int .i64 0, .float .f32 0, .float .f32 0]], []⟩ 24 (by kernel_rfl) (by kernel_rfl) (by kernel_rfl) (by kernel_rfl)) rfl (by kernel_rfl) ?_ ?_ ?_
  · rw [Try.params5]
    intro t ht
    have hall : (#[28].toList.all fun u => Try.prog.readableRec u && decide (u < Try.prog.types.size)) = true := by kernel_rfl
    have := List.all_eq_true.1 hall t ht
    simpa using this
  · intro ds h
    rw [Try.params5] at h
    match ds, h with
    | [d0], _ => rfl
  · intro W base args ds ps hl hval hA
    rw [Try.params5] at hl hval hA
    obtain ⟨v0, rfl⟩ : ∃ v0, args = #[v0] := by
      obtain ⟨l⟩ := args
      match l, hl with
      | [v0], _ => exact ⟨v0, rfl⟩
    obtain ⟨vx0, vy0, dd0, de0, pp0, pq0, ee0, -, -, tr0, rr0⟩ := trodAll_cons hA
    obtain ⟨rfl, rfl⟩ := List.cons.inj ee0
    obtain ⟨vr0, vf0, vj0, vp0, T0, rfl, hI0, hB0⟩ := shape_town (hval 0 _ _ rfl rfl) tr0
    exact walk W vr0 vf0 vj0 vp0 T0 hI0 hB0

/-- THE STATEMENT -/
theorem proved : Rows.FnExactCarsInSaid := by
  first
    | (refine OpenClaim.holds_of_wide 5 Try.f5 rfl rfl rfl rfl rfl rfl rfl ⟨rfl, rfl, rfl, rfl, rfl⟩ rfl rfl rfl rfl rfl (by kernel_rfl) Try.func5 (by kernel_rfl) (of_decide_eq_true (by kernel_rfl)) ?_ (fun os started H enc _ => lifted os started H enc))
    | (refine OpenClaim.holds_of_wide_leaving 5 Try.f5 rfl rfl rfl rfl rfl rfl rfl ⟨rfl, rfl, rfl, rfl, rfl⟩ rfl rfl rfl rfl rfl (by kernel_rfl) Try.func5 (by kernel_rfl) (of_decide_eq_true (by kernel_rfl)) ?_ (fun os started H enc _ => leaving_of_handed (lifted os started H enc)))
  unfold Func.isWrapper
  first | (rw [if_pos (by decide +kernel)]; kernel_rfl) | (rw [if_neg (by decide +kernel)]; exact ⟨rfl, rfl⟩)
#print axioms proved
end Go.Proofs.Ytopjikgkoodbmaa.lawFnExactCarsIn
