/-
  FnExactGreenIns: the program's GreenIns answers as its model, at every town and every number of a joint. No condition.
-/
import Derived.Test.YtboahhipobcabaaGreatGrS
import Derived.Test.YtboahhipobcabaaGreatShTn
import Derived.Test.YtboahhipobcabaaGreatG15
import Derived.Test.YtboahhipobcabaaGreatG8
namespace Go.Proofs.YtboahhipobcabaaGreat.lawFnExactGreenIns
open Go Go.ChangeShapes Go.WideShapes Go.ChangeAt Go.RowKit


theorem vGI_len {T : Tn} (hW : ∀ i, i < T.ps.length → SlW (pS T.ps i)) (x : Int) : (vGI T x).1.length = 4 := by
  unfold vGI
  by_cases hc : jcT T x = 0
  · rw [if_pos hc]
    unfold jcT at hc
    cases hv : validT T
    · rw [hv] at hc; simp at hc
    · rw [hv] at hc
      cases hx : ixB T.js.length x
      · rw [hx] at hc; simp at hc
      · unfold ixB at hx
        simp only [decide_eq_true_eq] at hx
        have hF := JF.of hv (k := x.toNat) (by omega)
        exact cp4_len (grJ_len hW hF) hF.h4
  · rw [if_neg hc]; rfl
theorem eqBoolA4_same (ys : List Bool) (hl : ys.length = 4) (w : World) :
    Calls Tryz.prog 9 #[.agg (bl ys), .agg (bl ys)] w fun e w' => e = .returned (.bool true) ∧ Below w.heap.size w w' := by
  go_enter Tryz.func9, Tryz.ntmps9
  go_wp2
  go_loopw [5] (fun i wr => ∃ k : Nat, k ≤ 4 ∧ i = .int .i64 k ∧ Two w (bl ys) 30 (bl ys) 30 wr) (fun i _ => 4 - (intOf i).toNat)
  case atStart => exact ⟨0, by omega, rfl, Two.mk _ _ _ _ _⟩
  case round =>
    obtain ⟨k, hk, rfl, hT⟩ := hrel
    by_cases hlt : k < 4
    · have g1 := hT.cell1 (bl_get (bs := ys) (k := k) (by omega))
      have g2 := hT.cell2 (bl_get (bs := ys) (k := k) (by omega))
      go_wp2
      go_quiet (fail)
      go_wp2
      exact ⟨⟨k + 1, by omega, by go_num, hT.drewN _⟩, by simp [intOf]; omega⟩
    · go_wp2
      go_ret
      exact ⟨rfl, hT.2.2⟩
theorem run_tn {w : World} {g : Nat} {T : Tn} {vr vf vj vp : Value} {Ty : TypeId} (ty : TypeId) (fs : Array Field) (h : At w g (tnR T vr vf vj vp) Ty) (hu : Tryz.prog.underlying ty = some (.struct fs)) (hi : (Tryz.prog.info? ty).map (·.size) = some 7) :
    (Instr.loadAt ty (.pointer (some ⟨g, 0, none⟩))).run Tryz.prog w = .ok (.agg (tnR T vr vf vj vp)) w :=
  run_loadAt_part w g 0 7 ty (tnR T vr vf vj vp) Ty (0, 0) _ h hu rfl hi (by show 0 + 7 ≤ 7; omega)

set_option maxRecDepth 100000
set_option maxHeartbeats 4000000 in
theorem walk (w : World) (vr vf vj vp : Value) (T : Tn) (hI : TIn w vr vf vj vp T) (hB : TnB T) (x : Int) (_hx : -9223372036854775808 ≤ x ∧ x ≤ 9223372036854775807) :
    Calls Tryz.prog 3 #[.agg (tnR T vr vf vj vp), .int .i64 x] w (True? w) := by
  have A0 := At.new w (tnR T vr vf vj vp) 28
  have B0 := Lib.hid (b0 w (.cells (tnR T vr vf vj vp) 28))
  have K := szTown_any T vr vf vj vp 1048576 (by omega) _ (hI.step (Nat.le_refl _) (b0 w (.cells (tnR T vr vf vj vp) 28)))
  by_cases hn : tnN T ≤ 1048576
  · have hN := TnN.of hn
    rw [szV_ge (by omega)] at K
    have hnn : ¬ (1048576 - ((tnN T : Nat) : Int) < 0) := by omega
    have KT := fun w' (hb : Below w.heap.size w w') => toTown_any T vr vf vj vp w' (hI.step (Nat.le_refl _) hb) hN
    have KS := fun a b c d w' h => sGreenIns_own T a b c d x hN hB w' h
    have KV := fun a b c d w' h => GreenIns_own T a b c d x hN hB w' h
    have KE := fun a1 b1 c1 d1 a2 b2 c2 d2 w' h1 h2 => eqTown_st T a1 b1 c1 d1 a2 b2 c2 d2 w' h1 h2 hN hB
    have hol := vGI_len hB.hW x
    generalize vGI T x = vv at *
    obtain ⟨o, cd⟩ := vv
    have hol : o.length = 4 := hol
    change ∀ a b c d w', TOwn w' a b c d T → Calls _ _ _ w' (fun e w'' => e = .returned (.tuple #[.agg (bl o), .int .i64 cd]) ∧ Below w'.heap.size w' w'') at KS
    change ∀ a b c d w', TOwn w' a b c d T → Calls _ _ _ w' (fun e w'' => e = .returned (.tuple #[.agg (bl o), .int .i64 cd]) ∧ Below w'.heap.size w' w'') at KV
    have hs4 : (bl o).size = 4 := by rw [bl_size, hol]
    have KQ := fun w' => eqBoolA4_same o hol w'
    clear hI hN hB hn hol
    go_enter Tryz.func3, Tryz.ntmps3
    go_wp2_with (((with_reducible refine is_load 28 _ rfl ?_); refine wpList_load_at rfl 28 _ rfl _ rfl (tnR T vr vf vj vp) _ (by with_reducible assumption) 7 (rfl) _ Tryz.underlying28 rfl (by kernel_rfl) ?_))
    refine K.mono ?_
    rintro e w1 ⟨rfl, hb1⟩
    have A1 := A0.step hb1
    have B1 := Lib.hid (bthen B0.out hb1)
    clear A0 B0 hb1 K
    go_wp2_with (((with_reducible refine is_load 28 _ rfl ?_); refine wpList_load_at rfl 28 _ rfl _ rfl (tnR T vr vf vj vp) _ (by with_reducible assumption) 7 (rfl) _ Tryz.underlying28 rfl (by kernel_rfl) ?_))
    refine (KT _ B1.out).mono ?_
    rintro e w2 ⟨a2, b2, c2, d2, rfl, H2, hb2⟩
    have A2 := A1.step hb2
    have B2 := Lib.hid (bthen B1.out hb2)
    clear A1 B1 hb2
    go_wp2_with fail
    refine (KS _ _ _ _ _ H2).mono ?_
    rintro e w3 ⟨rfl, hb3⟩
    have A3a := A2.step hb3
    have B3a := Lib.hid (bthen B2.out hb3)
    clear A2 B2 hb3 H2 KS
    have Y0 := At.new w3 (#[.bool false, .bool false, .bool false, .bool false]) 30
    have X0 := Y0.setRow (bl o)
    have hset : Below w3.heap.size w3 ((w3.alloc (.cells (#[.bool false, .bool false, .bool false, .bool false]) 30)).setRow w3.heap.size (bl o)) := bset (b0 w3 (.cells (#[.bool false, .bool false, .bool false, .bool false]) 30)) (Nat.le_refl _) _
    have A3 := A3a.step hset
    have B3 := Lib.hid (bthen B3a.out hset)
    clear A3a B3a hset
    go_wp2_with (first | ((with_reducible refine is_store 30 _ _ rfl ?_); refine wpList_store_at rfl 30 _ _ rfl _ rfl (bl o) rfl (#[.bool false, .bool false, .bool false, .bool false]) _ (by with_reducible assumption) 4 (hs4) (rfl) (by kernel_rfl) (bl_one _) ?_) | ((with_reducible refine is_load 28 _ rfl ?_); refine wpList_load_at rfl 28 _ rfl _ rfl (tnR T vr vf vj vp) _ (by with_reducible assumption) 7 (rfl) _ Tryz.underlying28 rfl (by kernel_rfl) ?_))
    refine (KT _ B3.out).mono ?_
    rintro e w4 ⟨a4, b4, c4, d4, rfl, H4, hb4⟩
    have A4 := A3.step hb4
    have L4 := X0.step hb4
    have B4_ := Lib.hid (bthen B3.out hb4)
    clear A3 B3 hb4 Y0 X0
    have Y1 := At.new w4 (#[.slice none 0 0, .slice none 0 0, .slice none 0 0, .slice none 0 0, .int .i64 0, .float .f32 0, .float .f32 0]) 37
    have X1 := Y1.setRow (tnR T (slN a4 T.rs.length) (slN b4 T.fs.length) (slN c4 T.js.length) (slN d4 T.ps.length))
    have hset : Below w4.heap.size w4 ((w4.alloc (.cells (#[.slice none 0 0, .slice none 0 0, .slice none 0 0, .slice none 0 0, .int .i64 0, .float .f32 0, .float .f32 0]) 37)).setRow w4.heap.size (tnR T (slN a4 T.rs.length) (slN b4 T.fs.length) (slN c4 T.js.length) (slN d4 T.ps.length))) := bset (b0 w4 (.cells (#[.slice none 0 0, .slice none 0 0, .slice none 0 0, .slice none 0 0, .int .i64 0, .float .f32 0, .float .f32 0]) 37)) (Nat.le_refl _) _
    have A5 := A4.step hset
    have L5 := L4.step hset
    have G5 := H4.step hset
    have B5 := Lib.hid (bthen B4_.out hset)
    clear A4 L4 H4 B4_ hset
    go_wp2_with (first | ((with_reducible refine is_store 37 _ _ rfl ?_); refine wpList_store_at rfl 37 _ _ rfl _ rfl (tnR T (slN a4 T.rs.length) (slN b4 T.fs.length) (slN c4 T.js.length) (slN d4 T.ps.length)) rfl (#[.slice none 0 0, .slice none 0 0, .slice none 0 0, .slice none 0 0, .int .i64 0, .float .f32 0, .float .f32 0]) _ (by with_reducible assumption) 7 rfl rfl (by kernel_rfl) (tnC_one _ _ _ _ _ _ _ rfl rfl rfl rfl) ?_) | ((with_reducible refine is_load 37 _ rfl ?_); refine wpList_load_at rfl 37 _ rfl _ rfl (tnR T (slN a4 T.rs.length) (slN b4 T.fs.length) (slN c4 T.js.length) (slN d4 T.ps.length)) _ (by with_reducible assumption) 7 (rfl) _ Tryz.underlying37 rfl (by kernel_rfl) ?_) | ((with_reducible refine is_load 28 _ rfl ?_); refine wpList_load_at rfl 28 _ rfl _ rfl (tnR T vr vf vj vp) _ (by with_reducible assumption) 7 (rfl) _ Tryz.underlying28 rfl (by kernel_rfl) ?_))
    refine (KV _ _ _ _ _ G5).mono ?_
    rintro e w6 ⟨rfl, hb6⟩
    have A6 := A5.step hb6
    have L6 := L5.step hb6
    have X6 := X1.step hb6
    have G6 := G5.step hb6
    have B6 := Lib.hid (bthen B5.out hb6)
    clear KV Y1 X1 A5 L5 G5 B5 hb6
    have Y2 := At.new w6 (#[.bool false, .bool false, .bool false, .bool false]) 30
    have X2 := Y2.setRow (bl o)
    have hset : Below w6.heap.size w6 ((w6.alloc (.cells (#[.bool false, .bool false, .bool false, .bool false]) 30)).setRow w6.heap.size (bl o)) := bset (b0 w6 (.cells (#[.bool false, .bool false, .bool false, .bool false]) 30)) (Nat.le_refl _) _
    have A7 := A6.step hset
    have L7 := L6.step hset
    have X7 := X6.step hset
    have G7 := G6.step hset
    have B7 := Lib.hid (bthen B6.out hset)
    clear A6 L6 X6 G6 B6 hset
    go_wp2_with (first | ((with_reducible refine is_store 30 _ _ rfl ?_); refine wpList_store_at rfl 30 _ _ rfl _ rfl (bl o) rfl (#[.bool false, .bool false, .bool false, .bool false]) _ (by with_reducible assumption) 4 (hs4) (rfl) (by kernel_rfl) (bl_one _) ?_) | ((with_reducible refine is_load 30 _ rfl ?_); refine wpList_load_at rfl 30 _ rfl _ rfl (bl o) _ (by with_reducible assumption) 4 (hs4) _ Tryz.underlying30 rfl (by kernel_rfl) ?_))
    refine (KQ _).mono ?_
    rintro e w8 ⟨rfl, hb8⟩
    have A8 := A7.step hb8
    have X8 := X7.step hb8
    have G8 := G7.step hb8
    have B8 := Lib.hid (bthen B7.out hb8)
    clear A7 L7 X7 G7 B7 hb8 Y2 X2 KQ
    go_wp2_with fail
    refine wp_region_held (S := fun w' => Below w8.heap.size w8 w') (by kernel_rfl) ?_
    show wpAnyH _ _ _ _ _ 5 (Array.replicate 5 false) _ _
    have S0 : Below w8.heap.size w8 { w8 with drawn := w8.drawn + 1 } := bdrew (Below.refl _ w8) 1
    generalize hw0 : ({ w8 with drawn := w8.drawn + 1 } : World) = wd at S0 ⊢
    clear hw0
    refine wpAnyH_take (i := 0) (v := .agg (tnR T (slN a4 T.rs.length) (slN b4 T.fs.length) (slN c4 T.js.length) (slN d4 T.ps.length))) rfl (by kernel_rfl) (by kernel_rfl) (by kernel_rfl) (fun _ _ _ h => h) (yif rfl fun w' hw' => x_load 37 (.tmp 8) rfl ⟨w4.heap.size, 0, none⟩ (by kernel_rfl) (run_tn 37 _ (X8.step hw') Tryz.underlying37 (by kernel_rfl))) (by assumption) ?_
    refine wpAnyH_take (i := 1) (v := .agg (tnR T vr vf vj vp)) rfl (by kernel_rfl) (by kernel_rfl) (by kernel_rfl) (fun _ _ _ h => h) (yif rfl fun w' hw' => x_load 28 (.tmp 2) rfl ⟨w.heap.size, 0, none⟩ (by kernel_rfl) (run_tn 28 _ (A8.step hw') Tryz.underlying28 (by kernel_rfl))) (by assumption) ?_
    refine wpAnyH_call (j := 2) (f := 7) (args := #[.agg (tnR T vr vf vj vp)]) (by kernel_rfl) rfl (by kernel_rfl) (by kernel_rfl) ((KT wd (bthen B8.out S0)).mono ?_)
    rintro e we ⟨a5, b5, c5, d5, rfl, H5, hbe⟩
    have S1 := bthen S0 hbe
    refine ⟨_, rfl, S1, ?_⟩
    refine wpAnyH_call (j := 3) (f := 10) (args := #[.agg (tnR T (slN a4 T.rs.length) (slN b4 T.fs.length) (slN c4 T.js.length) (slN d4 T.ps.length)), .agg (tnR T (slN a5 T.rs.length) (slN b5 T.fs.length) (slN c5 T.js.length) (slN d5 T.ps.length))]) (by kernel_rfl) rfl (by kernel_rfl) (by kernel_rfl) ((KE a4 b4 c4 d4 a5 b5 c5 d5 we (G8.step S1) H5).mono ?_)
    rintro e wf ⟨rfl, hbf⟩
    have S2 := bthen S1 hbf
    refine ⟨_, rfl, S2, ?_⟩
    refine wpAnyH_take (i := 4) (v := .bool false) rfl (by kernel_rfl) (by kernel_rfl) (by kernel_rfl) (fun _ _ _ h => h) (yif rfl fun w' hw' => by kernel_rfl) (by assumption) ?_
    refine wpAnyH_done (by kernel_rfl) ?_ _
    have BZ := Lib.hid (bthen B8.out S2)
    clear A8 X8 G8 B8 S0 S1 S2 H5 hbe hbf KT KE
    go_simp
    go_wp2
    go_ret
    exact ⟨rfl, BZ.out⟩
  · rw [szV_lt (by omega)] at K
    go_enter Tryz.func3, Tryz.ntmps3
    go_wp2_with (((with_reducible refine is_load 28 _ rfl ?_); refine wpList_load_at rfl 28 _ rfl _ rfl (tnR T vr vf vj vp) _ (by with_reducible assumption) 7 (rfl) _ Tryz.underlying28 rfl (by kernel_rfl) ?_))
    refine K.mono ?_
    rintro e w1 ⟨rfl, hb1⟩
    go_wp2_with fail
    go_ret
    exact ⟨rfl, bthen B0.out hb1⟩

set_option maxRecDepth 100000 in
theorem lifted (os : Os) (started : os.Started) (H : Type) (enc : TypeId × Value → H) :
    ReturnsInHanded {} Tryz.checked os 3 .any (Rows.fnExactGreenInsSpec.pre6 enc Tryz.prog Tryz.f3 Rows.fnExactGreenInsRow.domain false) (Rows.fnExactGreenInsSpec.post enc Tryz.prog Tryz.f3 false true false false) := by
  refine law_liftedS enc os started (by kernel_rfl) Tryz.func3
    (ChangeSpec.witness6 (enc := enc) (C := Tryz.checked) false ⟨#[], #[.agg #[.slice none 0 0, .slice none 0 0, .slice none 0 0, .slice none 0 0, .int .i64 0, .float .f32 0, .float .f32 0], .int .i64 0], []⟩ 24 (by kernel_rfl) (by kernel_rfl) (by kernel_rfl) (by kernel_rfl)) rfl (by kernel_rfl) ?_ ?_ ?_
  · rw [Tryz.params3]
    intro t ht
    have hall : (#[28, 2].toList.all fun u => Tryz.prog.readableRec u && decide (u < Tryz.prog.types.size)) = true := by kernel_rfl
    have := List.all_eq_true.1 hall t ht
    simpa using this
  · intro ds h
    rw [Tryz.params3] at h
    match ds, h with
    | [d0, d1], _ => rfl
  · intro W base args ds ps hl hval hA
    rw [Tryz.params3] at hl hval hA
    obtain ⟨v0, v1, rfl⟩ : ∃ v0 v1, args = #[v0, v1] := by
      obtain ⟨l⟩ := args
      match l, hl with
      | [v0, v1], _ => exact ⟨v0, v1, rfl⟩
    obtain ⟨vx0, vy0, dd0, de0, pp0, pq0, ee0, -, -, tr0, rr0⟩ := trodAll_cons hA
    obtain ⟨rfl, rfl⟩ := List.cons.inj ee0
    obtain ⟨vx1, vy1, dd1, de1, pp1, pq1, ee1, -, -, tr1, rr1⟩ := trodAll_cons rr0
    obtain ⟨rfl, rfl⟩ := List.cons.inj ee1
    obtain ⟨vr0, vf0, vj0, vp0, T0, rfl, hI0, hB0⟩ := shape_town (hval 0 _ _ rfl rfl) tr0
    obtain ⟨x1, rfl, h1⟩ := shape_i64 (hval 1 _ _ rfl rfl)
    exact walk W vr0 vf0 vj0 vp0 T0 hI0 hB0 x1 h1

/-- THE STATEMENT -/
theorem proved : Rows.FnExactGreenInsSaid := by
  first
    | (refine OpenClaim.holds_of_wide 3 Tryz.f3 rfl rfl rfl rfl rfl rfl rfl ⟨rfl, rfl, rfl, rfl, rfl⟩ rfl rfl rfl rfl rfl (by kernel_rfl) Tryz.func3 (by kernel_rfl) (of_decide_eq_true (by kernel_rfl)) ?_ (fun os started H enc _ => lifted os started H enc))
    | (refine OpenClaim.holds_of_wide_leaving 3 Tryz.f3 rfl rfl rfl rfl rfl rfl rfl ⟨rfl, rfl, rfl, rfl, rfl⟩ rfl rfl rfl rfl rfl (by kernel_rfl) Tryz.func3 (by kernel_rfl) (of_decide_eq_true (by kernel_rfl)) ?_ (fun os started H enc _ => leaving_of_handed (lifted os started H enc)))
  unfold Func.isWrapper
  first | (rw [if_pos (by decide +kernel)]; kernel_rfl) | (rw [if_neg (by decide +kernel)]; exact ⟨rfl, rfl⟩)
#print axioms proved
end Go.Proofs.YtboahhipobcabaaGreat.lawFnExactGreenIns
