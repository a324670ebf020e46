/-
  FnExactJoinTallies: the program's JoinTallies answers as its model, and owns its answer, at every two lists of tallies. No condition.
-/
import Derived.Test.YtlffcpoooaoneaaJoinI
import Derived.Test.YtlffcpoooaoneaaEqT
import Derived.Test.YtlffcpoooaoneaaMarkT2
import Derived.Test.YtlffcpoooaoneaaShTl
import Derived.Test.YtlffcpoooaoneaaLawS
import Derived.Test.YtlffcpoooaoneaaLeave
namespace Go.Proofs.Ytlffcpoooaoneaa.lawFnExactJoinTallies
open Go Go.ChangeShapes Go.WideShapes Go.ChangeAt Go.RowKit

set_option maxRecDepth 100000
set_option maxHeartbeats 4000000 in
theorem walk (w : World) (a : Option Addr) (cap : Nat) (xs : Ts) (hF : STl w (.slice a xs.length cap) xs) (a2 : Option Addr) (cap2 : Nat) (ys : Ts) (hE : STl w (.slice a2 ys.length cap2) ys) :
    Calls Try.prog 3 #[.slice a xs.length cap, .slice a2 ys.length cap2] w (True? w) := by
  have hW := hF.wf
  have hW2 := hE.wf
  have K := szTallyS_any a xs.length cap 1048576 (by omega) hF.len
  by_cases hn : xs.length ≤ 1048576
  · rw [if_neg (by omega)] at K
    have hnn : ¬ (1048576 - ((xs.length : Nat) : Int) < 0) := by omega
    have K2 := szTallyS_any a2 ys.length cap2 (1048576 - (xs.length : Int)) (by omega) hE.len
    by_cases hn2 : xs.length + ys.length ≤ 1048576
    · rw [if_neg (by omega)] at K2
      have hnn2 : ¬ (1048576 - ((xs.length : Nat) : Int) - ((ys.length : Nat) : Int) < 0) := by omega
      have hn2 : ys.length ≤ 1048576 := by omega
      have KS := fun G G2 w h h2 => sJoinTallies_any G xs xs.length hW hn 111 G2 ys ys.length hW2 hn2 111 w h h2
      have KI := fun G G2 w h h2 => JoinTallies_any G xs hW hn 111 G2 ys hW2 hn2 111 w h h2
      obtain ⟨hyw, hyl⟩ := vJoin_w hW hW2
      generalize vJoin xs ys = q at KS KI hyw hyl
      obtain ⟨zs, cd⟩ := q
      simp only at KS KI hyw hyl
      have hyl : zs.length ≤ 1048576 := by omega
      have hym : zs.length ≤ maxLen := by unfold maxLen; omega
      have HF := Lib.hid hF
      have HE := Lib.hid hE
      have HY := Lib.hid hyw
      have BW := Lib.hid (Below.refl w.heap.size w)
      clear hF hE hyw
      go_enter Try.func3, Try.ntmps3
      go_wp2_with fail
      refine (K _).mono ?_
      rintro e w1 ⟨rfl, h1⟩
      subst w1
      clear K
      go_wp2_with fail
      refine (K2 _).mono ?_
      rintro e w1 ⟨rfl, h1⟩
      subst w1
      clear K2
      go_wp2_with fail
      refine (toTallyS_any _ xs _ (HF.out.step (Nat.le_refl _) BW.out) hn).mono ?_
      rintro e w1 ⟨rfl, G1, hb1⟩
      have B1 := Lib.hid hb1
      clear hb1
      go_wp2_with fail
      refine (toTallyS_any _ ys _ (HE.out.step (Nat.le_refl _) B1.out) hn2).mono ?_
      rintro e w2 ⟨rfl, E2, hb2⟩
      have G2 := G1.step hb2
      have B2 := Lib.hid (bthen B1.out hb2)
      clear hb2 B1 G1
      go_wp2_with fail
      refine (KS _ _ _ G2 E2).mono ?_
      rintro e w3 ⟨⟨v1, rfl, O1⟩, hb3⟩
      have B3 := Lib.hid (bthen B2.out hb3)
      have U1 := Lib.hid O1.block
      have HS := Lib.hid (show w.heap.size ≤ w2.heap.size ∧ w2.heap.size ≤ w3.heap.size from ⟨B2.out.size, hb3.size⟩)
      clear hb3 G2 E2 KS B2
      obtain ⟨va1, vc1, rfl⟩ := O1.any
      go_wp2_with fail
      refine (toTallyS_any _ xs _ (HF.out.step (Nat.le_refl _) B3.out) hn).mono ?_
      rintro e w4 ⟨rfl, G4, hb4⟩
      have B4 := Lib.hid (bthen B3.out hb4)
      have O1 := O1.step hb4
      have l4 := Lib.hid G4.lt
      clear hb4 B3
      go_wp2_with fail
      refine (toTallyS_any _ ys _ (HE.out.step (Nat.le_refl _) B4.out) hn2).mono ?_
      rintro e w5 ⟨rfl, E5, hb5⟩
      have B5 := Lib.hid (bthen B4.out hb5)
      have O1 := O1.step hb5
      have G5 := G4.step hb5
      have l5 := Lib.hid E5.lt
      clear hb5 B4 G4
      go_wp2_with fail
      refine (KI _ _ _ G5 E5).mono ?_
      rintro e w6 ⟨⟨v2, rfl, O2⟩, hb6⟩
      have B6 := Lib.hid (bthen B5.out hb6)
      have O1 := O1.step hb6
      have G6 := G5.step hb6
      have E6 := E5.step hb6
      clear hb6 B5 G5 E5
      obtain ⟨va2, vc2, rfl⟩ := O2.any
      go_wp2_with fail
      refine (eqTallyS_st _ _ zs hyl _ (O2.st HY.out hym) (O1.st HY.out hym)).mono ?_
      rintro e w7 ⟨rfl, hb7⟩
      have B7 := Lib.hid (bthen B6.out hb7)
      have O1 := O1.step hb7
      have O2 := O2.step hb7
      have G7 := G6.step hb7
      have E7 := E6.step hb7
      clear hb7 B6 G6 E6
      go_wp2_with fail
      refine (toTallyS_any _ xs _ (HF.out.step (Nat.le_refl _) B7.out) hn).mono ?_
      rintro e w8 ⟨rfl, H8, hb8⟩
      have B8 := Lib.hid (bthen B7.out hb8)
      have O1 := O1.step hb8
      have O2 := O2.step hb8
      have G8 := G7.step hb8
      have E8 := E7.step hb8
      clear hb8 B7 G7 E7
      go_wp2_with fail
      refine (eqTallyS_same _ _ xs _ _ hn _ _ _ G8 H8).mono ?_
      rintro e w9 ⟨rfl, hb9⟩
      have B9 := Lib.hid (bthen B8.out hb9)
      have O1 := O1.step hb9
      have O2 := O2.step hb9
      have G9 := G8.step hb9
      have E9 := E8.step hb9
      clear hb9 B8 G8 E8 H8
      go_wp2_with fail
      refine (toTallyS_any _ ys _ (HE.out.step (Nat.le_refl _) B9.out) hn2).mono ?_
      rintro e w10 ⟨rfl, H10, hb10⟩
      have B10 := Lib.hid (bthen B9.out hb10)
      have O1 := O1.step hb10
      have O2 := O2.step hb10
      have G10 := G9.step hb10
      have E10 := E9.step hb10
      clear hb10 B9 G9 E9
      go_wp2_with fail
      refine (eqTallyS_same _ _ ys _ _ hn2 _ _ _ E10 H10).mono ?_
      rintro e w11 ⟨rfl, hb11⟩
      have B11 := Lib.hid (bthen B10.out hb11)
      have O1 := O1.step hb11
      have O2 := O2.step hb11
      have G11 := G10.step hb11
      have E11 := E10.step hb11
      clear hb11 B10 G10 E10 H10
      have hs3 : w.heap.size ≤ w3.heap.size := by have := HS.out; omega
      have hs4 : w.heap.size ≤ w4.heap.size := by have := l4.out; omega
      go_wp2_with fail
      refine (markT_from _ xs.length _ _ _ hn (Nat.le_of_eq (tC_size xs).symm) 1 (by decide) _ G11).mono ?_
      rintro e w12 ⟨rfl, c12, rfl⟩
      have O1 := O1.setRow_other (g := w3.heap.size) (fun k hk => by have := (U1.out k hk).2; omega) c12
      have O2 := O2.setRow_other (g := w3.heap.size) (fun k hk => by have := (O2.block k hk).1; have := l4.out; have := l5.out; omega) c12
      have E12 := E11.setRow_other (k := w3.heap.size) (by have := l4.out; omega) c12
      have B12 := Lib.hid (bset B11.out (g := w3.heap.size) hs3 c12)
      clear B11 G11 E11
      generalize World.setRow _ _ _ = w12 at O1 O2 B12 E12 ⊢
      have hk12 : 0 ≤ 1 + (xs.length : Int) * 3 ∧ 1 + (xs.length : Int) * 3 ≤ 1000000000 := by omega
      generalize 1 + (xs.length : Int) * 3 = k12 at hk12 ⊢
      go_wp2_with fail
      refine (markT_from _ ys.length _ _ _ hn2 (Nat.le_of_eq (tC_size ys).symm) k12 hk12 _ E12).mono ?_
      rintro e w13 ⟨rfl, c13, rfl⟩
      have O1 := O1.setRow_other (g := w4.heap.size) (fun k hk => by have := (U1.out k hk).2; have := l4.out; omega) c13
      have O2 := O2.setRow_other (g := w4.heap.size) (fun k hk => by have := (O2.block k hk).1; have := l5.out; omega) c13
      have B13 := Lib.hid (bset B12.out (g := w4.heap.size) hs4 c13)
      clear B12 E12
      generalize World.setRow _ _ _ = w13 at O1 O2 B13 ⊢
      have hk13 : ¬ (k12 + (ys.length : Int) * 3 < 0) := by omega
      generalize k12 + (ys.length : Int) * 3 = k13 at hk13 ⊢
      go_wp2_with fail
      refine (eqTallyS_st _ _ zs hyl _ (O2.st HY.out hym) (O1.st HY.out hym)).mono ?_
      rintro e w14 ⟨rfl, hb14⟩
      have B14 := Lib.hid (bthen B13.out hb14)
      have O1 := O1.step hb14
      have O2 := O2.step hb14
      clear B13 hb14
      obtain ⟨M, hM0, KM⟩ := O2.marks hyl
      have hM0' : ¬ M < 0 := by omega
      have U2 := Lib.hid O2.block
      go_wp2_with fail
      refine KM.mono ?_
      rintro e w15 ⟨rfl, hb15, hsz, hoth, KH⟩
      have B15 := Lib.hid (B14.out.trans (hb15.mono (by have := l5.out; omega)))
      have O1 : OwnT w15 w2.heap.size (.slice va1 zs.length vc1) zs := by
        refine ⟨O1.1, O1.2.imp id ?_⟩
        rintro ⟨g', cap', cur', e', h1, h2, h3⟩
        have hg1 : g' < w3.heap.size := (U1.out g' (by rw [e']; rfl)).2
        refine ⟨g', cap', cur', e', h1, (hoth g' (fun e2 => ?_)).trans h2, h3⟩
        have := (U2.out g' e2).1
        have := l4.out
        have := l5.out
        omega
      have K1 := KH _ (Below.refl _ _)
      clear B14 hb15 hsz hoth O2 KM U1 U2
      go_wp2_with fail
      refine K1.mono ?_
      rintro e w16 ⟨rfl, rfl⟩
      clear K1
      go_wp2_with fail
      refine (toTallyS_any _ xs _ (HF.out.step (Nat.le_refl _) B15.out) hn).mono ?_
      rintro e w17 ⟨rfl, G17, hb17⟩
      have B17 := Lib.hid (bthen B15.out hb17)
      have O1 := O1.step hb17
      have C17 := Lib.hid hb17
      clear hb17 B15
      go_wp2_with fail
      refine (toTallyS_any _ ys _ (HE.out.step (Nat.le_refl _) B17.out) hn2).mono ?_
      rintro e w18 ⟨rfl, E18, hb18⟩
      have B18 := Lib.hid (bthen B17.out hb18)
      have O1 := O1.step hb18
      have G18 := G17.step hb18
      have C18 := Lib.hid (bthen C17.out hb18)
      clear hb18 B17 C17 G17
      go_wp2_with fail
      refine (KI _ _ _ G18 E18).mono ?_
      rintro e w19 ⟨⟨v3, rfl, O3⟩, hb19⟩
      have B19 := Lib.hid (bthen B18.out hb19)
      have O1 := O1.step hb19
      have C19 := Lib.hid (bthen C18.out hb19)
      clear hb19 B18 C18 G18 E18
      obtain ⟨va3, vc3, rfl⟩ := O3.any
      go_wp2_with fail
      refine (eqTallyS_st _ _ zs hyl _ (O3.st HY.out hym) (O1.st HY.out hym)).mono ?_
      rintro e w20 ⟨rfl, hb20⟩
      have B20 := Lib.hid (bthen B19.out hb20)
      have K2 := KH _ (bthen C19.out hb20)
      clear B19 C19 hb20 O1 O3 KH
      go_wp2_with fail
      refine K2.mono ?_
      rintro e w21 ⟨rfl, rfl⟩
      clear K2
      go_wp2_with fail
      go_ret
      exact ⟨rfl, B20.out⟩
    · rw [if_pos (by omega)] at K2
      go_enter Try.func3, Try.ntmps3
      go_wp2_with fail
      refine (K _).mono ?_
      rintro e w1 ⟨rfl, h1⟩
      subst w1
      go_wp2_with fail
      refine (K2 _).mono ?_
      rintro e w1 ⟨rfl, h1⟩
      subst w1
      go_wp2_with fail
      go_ret
      exact ⟨rfl, Below.refl _ _⟩
  · rw [if_pos (by omega)] at K
    go_enter Try.func3, Try.ntmps3
    go_wp2_with fail
    refine (K _).mono ?_
    rintro e w1 ⟨rfl, h1⟩
    subst w1
    go_wp2_with fail
    go_ret
    exact ⟨rfl, Below.refl _ _⟩

set_option maxRecDepth 100000 in
theorem lifted (os : Os) (started : os.Started) (H : Type) (enc : TypeId × Value → H) :
    ReturnsInHanded {} Try.checked os 3 .any (Rows.fnExactJoinTalliesSpec.pre6 enc Try.prog Try.f3 Rows.fnExactJoinTalliesRow.domain false) (Rows.fnExactJoinTalliesSpec.post enc Try.prog Try.f3 false true false false) := by
  refine law_liftedS enc os started (by kernel_rfl) Try.func3
    (ChangeSpec.witness6 (enc := enc) (C := Try.checked) false ⟨#[], #[.slice none 0 0, .slice none 0 0], []⟩ 24 (by kernel_rfl) (by kernel_rfl) (by kernel_rfl) (by kernel_rfl)) rfl (by kernel_rfl) ?_ ?_ ?_
  · rw [Try.params3]
    intro t ht
    have hall : (#[22, 22].toList.all fun u => Try.prog.readableRec u && decide (u < Try.prog.types.size)) = true := by kernel_rfl
    have := List.all_eq_true.1 hall t ht
    simpa using this
  · intro ds h
    rw [Try.params3] at h
    match ds, h with
    | [d0, d1], _ => rfl
  · intro W base args ds ps hl hval hA
    rw [Try.params3] at hl hval hA
    obtain ⟨v0, v1, rfl⟩ : ∃ v0 v1, args = #[v0, v1] := by
      obtain ⟨l⟩ := args
      match l, hl with
      | [v0, v1], _ => exact ⟨v0, v1, rfl⟩
    obtain ⟨vx0, vy0, dd0, de0, pp0, pq0, ee0, -, -, tr0, rr0⟩ := trodAll_cons hA
    obtain ⟨rfl, rfl⟩ := List.cons.inj ee0
    obtain ⟨vx1, vy1, dd1, de1, pp1, pq1, ee1, -, -, tr1, rr1⟩ := trodAll_cons rr0
    obtain ⟨rfl, rfl⟩ := List.cons.inj ee1
    obtain ⟨a0, c0, x0, rfl, h0⟩ := shape_tl (okWide_slice Try.underlying22 (hval 0 _ _ rfl rfl)) tr0
    obtain ⟨a1, c1, x1, rfl, h1⟩ := shape_tl (okWide_slice Try.underlying22 (hval 1 _ _ rfl rfl)) tr1
    exact walk W a0 c0 x0 h0 a1 c1 x1 h1

/-- THE STATEMENT -/
theorem proved : Rows.FnExactJoinTalliesSaid := by
  first
    | (refine OpenClaim.holds_of_wide 3 Try.f3 rfl rfl rfl rfl rfl rfl rfl ⟨rfl, rfl, rfl, rfl, rfl⟩ rfl rfl rfl rfl rfl (by kernel_rfl) Try.func3 (by kernel_rfl) (of_decide_eq_true (by kernel_rfl)) ?_ (fun os started H enc _ => lifted os started H enc))
    | (refine OpenClaim.holds_of_wide_leaving 3 Try.f3 rfl rfl rfl rfl rfl rfl rfl ⟨rfl, rfl, rfl, rfl, rfl⟩ rfl rfl rfl rfl rfl (by kernel_rfl) Try.func3 (by kernel_rfl) (of_decide_eq_true (by kernel_rfl)) ?_ (fun os started H enc _ => leaving_of_handed (lifted os started H enc)))
  unfold Func.isWrapper
  first | (rw [if_pos (by decide +kernel)]; kernel_rfl) | (rw [if_neg (by decide +kernel)]; exact ⟨rfl, rfl⟩)
#print axioms proved
end Go.Proofs.Ytlffcpoooaoneaa.lawFnExactJoinTallies
