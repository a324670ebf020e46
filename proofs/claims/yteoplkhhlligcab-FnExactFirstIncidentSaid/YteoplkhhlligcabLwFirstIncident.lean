/-
  FnExactFirstIncident: the program's FirstIncident answers as its model, at every two lists of tallies and all numbers. No condition.
-/
import Derived.Test.YteoplkhhlligcabIncI
import Derived.Test.YteoplkhhlligcabShTl
import Derived.Test.YteoplkhhlligcabLawS
namespace Go.Proofs.Yteoplkhhlligcab.lawFnExactFirstIncident
open Go Go.ChangeShapes Go.WideShapes Go.ChangeAt Go.RowKit

set_option maxRecDepth 100000
set_option maxHeartbeats 2000000 in
theorem walk (w : World) (a : Option Addr) (cap : Nat) (xs : Ts) (hF : STl w (.slice a xs.length cap) xs) (a2 : Option Addr) (cap2 : Nat) (ys : Ts) (hE : STl w (.slice a2 ys.length cap2) ys) (x2 : Nat) (hx2 : x2 < 4294967296) (x3 : Nat) (hx3 : x3 < 4294967296) (x4 : Int) (_h4 : -9223372036854775808 ≤ x4 ∧ x4 ≤ 9223372036854775807) :
    Calls Try.prog 4 #[.slice a xs.length cap, .slice a2 ys.length cap2, .float .f32 x2, .float .f32 x3, .int .i64 x4] w (True? w) := by
  have hW := hF.wf
  have hW2 := hE.wf
  have K := szTallyS_any a xs.length cap 1048576 (by omega) hF.len
  by_cases hn : xs.length ≤ 1048576
  · rw [if_neg (by omega)] at K
    have hnn : ¬ (1048576 - ((xs.length : Nat) : Int) < 0) := by omega
    have K2 := szTallyS_any a2 ys.length cap2 (1048576 - (xs.length : Int)) (by omega) hE.len
    by_cases hn2 : xs.length + ys.length ≤ 1048576
    · rw [if_neg (by omega)] at K2
      have hnn2 : ¬ (1048576 - ((xs.length : Nat) : Int) - ((ys.length : Nat) : Int) < 0) := by omega
      have hn2 : ys.length ≤ 1048576 := by omega
      have KS := fun G G2 w h h2 => sFirstIncident_any G xs xs.length hW hn 96 G2 ys ys.length hW2 hn2 96 x2 hx2 x3 hx3 x4 w h h2
      have KI := fun G G2 w h h2 => FirstIncident_any G xs xs.length hW hn 96 G2 ys ys.length hW2 hn2 96 x2 hx2 x3 hx3 x4 w h h2
      generalize vInc xs ys x2 x3 x4 = q at KS KI
      obtain ⟨u, cd⟩ := q
      simp only at KS KI
      have HF := Lib.hid hF
      have HE := Lib.hid hE
      clear hF hE
      go_enter Try.func4, Try.ntmps4
      go_wp2_with fail
      refine (K _).mono ?_
      rintro e w1 ⟨rfl, h1⟩
      subst w1
      clear K
      go_wp2_with fail
      refine (K2 _).mono ?_
      rintro e w1 ⟨rfl, h1⟩
      subst w1
      clear K2
      go_wp2_with fail
      refine (toTallyS_any _ xs _ HF.out hn).mono ?_
      rintro e w2 ⟨rfl, G2, hb2⟩
      go_wp2_with fail
      refine (toTallyS_any _ ys _ (HE.out.step (Nat.le_refl _) hb2) hn2).mono ?_
      rintro e w3 ⟨rfl, E3, hb3⟩
      have G3 := G2.step hb3
      have B3 := Lib.hid (bthen hb2 hb3)
      clear hb2 hb3 G2
      go_wp2_with fail
      refine (KS _ _ _ G3 E3).mono ?_
      rintro e w4 ⟨rfl, hb4⟩
      have B4 := Lib.hid (bthen B3.out hb4)
      clear hb4 B3 G3 E3 KS
      go_wp2_with fail
      refine (toTallyS_any _ xs _ (HF.out.step (Nat.le_refl _) B4.out) hn).mono ?_
      rintro e w5 ⟨rfl, G5, hb5⟩
      have B5 := Lib.hid (bthen B4.out hb5)
      clear hb5 B4
      go_wp2_with fail
      refine (toTallyS_any _ ys _ (HE.out.step (Nat.le_refl _) B5.out) hn2).mono ?_
      rintro e w6 ⟨rfl, E6, hb6⟩
      have G6 := G5.step hb6
      have B6 := Lib.hid (bthen B5.out hb6)
      clear hb6 B5 G5
      go_wp2_with fail
      refine (KI _ _ _ G6 E6).mono ?_
      rintro e w7 ⟨rfl, hb7⟩
      have G7 := G6.step hb7
      have E7 := E6.step hb7
      have B7 := Lib.hid (bthen B6.out hb7)
      clear hb7 B6 G6 E6 KI
      go_wp2_with fail
      refine (toTallyS_any _ xs _ (HF.out.step (Nat.le_refl _) B7.out) hn).mono ?_
      rintro e w8 ⟨rfl, G8, hb8⟩
      have H8 := G7.step hb8
      have E8 := E7.step hb8
      have B8 := Lib.hid (bthen B7.out hb8)
      clear hb8 B7 G7 E7
      go_wp2_with fail
      refine (eqTallyS_same _ _ xs _ _ hn _ _ _ H8 G8).mono ?_
      rintro e w9 ⟨rfl, hb9⟩
      have E9 := E8.step hb9
      have B9 := Lib.hid (bthen B8.out hb9)
      clear hb9 B8 H8 G8 E8
      go_wp2_with fail
      refine (toTallyS_any _ ys _ (HE.out.step (Nat.le_refl _) B9.out) hn2).mono ?_
      rintro e w10 ⟨rfl, E10, hb10⟩
      have F10 := E9.step hb10
      have B10 := Lib.hid (bthen B9.out hb10)
      clear hb10 B9 E9
      go_wp2_with fail
      refine (eqTallyS_same _ _ ys _ _ hn2 _ _ _ F10 E10).mono ?_
      rintro e w11 ⟨rfl, hb11⟩
      go_wp2_with fail
      go_ret
      exact ⟨rfl, bthen B10.out hb11⟩
    · rw [if_pos (by omega)] at K2
      go_enter Try.func4, Try.ntmps4
      go_wp2_with fail
      refine (K _).mono ?_
      rintro e w1 ⟨rfl, h1⟩
      subst w1
      go_wp2_with fail
      refine (K2 _).mono ?_
      rintro e w1 ⟨rfl, h1⟩
      subst w1
      go_wp2_with fail
      go_ret
      exact ⟨rfl, Below.refl _ _⟩
  · rw [if_pos (by omega)] at K
    go_enter Try.func4, Try.ntmps4
    go_wp2_with fail
    refine (K _).mono ?_
    rintro e w1 ⟨rfl, h1⟩
    subst w1
    go_wp2_with fail
    go_ret
    exact ⟨rfl, Below.refl _ _⟩

set_option maxRecDepth 100000 in
theorem lifted (os : Os) (started : os.Started) (H : Type) (enc : TypeId × Value → H) :
    ReturnsInHanded {} Try.checked os 4 .any (Rows.fnExactFirstIncidentSpec.pre6 enc Try.prog Try.f4 Rows.fnExactFirstIncidentRow.domain false) (Rows.fnExactFirstIncidentSpec.post enc Try.prog Try.f4 false true false false) := by
  refine law_liftedS enc os started (by kernel_rfl) Try.func4
    (ChangeSpec.witness6 (enc := enc) (C := Try.checked) false ⟨#[], #[.slice none 0 0, .slice none 0 0, .float .f32 0, .float .f32 0, .int .i64 0], []⟩ 24 (by kernel_rfl) (by kernel_rfl) (by kernel_rfl) (by kernel_rfl)) rfl (by kernel_rfl) ?_ ?_ ?_
  · rw [Try.params4]
    intro t ht
    have hall : (#[22, 22, 23, 23, 2].toList.all fun u => Try.prog.readableRec u && decide (u < Try.prog.types.size)) = true := by kernel_rfl
    have := List.all_eq_true.1 hall t ht
    simpa using this
  · intro ds h
    rw [Try.params4] at h
    match ds, h with
    | [d0, d1, d2, d3, d4], _ => rfl
  · intro W base args ds ps hl hval hA
    rw [Try.params4] at hl hval hA
    obtain ⟨v0, v1, v2, v3, v4, rfl⟩ : ∃ v0 v1 v2 v3 v4, args = #[v0, v1, v2, v3, v4] := by
      obtain ⟨l⟩ := args
      match l, hl with
      | [v0, v1, v2, v3, v4], _ => exact ⟨v0, v1, v2, v3, v4, rfl⟩
    obtain ⟨vx0, vy0, dd0, de0, pp0, pq0, ee0, -, -, tr0, rr0⟩ := trodAll_cons hA
    obtain ⟨rfl, rfl⟩ := List.cons.inj ee0
    obtain ⟨vx1, vy1, dd1, de1, pp1, pq1, ee1, -, -, tr1, rr1⟩ := trodAll_cons rr0
    obtain ⟨rfl, rfl⟩ := List.cons.inj ee1
    obtain ⟨vx2, vy2, dd2, de2, pp2, pq2, ee2, -, -, tr2, rr2⟩ := trodAll_cons rr1
    obtain ⟨rfl, rfl⟩ := List.cons.inj ee2
    obtain ⟨vx3, vy3, dd3, de3, pp3, pq3, ee3, -, -, tr3, rr3⟩ := trodAll_cons rr2
    obtain ⟨rfl, rfl⟩ := List.cons.inj ee3
    obtain ⟨vx4, vy4, dd4, de4, pp4, pq4, ee4, -, -, tr4, rr4⟩ := trodAll_cons rr3
    obtain ⟨rfl, rfl⟩ := List.cons.inj ee4
    obtain ⟨a0, c0, x0, rfl, h0⟩ := shape_tl (okWide_slice Try.underlying22 (hval 0 _ _ rfl rfl)) tr0
    obtain ⟨a1, c1, x1, rfl, h1⟩ := shape_tl (okWide_slice Try.underlying22 (hval 1 _ _ rfl rfl)) tr1
    obtain ⟨x2, rfl, h2⟩ := shape_f32 (hval 2 _ _ rfl rfl)
    obtain ⟨x3, rfl, h3⟩ := shape_f32 (hval 3 _ _ rfl rfl)
    obtain ⟨x4, rfl, h4⟩ := shape_i64 (hval 4 _ _ rfl rfl)
    exact walk W a0 c0 x0 h0 a1 c1 x1 h1 x2 h2 x3 h3 x4 h4

/-- THE STATEMENT -/
theorem proved : Rows.FnExactFirstIncidentSaid :=
  OpenClaim.holds_of_wide 4 Try.f4 rfl rfl rfl rfl rfl rfl rfl ⟨rfl, rfl, rfl, rfl, rfl⟩ rfl rfl rfl rfl rfl (by kernel_rfl) Try.func4 (by kernel_rfl)
    (of_decide_eq_true (by kernel_rfl)) (by unfold Func.isWrapper; first | (rw [if_pos (by decide +kernel)]; kernel_rfl) | (rw [if_neg (by decide +kernel)]; exact ⟨rfl, rfl⟩))
    (fun os started H enc _ => lifted os started H enc)
#print axioms proved
end Go.Proofs.Yteoplkhhlligcab.lawFnExactFirstIncident
