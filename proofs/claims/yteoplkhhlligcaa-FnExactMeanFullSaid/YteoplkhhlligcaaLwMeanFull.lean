/-
  FnExactMeanFull: the program's MeanFull answers as its model, at every list of tallies. No condition.
-/
import Derived.Test.YteoplkhhlligcaaMeanF
import Derived.Test.YteoplkhhlligcaaShTl
import Derived.Test.YteoplkhhlligcaaLawS
namespace Go.Proofs.Yteoplkhhlligcaa.lawFnExactMeanFull
open Go Go.ChangeShapes Go.WideShapes Go.ChangeAt Go.RowKit

set_option maxRecDepth 100000
set_option maxHeartbeats 1000000 in
theorem walk (w : World) (a : Option Addr) (cap : Nat) (xs : Ts) (hF : STl w (.slice a xs.length cap) xs) :
    Calls Try.prog 10 #[.slice a xs.length cap] w (True? w) := by
  have hW := hF.wf
  have hlen : xs.length ≤ 9223372036854775807 := Nat.le_trans hF.len (by decide)
  have K := szTallyS_any a xs.length cap 1048576 (by omega) hF.len
  by_cases hn : xs.length ≤ 1048576
  · rw [if_neg (by omega)] at K
    have hnn : ¬ (1048576 - ((xs.length : Nat) : Int) < 0) := by omega
    have KS := fun G w h0 => sMeanFull_any G xs xs.length hW hn 38 w h0
    have KI := fun G w h0 => MeanFull_any G xs xs.length hW hn 38 w h0
    have hfn := vMean_fin xs
    generalize vMean xs = q at KS KI hfn
    obtain ⟨x, cd⟩ := q
    simp only at KS KI hfn
    obtain ⟨hx, hnx⟩ := nan_le hfn (Nat.le_refl _)
    have hwx := wide_at hx hnx
    go_enter Try.func10, Try.ntmps10
    go_wp2_with fail
    refine (K _).mono ?_
    rintro e w1 ⟨rfl, rfl⟩
    clear K
    go_wp2_with fail
    refine (toTallyS_any _ xs _ hF hn).mono ?_
    rintro e w2 ⟨rfl, G2, hb2⟩
    have F2 := hF.step (Nat.le_refl _) hb2
    have B2 := Lib.hid hb2
    clear hb2 hF
    go_wp2_with fail
    refine (KS _ _ G2).mono ?_
    rintro e w3 ⟨rfl, hb3⟩
    have F3 := F2.step (Nat.le_refl _) hb3
    have B3 := Lib.hid (bthen B2.out hb3)
    clear F2 B2 hb3 G2
    go_wp2_with fail
    refine (toTallyS_any _ xs _ F3 hn).mono ?_
    rintro e w4 ⟨rfl, G4, hb4⟩
    have F4 := F3.step (Nat.le_refl _) hb4
    have B4 := Lib.hid (bthen B3.out hb4)
    clear F3 B3 hb4
    go_wp2_with fail
    refine (KI _ _ G4).mono ?_
    rintro e w5 ⟨rfl, hb5⟩
    clear KS KI
    go_wp2_with fail
    refine (sameFloat_rd x hx hnx _).mono ?_
    rintro e w5' ⟨rfl, nf, rfl⟩
    have hb5 := bdrew hb5 nf
    generalize World.drewN _ nf = w5 at hb5 ⊢
    have G5 := G4.step hb5
    have F5 := F4.step (Nat.le_refl _) hb5
    have B5 := Lib.hid (bthen B4.out hb5)
    clear F4 B4 hb5 G4
    go_wp2_with fail
    refine (toTallyS_any _ xs _ F5 hn).mono ?_
    rintro e w6 ⟨rfl, G6, hb6⟩
    have H5 := G5.step hb6
    have B6 := Lib.hid (bthen B5.out hb6)
    clear F5 B5 hb6 G5
    go_wp2_with fail
    refine (eqTallyS_same _ _ xs _ _ hn _ _ _ H5 G6).mono ?_
    rintro e w7 ⟨rfl, hb7⟩
    go_wp2_with fail
    go_ret
    exact ⟨rfl, bthen B6.out hb7⟩
  · rw [if_pos (by omega)] at K
    go_enter Try.func10, Try.ntmps10
    go_wp2_with fail
    refine (K _).mono ?_
    rintro e w1 ⟨rfl, rfl⟩
    go_wp2_with fail
    go_ret
    exact ⟨rfl, Below.refl _ _⟩

set_option maxRecDepth 100000 in
theorem lifted (os : Os) (started : os.Started) (H : Type) (enc : TypeId × Value → H) :
    ReturnsInHanded {} Try.checked os 10 .any (Rows.fnExactMeanFullSpec.pre6 enc Try.prog Try.f10 Rows.fnExactMeanFullRow.domain false) (Rows.fnExactMeanFullSpec.post enc Try.prog Try.f10 false true false false) := by
  refine law_liftedS enc os started (by kernel_rfl) Try.func10
    (ChangeSpec.witness6 (enc := enc) (C := Try.checked) false ⟨#[], #[.slice none 0 0], []⟩ 24 (by kernel_rfl) (by kernel_rfl) (by kernel_rfl) (by kernel_rfl)) rfl (by kernel_rfl) ?_ ?_ ?_
  · rw [Try.params10]
    intro t ht
    have hall : (#[43].toList.all fun u => Try.prog.readableRec u && decide (u < Try.prog.types.size)) = true := by kernel_rfl
    have := List.all_eq_true.1 hall t ht
    simpa using this
  · intro ds h
    rw [Try.params10] at h
    match ds, h with
    | [d0], _ => rfl
  · intro W base args ds ps hl hval hA
    rw [Try.params10] at hl hval hA
    obtain ⟨v0, rfl⟩ : ∃ v0, args = #[v0] := by
      obtain ⟨l⟩ := args
      match l, hl with
      | [v0], _ => exact ⟨v0, rfl⟩
    obtain ⟨vx0, vy0, dd0, de0, pp0, pq0, ee0, -, -, tr0, rr0⟩ := trodAll_cons hA
    obtain ⟨rfl, rfl⟩ := List.cons.inj ee0
    obtain ⟨a0, c0, x0, rfl, h0⟩ := shape_tl (okWide_slice Try.underlying43 (hval 0 _ _ rfl rfl)) tr0
    exact walk W a0 c0 x0 h0

/-- THE STATEMENT -/
theorem proved : Rows.FnExactMeanFullSaid :=
  OpenClaim.holds_of_wide 10 Try.f10 rfl rfl rfl rfl rfl rfl rfl ⟨rfl, rfl, rfl, rfl, rfl⟩ rfl rfl rfl rfl rfl (by kernel_rfl) Try.func10 (by kernel_rfl)
    (of_decide_eq_true (by kernel_rfl)) (by unfold Func.isWrapper; first | (rw [if_pos (by decide +kernel)]; kernel_rfl) | (rw [if_neg (by decide +kernel)]; exact ⟨rfl, rfl⟩))
    (fun os started H enc _ => lifted os started H enc)
#print axioms proved
end Go.Proofs.Yteoplkhhlligcaa.lawFnExactMeanFull
