/-
  FnExactFillGaps: the program's FillGaps answers as its model, and owns its answer, at every list of tallies. No condition.
-/
import Derived.Test.YtlffcpoooaoneaaFillS
import Derived.Test.YtlffcpoooaoneaaFillI
import Derived.Test.YtlffcpoooaoneaaEqT
import Derived.Test.YtlffcpoooaoneaaMarkT
import Derived.Test.YtlffcpoooaoneaaShTl
import Derived.Test.YtlffcpoooaoneaaLawS
import Derived.Test.YtlffcpoooaoneaaLeave
namespace Go.Proofs.Ytlffcpoooaoneaa.lawFnExactFillGaps
open Go Go.ChangeShapes Go.WideShapes Go.ChangeAt Go.RowKit

set_option maxRecDepth 100000
set_option maxHeartbeats 2000000 in
theorem walk (w : World) (a : Option Addr) (cap : Nat) (xs : Ts) (hF : STl w (.slice a xs.length cap) xs) :
    Calls Try.prog 4 #[.slice a xs.length cap] w (True? w) := by
  have hW := hF.wf
  have hlen : xs.length ≤ 9223372036854775807 := Nat.le_trans hF.len (by decide)
  have K := szTallyS_any a xs.length cap 1048576 (by omega) hF.len
  by_cases hn : xs.length ≤ 1048576
  · rw [if_neg (by omega)] at K
    have hnn : ¬ (1048576 - ((xs.length : Nat) : Int) < 0) := by omega
    have hm : xs.length ≤ maxLen := by unfold maxLen; omega
    have KS := fun G w h0 => sFillGaps_any G xs hW hn 111 w h0
    have KI := fun G w h0 => FillGaps_any G xs hW hn 111 w h0
    obtain ⟨hyw, hyl⟩ := vFill_w hW
    generalize vFill xs = q at KS KI hyw hyl
    obtain ⟨ys, cd⟩ := q
    simp only at KS KI hyw hyl
    have hyl : ys.length ≤ 1048576 := by omega
    have hym : ys.length ≤ maxLen := by unfold maxLen; omega
    have HF := Lib.hid hF
    have HY := Lib.hid hyw
    clear hF hyw
    go_enter Try.func4, Try.ntmps4
    go_wp2_with fail
    refine (K _).mono ?_
    rintro e w1 ⟨rfl, h1⟩
    subst w1
    clear K
    go_wp2_with fail
    refine (toTallyS_any _ xs _ HF.out hn).mono ?_
    rintro e w2 ⟨rfl, G2, hb2⟩
    have B2 := Lib.hid hb2
    go_wp2_with fail
    refine (KS _ _ G2).mono ?_
    rintro e w3 ⟨⟨v1, rfl, O1⟩, hb3⟩
    have B3 := Lib.hid (bthen B2.out hb3)
    have U1 := Lib.hid O1.block
    have HB3 := Lib.hid (show w.heap.size ≤ w3.heap.size from (bthen B2.out hb3).size)
    clear hb2 B2 hb3 G2 KS
    obtain ⟨va1, vc1, rfl⟩ := O1.any
    go_wp2_with fail
    refine (toTallyS_any _ xs _ (HF.out.step (Nat.le_refl _) B3.out) hn).mono ?_
    rintro e w4 ⟨rfl, G4, hb4⟩
    have B4 := Lib.hid (bthen B3.out hb4)
    have O1 := O1.step hb4
    have hlo : w3.heap.size < w4.heap.size := G4.lt
    clear B3 hb4
    go_wp2_with fail
    refine (KI _ _ G4).mono ?_
    rintro e w5 ⟨⟨v2, rfl, O2⟩, hb5⟩
    have B5 := Lib.hid (bthen B4.out hb5)
    have O1 := O1.step hb5
    have G5 := G4.step hb5
    clear B4 hb5 G4
    obtain ⟨va2, vc2, rfl⟩ := O2.any
    go_wp2_with fail
    refine (eqTallyS_st _ _ ys hyl _ (O2.st HY.out hym) (O1.st HY.out hym)).mono ?_
    rintro e w6 ⟨rfl, hb6⟩
    have B6 := Lib.hid (bthen B5.out hb6)
    have O1 := O1.step hb6
    have O2 := O2.step hb6
    have G6 := G5.step hb6
    clear B5 hb6 G5
    go_wp2_with fail
    refine (toTallyS_any _ xs _ (HF.out.step (Nat.le_refl _) B6.out) hn).mono ?_
    rintro e w7 ⟨rfl, G7, hb7⟩
    have B7 := Lib.hid (bthen B6.out hb7)
    have O1 := O1.step hb7
    have O2 := O2.step hb7
    have H7 := G6.step hb7
    clear B6 hb7 G6
    go_wp2_with fail
    refine (eqTallyS_same _ _ xs _ _ hn _ _ _ H7 G7).mono ?_
    rintro e w8 ⟨rfl, hb8⟩
    have B8 := Lib.hid (bthen B7.out hb8)
    have O1 := O1.step hb8
    have O2 := O2.step hb8
    have H8 := H7.step hb8
    clear B7 hb8 G7 H7
    go_wp2_with fail
    refine (markT_any _ xs.length _ _ _ hn (Nat.le_of_eq (tC_size xs).symm) _ H8).mono ?_
    rintro e w9 ⟨rfl, rfl⟩
    have O1 := O1.setRow_other (g := w3.heap.size) (fun k hk => by have := (U1.out k hk).2; omega) (mkR (tC xs) (xs.length * 3))
    have O2 := O2.setRow_other (g := w3.heap.size) (fun k hk => by have := (O2.block k hk).1; omega) (mkR (tC xs) (xs.length * 3))
    have hw3 : w.heap.size ≤ w3.heap.size := by
      rcases Nat.lt_or_ge w3.heap.size w.heap.size with c | c
      · have := HB3.out; omega
      · exact c
    have B9 := Lib.hid (bset B8.out (g := w3.heap.size) hw3 (mkR (tC xs) (xs.length * 3)))
    have hk0 : ¬ ((xs.length : Int) * 3 + 1 < 0) := by omega
    clear B8 H8
    generalize World.setRow _ _ _ = w9 at O1 O2 B9 ⊢
    generalize (xs.length : Int) * 3 + 1 = k0 at hk0 ⊢
    go_wp2_with fail
    refine (eqTallyS_st _ _ ys hyl _ (O2.st HY.out hym) (O1.st HY.out hym)).mono ?_
    rintro e w10 ⟨rfl, hb10⟩
    have B10 := Lib.hid (bthen B9.out hb10)
    have O1 := O1.step hb10
    have O2 := O2.step hb10
    clear B9 hb10
    obtain ⟨M, hM0, KM⟩ := O2.marks hyl
    have hM0' : ¬ M < 0 := by omega
    have U2 := Lib.hid O2.block
    go_wp2_with fail
    refine KM.mono ?_
    rintro e w11 ⟨rfl, hb11, hsz, hoth, KH⟩
    have B11 := Lib.hid (B10.out.trans (hb11.mono (by have := HB3.out; omega)))
    have O1 : OwnT w11 w2.heap.size (.slice va1 ys.length vc1) ys := by
      refine ⟨O1.1, O1.2.imp id ?_⟩
      rintro ⟨g', cap', cur', e', h1, h2, h3⟩
      have hg1 : g' < w3.heap.size := (U1.out g' (by rw [e']; rfl)).2
      refine ⟨g', cap', cur', e', h1, (hoth g' (fun e2 => ?_)).trans h2, h3⟩
      have := (U2.out g' e2).1
      omega
    have K1 := KH _ (Below.refl _ _)
    clear B10 hb11 hsz hoth O2 KM U1 U2
    go_wp2_with fail
    refine K1.mono ?_
    rintro e w12 ⟨rfl, rfl⟩
    clear K1
    go_wp2_with fail
    refine (toTallyS_any _ xs _ (HF.out.step (Nat.le_refl _) B11.out) hn).mono ?_
    rintro e w13 ⟨rfl, G13, hb13⟩
    have B13 := Lib.hid (bthen B11.out hb13)
    have O1 := O1.step hb13
    have C13 := Lib.hid hb13
    clear hb13 B11
    go_wp2_with fail
    refine (KI _ _ G13).mono ?_
    rintro e w14 ⟨⟨v3, rfl, O3⟩, hb14⟩
    have B14 := Lib.hid (bthen B13.out hb14)
    have O1 := O1.step hb14
    have C14 := Lib.hid (bthen C13.out hb14)
    clear hb14 B13 C13 G13
    obtain ⟨va3, vc3, rfl⟩ := O3.any
    go_wp2_with fail
    refine (eqTallyS_st _ _ ys hyl _ (O3.st HY.out hym) (O1.st HY.out hym)).mono ?_
    rintro e w15 ⟨rfl, hb15⟩
    have B15 := Lib.hid (bthen B14.out hb15)
    have K2 := KH _ (bthen C14.out hb15)
    clear B14 C14 hb15 O1 O3 KH
    go_wp2_with fail
    refine K2.mono ?_
    rintro e w16 ⟨rfl, rfl⟩
    clear K2
    go_wp2_with fail
    go_ret
    exact ⟨rfl, B15.out⟩
  · rw [if_pos (by omega)] at K
    go_enter Try.func4, Try.ntmps4
    go_wp2_with fail
    refine (K _).mono ?_
    rintro e w1 ⟨rfl, rfl⟩
    go_wp2_with fail
    go_ret
    exact ⟨rfl, Below.refl _ _⟩

set_option maxRecDepth 100000 in
theorem lifted (os : Os) (started : os.Started) (H : Type) (enc : TypeId × Value → H) :
    ReturnsInHanded {} Try.checked os 4 .any (Rows.fnExactFillGapsSpec.pre6 enc Try.prog Try.f4 Rows.fnExactFillGapsRow.domain false) (Rows.fnExactFillGapsSpec.post enc Try.prog Try.f4 false true false false) := by
  refine law_liftedS enc os started (by kernel_rfl) Try.func4
    (ChangeSpec.witness6 (enc := enc) (C := Try.checked) false ⟨#[], #[.slice none 0 0], []⟩ 24 (by kernel_rfl) (by kernel_rfl) (by kernel_rfl) (by kernel_rfl)) rfl (by kernel_rfl) ?_ ?_ ?_
  · rw [Try.params4]
    intro t ht
    have hall : (#[22].toList.all fun u => Try.prog.readableRec u && decide (u < Try.prog.types.size)) = true := by kernel_rfl
    have := List.all_eq_true.1 hall t ht
    simpa using this
  · intro ds h
    rw [Try.params4] at h
    match ds, h with
    | [d0], _ => rfl
  · intro W base args ds ps hl hval hA
    rw [Try.params4] at hl hval hA
    obtain ⟨v0, rfl⟩ : ∃ v0, args = #[v0] := by
      obtain ⟨l⟩ := args
      match l, hl with
      | [v0], _ => exact ⟨v0, rfl⟩
    obtain ⟨vx0, vy0, dd0, de0, pp0, pq0, ee0, -, -, tr0, rr0⟩ := trodAll_cons hA
    obtain ⟨rfl, rfl⟩ := List.cons.inj ee0
    obtain ⟨a0, c0, x0, rfl, h0⟩ := shape_tl (okWide_slice Try.underlying22 (hval 0 _ _ rfl rfl)) tr0
    exact walk W a0 c0 x0 h0

/-- THE STATEMENT -/
theorem proved : Rows.FnExactFillGapsSaid := by
  first
    | (refine OpenClaim.holds_of_wide 4 Try.f4 rfl rfl rfl rfl rfl rfl rfl ⟨rfl, rfl, rfl, rfl, rfl⟩ rfl rfl rfl rfl rfl (by kernel_rfl) Try.func4 (by kernel_rfl) (of_decide_eq_true (by kernel_rfl)) ?_ (fun os started H enc _ => lifted os started H enc))
    | (refine OpenClaim.holds_of_wide_leaving 4 Try.f4 rfl rfl rfl rfl rfl rfl rfl ⟨rfl, rfl, rfl, rfl, rfl⟩ rfl rfl rfl rfl rfl (by kernel_rfl) Try.func4 (by kernel_rfl) (of_decide_eq_true (by kernel_rfl)) ?_ (fun os started H enc _ => leaving_of_handed (lifted os started H enc)))
  unfold Func.isWrapper
  first | (rw [if_pos (by decide +kernel)]; kernel_rfl) | (rw [if_neg (by decide +kernel)]; exact ⟨rfl, rfl⟩)
#print axioms proved
end Go.Proofs.Ytlffcpoooaoneaa.lawFnExactFillGaps
