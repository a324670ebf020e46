/-
  FnExactCallsOf: the program's CallsOf answers as its model, at every list of tallies and every number. No condition.
-/
import Derived.Test.YteoplkhhlligcaaCallsI
import Derived.Test.YteoplkhhlligcaaShTl
import Derived.Test.YteoplkhhlligcaaShI16
import Derived.Test.YteoplkhhlligcaaLawS
namespace Go.Proofs.Yteoplkhhlligcaa.lawFnExactCallsOf
open Go Go.ChangeShapes Go.WideShapes Go.ChangeAt Go.RowKit

set_option maxRecDepth 100000
set_option maxHeartbeats 1000000 in
theorem walk (w : World) (a : Option Addr) (cap : Nat) (xs : Ts) (hF : STl w (.slice a xs.length cap) xs) (x1 : Int) (_h1 : I16 x1) :
    Calls Try.prog 13 #[.slice a xs.length cap, .int .i16 x1] w (True? w) := by
  have hW := hF.wf
  have hlen : xs.length ≤ 9223372036854775807 := Nat.le_trans hF.len (by decide)
  have K := szTallyS_any a xs.length cap 1048576 (by omega) hF.len
  by_cases hn : xs.length ≤ 1048576
  · rw [if_neg (by omega)] at K
    have hnn : ¬ (1048576 - ((xs.length : Nat) : Int) < 0) := by omega
    have KS := fun G w h0 => sCallsOf_any G xs xs.length hW hn 38 x1 w h0
    have KI := fun G w h0 => CallsOf_any G xs xs.length hW hn 38 x1 (Nat.le_refl _) w h0
    have hcl := vCalls_len xs x1
    generalize vCalls xs x1 = q at KS KI hcl
    obtain ⟨cs, cd⟩ := q
    simp only at KS KI hcl
    go_enter Try.func13, Try.ntmps13
    go_wp2_with fail
    refine (K _).mono ?_
    rintro e w1 ⟨rfl, rfl⟩
    clear K
    go_wp2_with fail
    refine (toTallyS_any _ xs _ hF hn).mono ?_
    rintro e w2 ⟨rfl, G2, hb2⟩
    have F2 := hF.step (Nat.le_refl _) hb2
    have B2 := Lib.hid hb2
    clear hb2 hF
    go_wp2_with fail
    refine (KS _ _ G2).mono ?_
    rintro e w3 ⟨rfl, hb3⟩
    have B3 := Lib.hid (bthen B2.out hb3)
    have X0 := At.new w3 #[.bool false, .bool false, .bool false, .bool false, .bool false, .bool false, .bool false, .bool false] 58
    have X3 := X0.setRow (bl cs)
    have B3' : Below w3.heap.size w3 ((w3.alloc (.cells #[.bool false, .bool false, .bool false, .bool false, .bool false, .bool false, .bool false, .bool false] 58)).setRow w3.heap.size (bl cs)) := bset (b0 w3 (.cells #[.bool false, .bool false, .bool false, .bool false, .bool false, .bool false, .bool false, .bool false] 58)) (g := w3.heap.size) (Nat.le_refl _) (bl cs)
    have F3 := (F2.step (Nat.le_refl _) hb3).step (Nat.le_refl _) B3'
    have C3 := Lib.hid (bthen B3.out B3')
    clear F2 B2 B3 B3' hb3 G2 KS
    go_wp2_with (((with_reducible refine is_store 58 _ _ rfl ?_); refine wpList_store_at rfl 58 _ _ rfl _ rfl (bl cs) rfl (#[.bool false, .bool false, .bool false, .bool false, .bool false, .bool false, .bool false, .bool false]) _ (by with_reducible assumption) 8 (by rw [bl_size, hcl]) (rfl) (by kernel_rfl) (bl_one _) ?_))
    generalize (w3.alloc (.cells #[.bool false, .bool false, .bool false, .bool false, .bool false, .bool false, .bool false, .bool false] 58)).setRow w3.heap.size (bl cs) = w3' at X3 F3 C3 ⊢
    clear X0
    refine (toTallyS_any _ xs _ F3 hn).mono ?_
    rintro e w4 ⟨rfl, G4, hb4⟩
    have F4 := F3.step (Nat.le_refl _) hb4
    have X4 := X3.step hb4
    have B4 := Lib.hid (bthen C3.out hb4)
    clear F3 C3 hb4 X3
    go_wp2_with fail
    refine (KI _ _ G4).mono ?_
    rintro e w5 ⟨rfl, hb5⟩
    have B5 := Lib.hid (bthen B4.out hb5)
    have Y0 := At.new w5 #[.bool false, .bool false, .bool false, .bool false, .bool false, .bool false, .bool false, .bool false] 58
    have Y5 := Y0.setRow (bl cs)
    have B5' : Below w5.heap.size w5 ((w5.alloc (.cells #[.bool false, .bool false, .bool false, .bool false, .bool false, .bool false, .bool false, .bool false] 58)).setRow w5.heap.size (bl cs)) := bset (b0 w5 (.cells #[.bool false, .bool false, .bool false, .bool false, .bool false, .bool false, .bool false, .bool false] 58)) (g := w5.heap.size) (Nat.le_refl _) (bl cs)
    have G5 := (G4.step hb5).step B5'
    have F5 := (F4.step (Nat.le_refl _) hb5).step (Nat.le_refl _) B5'
    have X5 := (X4.step hb5).step B5'
    have C5 := Lib.hid (bthen B5.out B5')
    clear F4 B4 B5 B5' hb5 G4 X4 KI
    go_wp2_with (first | ((with_reducible refine is_load 58 _ rfl ?_); refine wpList_load_at rfl 58 _ rfl _ rfl (bl cs) _ (by with_reducible assumption) 8 (by rw [bl_size, hcl]) _ Try.underlying58 rfl (by kernel_rfl) ?_) | ((with_reducible refine is_store 58 _ _ rfl ?_); refine wpList_store_at rfl 58 _ _ rfl _ rfl (bl cs) rfl (#[.bool false, .bool false, .bool false, .bool false, .bool false, .bool false, .bool false, .bool false]) _ (by with_reducible assumption) 8 (by rw [bl_size, hcl]) (rfl) (by kernel_rfl) (bl_one _) ?_))
    refine (eqBoolA8_same cs hcl _).mono ?_
    rintro e w6 ⟨rfl, hb6⟩
    have G6 := G5.step hb6
    have F6 := F5.step (Nat.le_refl _) hb6
    have B6 := Lib.hid (bthen C5.out hb6)
    clear X5 Y0 Y5 G5 F5 C5 hb6
    go_wp2_with fail
    refine (toTallyS_any _ xs _ F6 hn).mono ?_
    rintro e w7 ⟨rfl, G7, hb7⟩
    have H6 := G6.step hb7
    have B7 := Lib.hid (bthen B6.out hb7)
    clear F6 B6 hb7 G6
    go_wp2_with fail
    refine (eqTallyS_same _ _ xs _ _ hn _ _ _ H6 G7).mono ?_
    rintro e w8 ⟨rfl, hb8⟩
    go_wp2_with fail
    go_ret
    exact ⟨rfl, bthen B7.out hb8⟩
  · rw [if_pos (by omega)] at K
    go_enter Try.func13, Try.ntmps13
    go_wp2_with fail
    refine (K _).mono ?_
    rintro e w1 ⟨rfl, rfl⟩
    go_wp2_with fail
    go_ret
    exact ⟨rfl, Below.refl _ _⟩

set_option maxRecDepth 100000 in
theorem lifted (os : Os) (started : os.Started) (H : Type) (enc : TypeId × Value → H) :
    ReturnsInHanded {} Try.checked os 13 .any (Rows.fnExactCallsOfSpec.pre6 enc Try.prog Try.f13 Rows.fnExactCallsOfRow.domain false) (Rows.fnExactCallsOfSpec.post enc Try.prog Try.f13 false true false false) := by
  refine law_liftedS enc os started (by kernel_rfl) Try.func13
    (ChangeSpec.witness6 (enc := enc) (C := Try.checked) false ⟨#[], #[.slice none 0 0, .int .i16 0], []⟩ 24 (by kernel_rfl) (by kernel_rfl) (by kernel_rfl) (by kernel_rfl)) rfl (by kernel_rfl) ?_ ?_ ?_
  · rw [Try.params13]
    intro t ht
    have hall : (#[43, 23].toList.all fun u => Try.prog.readableRec u && decide (u < Try.prog.types.size)) = true := by kernel_rfl
    have := List.all_eq_true.1 hall t ht
    simpa using this
  · intro ds h
    rw [Try.params13] at h
    match ds, h with
    | [d0, d1], _ => rfl
  · intro W base args ds ps hl hval hA
    rw [Try.params13] at hl hval hA
    obtain ⟨v0, v1, rfl⟩ : ∃ v0 v1, args = #[v0, v1] := by
      obtain ⟨l⟩ := args
      match l, hl with
      | [v0, v1], _ => exact ⟨v0, v1, rfl⟩
    obtain ⟨vx0, vy0, dd0, de0, pp0, pq0, ee0, -, -, tr0, rr0⟩ := trodAll_cons hA
    obtain ⟨rfl, rfl⟩ := List.cons.inj ee0
    obtain ⟨vx1, vy1, dd1, de1, pp1, pq1, ee1, -, -, tr1, rr1⟩ := trodAll_cons rr0
    obtain ⟨rfl, rfl⟩ := List.cons.inj ee1
    obtain ⟨a0, c0, x0, rfl, h0⟩ := shape_tl (okWide_slice Try.underlying43 (hval 0 _ _ rfl rfl)) tr0
    obtain ⟨x1, rfl, h1⟩ := shape_i16 (hval 1 _ _ rfl rfl)
    exact walk W a0 c0 x0 h0 x1 h1

/-- THE STATEMENT -/
theorem proved : Rows.FnExactCallsOfSaid :=
  OpenClaim.holds_of_wide 13 Try.f13 rfl rfl rfl rfl rfl rfl rfl ⟨rfl, rfl, rfl, rfl, rfl⟩ rfl rfl rfl rfl rfl (by kernel_rfl) Try.func13 (by kernel_rfl)
    (of_decide_eq_true (by kernel_rfl)) (by unfold Func.isWrapper; first | (rw [if_pos (by decide +kernel)]; kernel_rfl) | (rw [if_neg (by decide +kernel)]; exact ⟨rfl, rfl⟩))
    (fun os started H enc _ => lifted os started H enc)
#print axioms proved
end Go.Proofs.Yteoplkhhlligcaa.lawFnExactCallsOf
