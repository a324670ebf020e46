/-
  FnExactLongestRed: the program's LongestRed answers as its model, at every plan and whole number. No condition.
-/
import Derived.Test.YtkhnhbmnmciiaabLongRS
import Derived.Test.YtkhnhbmnmciiaabRunPl
import Derived.Test.YtkhnhbmnmciiaabShPlan
import Derived.Test.YtkhnhbmnmciiaabLawS
import Derived.Test.YtkhnhbmnmciiaabHeldOps
namespace Go.Proofs.Ytkhnhbmnmciiaab.lawFnExactLongestRed
open Go Go.ChangeShapes Go.WideShapes Go.ChangeAt Go.RowKit

set_option maxRecDepth 100000
set_option maxHeartbeats 1000000 in
theorem walk (w : World) (a : Option Addr) (cap : Nat) (xs : Slots) (b o : Int) (hF : SSl w (.slice a xs.length cap) xs) (_hb : I64 b) (_ho : I64 o) (k : Int) (hk : I64 k) :
    Calls Try.prog 8 #[.agg (plC (.slice a xs.length cap) b o), .int .i64 k] w (True? w) := by
  have A0 := At.new w (plC (.slice a xs.length cap) b o) 24
  have B0 := Lib.hid (b0 w (.cells (plC (.slice a xs.length cap) b o) 24))
  have F0 := hF.step (Nat.le_refl _) B0.out
  have hW := hF.wf
  have hlen : xs.length ≤ 9223372036854775807 := Nat.le_trans hF.len (by decide)
  have K := szPlan_any a xs.length cap b o 1048576 (by omega) hF.len
  by_cases hn : xs.length ≤ 1048576
  · rw [if_neg (by omega)] at K
    have hnn : ¬ (1048576 - ((xs.length : Nat) : Int) < 0) := by omega
    go_enter Try.func8, Try.ntmps8
    go_wp2_with (((with_reducible refine is_load 24 _ rfl ?_); refine wpList_load_at rfl 24 _ rfl _ rfl ((plC (.slice a xs.length cap) b o)) _ (by with_reducible assumption) 3 (plC_size _ _ _) _ Try.underlying24 rfl (by kernel_rfl) ?_))
    refine (K _).mono ?_
    rintro e w1 ⟨rfl, hb1⟩
    have A1 := A0.step hb1
    have F1 := F0.step (Nat.le_refl _) hb1
    have B1 := Lib.hid (bthen B0.out hb1)
    clear A0 F0 B0 hb1 K
    go_wp2_with (((with_reducible refine is_load 24 _ rfl ?_); refine wpList_load_at rfl 24 _ rfl _ rfl ((plC (.slice a xs.length cap) b o)) _ (by with_reducible assumption) 3 (plC_size _ _ _) _ Try.underlying24 rfl (by kernel_rfl) ?_))
    refine (toPlan_any a cap xs b o w1 F1 hn).mono ?_
    rintro e w2 ⟨G2, rfl, hG2, -, hb2⟩
    have A2 := A1.step hb2
    have F2 := F1.step (Nat.le_refl _) hb2
    have B2 := Lib.hid (bthen B1.out hb2)
    clear A1 F1 B1 hb2
    go_wp2_with fail
    refine (sLongestRed_any G2 xs b o hW 90 k hk w2 hG2).mono ?_
    rintro e w3 ⟨rfl, hb3⟩
    have A3 := A2.step hb3
    have F3 := F2.step (Nat.le_refl _) hb3
    have B3 := Lib.hid (bthen B2.out hb3)
    clear A2 F2 B2 hb3 hG2
    go_wp2_with (first | ((with_reducible refine is_load 24 _ rfl ?_); refine wpList_load_at rfl 24 _ rfl _ rfl ((plC (.slice a xs.length cap) b o)) _ (by with_reducible assumption) 3 (plC_size _ _ _) _ Try.underlying24 rfl (by kernel_rfl) ?_))
    refine (toPlan_any a cap xs b o _ F3 hn).mono ?_
    rintro e w4 ⟨G4, rfl, hG4, -, hb4⟩
    have A4 := A3.step hb4
    have F4 := F3.step (Nat.le_refl _) hb4
    have B4 := Lib.hid (bthen B3.out hb4)
    clear A3 F3 B3 hb4
    have X0 := At.new w4 #[.slice none 0 0, .int .i64 0, .int .i64 0] 29
    have X5 := X0.setRow (plC (.slice (some ⟨G4, 0, none⟩) xs.length xs.length) b o)
    have A5 := (A4.alloc (.cells #[.slice none 0 0, .int .i64 0, .int .i64 0] 29)).setRow_other (k := w4.heap.size) (Nat.ne_of_lt A4.lt) (plC (.slice (some ⟨G4, 0, none⟩) xs.length xs.length) b o)
    have G5 := (hG4.alloc (.cells #[.slice none 0 0, .int .i64 0, .int .i64 0] 29)).setRow_other (k := w4.heap.size) (Nat.ne_of_lt hG4.lt) (plC (.slice (some ⟨G4, 0, none⟩) xs.length xs.length) b o)
    have BN : Below w4.heap.size w4 ((w4.alloc (.cells #[.slice none 0 0, .int .i64 0, .int .i64 0] 29)).setRow w4.heap.size (plC (.slice (some ⟨G4, 0, none⟩) xs.length xs.length) b o)) := bset (b0 _ _) (Nat.le_refl _) _
    have F5 := F4.step (Nat.le_refl _) BN
    have B5 := Lib.hid (bthen B4.out BN)
    have KI := LongestRed_any G4 xs b o hW 90 k hk _ G5
    clear A4 F4 B4 BN hG4
    go_wp2_with (first | ((with_reducible refine is_store 29 _ _ rfl ?_); refine wpList_store_at rfl 29 _ _ rfl _ rfl ((plC (.slice (some ⟨G4, 0, none⟩) xs.length xs.length) b o)) rfl (#[.slice none 0 0, .int .i64 0, .int .i64 0]) _ (by with_reducible assumption) 3 (plC_size _ _ _) (rfl) (by kernel_rfl) (pl_one _ (sl_one _ _ _) _ _) ?_) | ((with_reducible refine is_load 29 _ rfl ?_); refine wpList_load_at rfl 29 _ rfl _ rfl ((plC (.slice (some ⟨G4, 0, none⟩) xs.length xs.length) b o)) _ (by with_reducible assumption) 3 (plC_size _ _ _) _ Try.underlying29 rfl (by kernel_rfl) ?_))
    refine KI.mono ?_
    rintro e w6 ⟨rfl, hb6⟩
    have A6 := A5.step hb6
    have X6 := X5.step hb6
    have G6 := G5.step hb6
    have F6 := F5.step (Nat.le_refl _) hb6
    have B6 := Lib.hid (bthen B5.out hb6)
    clear KI X0 A5 X5 G5 F5 B5 hb6
    go_wp2
    refine wp_region_held (S := fun w' => Below w6.heap.size w6 w') (by kernel_rfl) ?_
    show wpAnyH _ _ _ _ _ 5 (Array.replicate 5 false) _ _
    have S0 : Below w6.heap.size w6 { w6 with drawn := w6.drawn + 1 } := bdrew (Below.refl _ w6) 1
    generalize hw0 : ({ w6 with drawn := w6.drawn + 1 } : World) = w7 at S0 ⊢
    clear hw0
    refine wpAnyH_take (i := 0) (v := .agg (plC (.slice (some ⟨G4, 0, none⟩) xs.length xs.length) b o)) rfl (by kernel_rfl) (by kernel_rfl) (by kernel_rfl) (fun _ _ _ h => h) (yif rfl fun w' hw' => x_load 29 (.tmp 8) rfl ⟨w4.heap.size, 0, none⟩ (by kernel_rfl) (run_plan 29 _ (X6.step hw') Try.underlying29 (by kernel_rfl))) (by assumption) ?_
    refine wpAnyH_take (i := 1) (v := .agg (plC (.slice a xs.length cap) b o)) rfl (by kernel_rfl) (by kernel_rfl) (by kernel_rfl) (fun _ _ _ h => h) (yif rfl fun w' hw' => x_load 24 (.tmp 2) rfl ⟨w.heap.size, 0, none⟩ (by kernel_rfl) (run_plan 24 _ (A6.step hw') Try.underlying24 (by kernel_rfl))) (by assumption) ?_
    refine wpAnyH_all (rs := [2]) (by kernel_rfl) (by simp) fun i' hi'' => ?_
    obtain rfl := one_of hi''
    refine op_call (f := 17) (args := #[.agg (plC (.slice a xs.length cap) b o)]) rfl rfl (by kernel_rfl) ((toPlan_any a cap xs b o w7 (F6.step (Nat.le_refl _) S0) hn).mono ?_)
    rintro e w8 ⟨G8, rfl, hG8, -, hb8⟩
    have S1 := bthen S0 hb8
    refine ⟨_, rfl, S1, ?_⟩
    refine wpAnyH_all (rs := [3]) (by kernel_rfl) (by simp) fun i' hi'' => ?_
    obtain rfl := one_of hi''
    refine op_call (f := 19) (args := #[.agg (plC (.slice (some ⟨G4, 0, none⟩) xs.length xs.length) b o), .agg (plC (.slice (some ⟨G8, 0, none⟩) xs.length xs.length) b o)]) rfl rfl (by kernel_rfl) ((eqPlan_same G4 G8 xs b o hW hn _ _ w8 (G6.step S1) hG8).mono ?_)
    rintro e w9 ⟨rfl, hb9⟩
    have S2 := bthen S1 hb9
    refine ⟨_, rfl, S2, ?_⟩
    refine wpAnyH_take (i := 4) (v := .bool false) rfl (by kernel_rfl) (by kernel_rfl) (by kernel_rfl) (fun _ _ _ h => h) (yif rfl fun w' hw' => by kernel_rfl) (by assumption) ?_
    refine wpAnyH_done (by kernel_rfl) ?_ _
    have B9 := Lib.hid (bthen B6.out S2)
    clear A6 X6 G6 F6 B6 hG8 S0 S1 S2 hb8 hb9
    simp only [Act.put, Array.setIfInBounds]
    go_wp2
    go_ret
    exact ⟨rfl, B9.out⟩
  · rw [if_pos (by omega)] at K
    go_enter Try.func8, Try.ntmps8
    go_wp2_with (((with_reducible refine is_load 24 _ rfl ?_); refine wpList_load_at rfl 24 _ rfl _ rfl ((plC (.slice a xs.length cap) b o)) _ (by with_reducible assumption) 3 (plC_size _ _ _) _ Try.underlying24 rfl (by kernel_rfl) ?_))
    refine (K _).mono ?_
    rintro e w1 ⟨rfl, hb1⟩
    go_wp2_with fail
    go_ret
    exact ⟨rfl, bthen B0.out hb1⟩

set_option maxRecDepth 100000 in
theorem lifted (os : Os) (started : os.Started) (H : Type) (enc : TypeId × Value → H) :
    ReturnsInHanded {} Try.checked os 8 .any (Rows.fnExactLongestRedSpec.pre6 enc Try.prog Try.f8 Rows.fnExactLongestRedRow.domain false) (Rows.fnExactLongestRedSpec.post enc Try.prog Try.f8 false true false false) := by
  refine law_liftedS enc os started (by kernel_rfl) Try.func8
    (ChangeSpec.witness6 (enc := enc) (C := Try.checked) false ⟨#[], #[.agg #[.slice none 0 0, .int .i64 0, .int .i64 0], .int .i64 0], []⟩ 24 (by kernel_rfl) (by kernel_rfl) (by kernel_rfl) (by kernel_rfl)) rfl (by kernel_rfl) ?_ ?_ ?_
  · rw [Try.params8]
    intro t ht
    have hall : (#[24, 2].toList.all fun u => Try.prog.readableRec u && decide (u < Try.prog.types.size)) = true := by kernel_rfl
    have := List.all_eq_true.1 hall t ht
    simpa using this
  · intro ds h
    rw [Try.params8] at h
    match ds, h with
    | [d0, d1], _ => rfl
  · intro W base args ds ps hl hval hA
    rw [Try.params8] at hl hval hA
    obtain ⟨v0, v1, rfl⟩ : ∃ v0 v1, args = #[v0, v1] := by
      obtain ⟨l⟩ := args
      match l, hl with
      | [v0, v1], _ => exact ⟨v0, v1, rfl⟩
    obtain ⟨vx0, vy0, dd0, de0, pp0, pq0, ee0, -, -, tr0, rr0⟩ := trodAll_cons hA
    obtain ⟨rfl, rfl⟩ := List.cons.inj ee0
    obtain ⟨vx1, vy1, dd1, de1, pp1, pq1, ee1, -, -, tr1, rr1⟩ := trodAll_cons rr0
    obtain ⟨rfl, rfl⟩ := List.cons.inj ee1
    obtain ⟨a0, cap0, x0, b0, o0, rfl, h0, hb0, ho0⟩ := shape_plan (hval 0 _ _ rfl rfl) tr0
    obtain ⟨x1, rfl, h1⟩ := shape_i64 (hval 1 _ _ rfl rfl)
    exact walk W a0 cap0 x0 b0 o0 h0 hb0 ho0 x1 h1

/-- THE STATEMENT -/
theorem proved : Rows.FnExactLongestRedSaid :=
  OpenClaim.holds_of_wide 8 Try.f8 rfl rfl rfl rfl rfl rfl rfl ⟨rfl, rfl, rfl, rfl, rfl⟩ rfl rfl rfl rfl rfl (by kernel_rfl) Try.func8 (by kernel_rfl)
    (of_decide_eq_true (by kernel_rfl)) (by unfold Func.isWrapper; first | (rw [if_pos (by decide +kernel)]; kernel_rfl) | (rw [if_neg (by decide +kernel)]; exact ⟨rfl, rfl⟩))
    (fun os started H enc _ => lifted os started H enc)
#print axioms proved
end Go.Proofs.Ytkhnhbmnmciiaab.lawFnExactLongestRed
