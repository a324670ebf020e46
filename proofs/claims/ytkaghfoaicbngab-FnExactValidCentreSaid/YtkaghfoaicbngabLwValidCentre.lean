/-
  FnExactValidCentre: the program's ValidCentre answers as its model, at every centre. No condition.
-/
import Derived.Test.YtkaghfoaicbngabCentre
import Derived.Test.YtkaghfoaicbngabShCe
import Derived.Test.YtkaghfoaicbngabTake
import Derived.Test.YtkaghfoaicbngabLawS
namespace Go.Proofs.Ytkaghfoaicbngab.lawFnExactValidCentre
open Go Go.ChangeShapes Go.WideShapes Go.ChangeAt Go.RowKit


theorem run_ce {w : World} {g : Nat} {p : Int} {s : Value} {T : TypeId} (ty : TypeId) (fs : Array Field) (h : At w g (ce p s) T) (hu : Try.prog.underlying ty = some (.struct fs)) (hi : (Try.prog.info? ty).map (·.size) = some 2) :
    (Instr.loadAt ty (.pointer (some ⟨g, 0, none⟩))).run Try.prog w = .ok (.agg (ce p s)) w :=
  run_loadAt_part w g 0 2 ty (ce p s) T (0, 0) _ h hu rfl hi (by rw [ce_size]; omega)
set_option maxRecDepth 100000
set_option maxHeartbeats 1000000 in
theorem walk (w : World) (p : Int) (a : Option Addr) (cap : Nat) (xs : List Int) (hp : I64j p) (hF : ISl w (.slice a xs.length cap) xs) :
    Calls Try.prog 7 #[.agg (ce p (.slice a xs.length cap))] w (True? w) := by
  have A0 := At.new w (ce p (.slice a xs.length cap)) 63
  have B0 := Lib.hid (b0 w (.cells (ce p (.slice a xs.length cap)) 63))
  have hlen : xs.length ≤ 9223372036854775807 := Nat.le_trans hF.len (by decide)
  have K := szCentre_any p a xs.length cap hF.len 1048576 (by omega)
  have HF := Lib.hid hF
  clear hF
  by_cases hn : xs.length ≤ 1048576
  · rw [if_neg (by omega)] at K
    have hnn : ¬ (1048576 - ((xs.length : Nat) : Int) < 0) := by omega
    go_enter Try.func7, Try.ntmps7
    go_wp2_with (((with_reducible refine is_load 63 _ rfl ?_); refine wpList_load_at rfl 63 _ rfl _ rfl (ce p (.slice a xs.length cap)) _ (by with_reducible assumption) 2 (ce_size _ _) _ Try.underlying63 rfl (by kernel_rfl) ?_))
    refine (K _).mono ?_
    rintro e w1 ⟨rfl, hb1⟩
    have A1 := A0.step hb1
    have B1 := Lib.hid (bthen B0.out hb1)
    clear A0 B0 hb1 K
    go_wp2_with (((with_reducible refine is_load 63 _ rfl ?_); refine wpList_load_at rfl 63 _ rfl _ rfl (ce p (.slice a xs.length cap)) _ (by with_reducible assumption) 2 (ce_size _ _) _ Try.underlying63 rfl (by kernel_rfl) ?_))
    refine (toCentre_any p a cap xs _ (HF.out.step (Nat.le_refl _) B1.out) hn).mono ?_
    rintro e w2 ⟨G2, rfl, H2, hb2⟩
    have A2 := A1.step hb2
    have B2 := Lib.hid (bthen B1.out hb2)
    clear A1 B1 hb2
    go_wp2_with fail
    refine (sValidCentre_any p hp G2 xs hn 2 _ H2).mono ?_
    rintro e w3 ⟨rfl, hb3⟩
    have A3 := A2.step hb3
    have B3 := Lib.hid (bthen B2.out hb3)
    clear A2 B2 hb3 H2
    have KV := fun G w h => ValidCentre_any p G xs hn 2 w h
    generalize okCe p xs = ok at *
    go_wp2_with (((with_reducible refine is_load 63 _ rfl ?_); refine wpList_load_at rfl 63 _ rfl _ rfl (ce p (.slice a xs.length cap)) _ (by with_reducible assumption) 2 (ce_size _ _) _ Try.underlying63 rfl (by kernel_rfl) ?_))
    refine (toCentre_any p a cap xs _ (HF.out.step (Nat.le_refl _) B3.out) hn).mono ?_
    rintro e w4 ⟨G4, rfl, H4, hb4⟩
    have A4 := A3.step hb4
    have B4 := Lib.hid (bthen B3.out hb4)
    clear A3 B3 hb4
    have X0 := At.new w4 (#[.int .i64 0, .slice none 0 0]) 66
    have X5 := X0.setRow (ce p (.slice (some ⟨G4, 0, none⟩) xs.length xs.length))
    have A5 := (A4.alloc (.cells (#[.int .i64 0, .slice none 0 0]) 66)).setRow_other (k := w4.heap.size) (Nat.ne_of_lt A4.lt) (ce p (.slice (some ⟨G4, 0, none⟩) xs.length xs.length))
    have G5 := (H4.alloc (.cells (#[.int .i64 0, .slice none 0 0]) 66)).setRow_other (k := w4.heap.size) (Nat.ne_of_lt H4.lt) (ce p (.slice (some ⟨G4, 0, none⟩) xs.length xs.length))
    have B5 := Lib.hid (bset (bnew B4.out (.cells (#[.int .i64 0, .slice none 0 0]) 66)) (g := w4.heap.size) B4.out.size (ce p (.slice (some ⟨G4, 0, none⟩) xs.length xs.length)))
    clear A4 B4 H4
    go_wp2_with (first | ((with_reducible refine is_store 66 _ _ rfl ?_); refine wpList_store_at rfl 66 _ _ rfl _ rfl (ce p (.slice (some ⟨G4, 0, none⟩) xs.length xs.length)) rfl (#[.int .i64 0, .slice none 0 0]) _ (by with_reducible assumption) 2 (ce_size _ _) rfl (by kernel_rfl) (ce_one _ _ rfl) ?_) | ((with_reducible refine is_load 66 _ rfl ?_); refine wpList_load_at rfl 66 _ rfl _ rfl (ce p (.slice (some ⟨G4, 0, none⟩) xs.length xs.length)) _ (by with_reducible assumption) 2 (ce_size _ _) _ Try.underlying66 rfl (by kernel_rfl) ?_))
    refine (KV _ _ G5).mono ?_
    rintro e w6 ⟨rfl, hb6⟩
    have A6 := A5.step hb6
    have X6 := X5.step hb6
    have G6 := G5.step hb6
    have B6 := Lib.hid (bthen B5.out hb6)
    clear KV X0 A5 X5 G5 B5 hb6
    go_wp2_with fail
    refine wp_region_held (S := fun w' => Below w6.heap.size w6 w') (by kernel_rfl) ?_
    show wpAnyH _ _ _ _ _ 5 (Array.replicate 5 false) _ _
    have S0 : Below w6.heap.size w6 { w6 with drawn := w6.drawn + 1 } := bdrew (Below.refl _ w6) 1
    generalize hw0 : ({ w6 with drawn := w6.drawn + 1 } : World) = w7 at S0 ⊢
    clear hw0
    refine wpAnyH_take (i := 0) (v := .agg (ce p (.slice (some ⟨G4, 0, none⟩) xs.length xs.length))) rfl (by kernel_rfl) (by kernel_rfl) (by kernel_rfl) (fun _ _ _ h => h) (yif rfl fun w' hw' => x_load 66 (.tmp 5) rfl ⟨w4.heap.size, 0, none⟩ (by kernel_rfl) (run_ce 66 _ (X6.step hw') Try.underlying66 (by kernel_rfl))) (by assumption) ?_
    refine wpAnyH_take (i := 1) (v := .agg (ce p (.slice a xs.length cap))) rfl (by kernel_rfl) (by kernel_rfl) (by kernel_rfl) (fun _ _ _ h => h) (yif rfl fun w' hw' => x_load 63 (.tmp 1) rfl ⟨w.heap.size, 0, none⟩ (by kernel_rfl) (run_ce 63 _ (A6.step hw') Try.underlying63 (by kernel_rfl))) (by assumption) ?_
    refine wpAnyH_all (rs := [2]) (by kernel_rfl) (by simp) fun i' hi'' => ?_
    obtain rfl := one_of hi''
    refine op_call (f := 34) (args := #[.agg (ce p (.slice a xs.length cap))]) rfl rfl (by kernel_rfl) ((toCentre_any p a cap xs w7 (HF.out.step (Nat.le_refl _) (bthen B6.out S0)) hn).mono ?_)
    rintro e w8 ⟨G8, rfl, H8, hb8⟩
    have S1 := bthen S0 hb8
    refine ⟨_, rfl, S1, ?_⟩
    refine wpAnyH_all (rs := [3]) (by kernel_rfl) (by simp) fun i' hi'' => ?_
    obtain rfl := one_of hi''
    refine op_call (f := 36) (args := #[.agg (ce p (.slice (some ⟨G4, 0, none⟩) xs.length xs.length)), .agg (ce p (.slice (some ⟨G8, 0, none⟩) xs.length xs.length))]) rfl rfl (by kernel_rfl) ((eqCentre_same p G4 G8 xs hn _ _ w8 (G6.step S1) H8).mono ?_)
    rintro e w9 ⟨rfl, hb9⟩
    have S2 := bthen S1 hb9
    refine ⟨_, rfl, S2, ?_⟩
    refine wpAnyH_take (i := 4) (v := .bool false) rfl (by kernel_rfl) (by kernel_rfl) (by kernel_rfl) (fun _ _ _ h => h) (yif rfl fun w' hw' => by kernel_rfl) (by assumption) ?_
    refine wpAnyH_done (by kernel_rfl) ?_ _
    have B9 := Lib.hid (bthen B6.out S2)
    clear A6 X6 G6 B6 H8 S0 S1 S2 hb8 hb9
    simp only [Act.put, Array.setIfInBounds]
    go_wp2
    go_ret
    exact ⟨rfl, B9.out⟩
  · rw [if_pos (by omega)] at K
    go_enter Try.func7, Try.ntmps7
    go_wp2_with (((with_reducible refine is_load 63 _ rfl ?_); refine wpList_load_at rfl 63 _ rfl _ rfl (ce p (.slice a xs.length cap)) _ (by with_reducible assumption) 2 (ce_size _ _) _ Try.underlying63 rfl (by kernel_rfl) ?_))
    refine (K _).mono ?_
    rintro e w1 ⟨rfl, hb1⟩
    go_wp2_with fail
    go_ret
    exact ⟨rfl, bthen B0.out hb1⟩

set_option maxRecDepth 100000 in
theorem lifted (os : Os) (started : os.Started) (H : Type) (enc : TypeId × Value → H) :
    ReturnsInHanded {} Try.checked os 7 .any (Rows.fnExactValidCentreSpec.pre6 enc Try.prog Try.f7 Rows.fnExactValidCentreRow.domain false) (Rows.fnExactValidCentreSpec.post enc Try.prog Try.f7 false true false false) := by
  refine law_liftedS enc os started (by kernel_rfl) Try.func7
    (ChangeSpec.witness6 (enc := enc) (C := Try.checked) false ⟨#[], #[.agg #[.int .i64 0, .slice none 0 0]], []⟩ 24 (by kernel_rfl) (by kernel_rfl) (by kernel_rfl) (by kernel_rfl)) rfl (by kernel_rfl) ?_ ?_ ?_
  · rw [Try.params7]
    intro t ht
    have hall : (#[63].toList.all fun u => Try.prog.readableRec u && decide (u < Try.prog.types.size)) = true := by kernel_rfl
    have := List.all_eq_true.1 hall t ht
    simpa using this
  · intro ds h
    rw [Try.params7] at h
    match ds, h with
    | [d0], _ => rfl
  · intro W base args ds ps hl hval hA
    rw [Try.params7] at hl hval hA
    obtain ⟨v0, rfl⟩ : ∃ v0, args = #[v0] := by
      obtain ⟨l⟩ := args
      match l, hl with
      | [v0], _ => exact ⟨v0, rfl⟩
    obtain ⟨vx0, vy0, dd0, de0, pp0, pq0, ee0, -, -, tr0, rr0⟩ := trodAll_cons hA
    obtain ⟨rfl, rfl⟩ := List.cons.inj ee0
    obtain ⟨p0, a0, cap0, x0, rfl, hp0, h0⟩ := shape_centre (hval 0 _ _ rfl rfl) tr0
    exact walk W p0 a0 cap0 x0 hp0 h0

/-- THE STATEMENT -/
theorem proved : Rows.FnExactValidCentreSaid := by
  first
    | (refine OpenClaim.holds_of_wide 7 Try.f7 rfl rfl rfl rfl rfl rfl rfl ⟨rfl, rfl, rfl, rfl, rfl⟩ rfl rfl rfl rfl rfl (by kernel_rfl) Try.func7 (by kernel_rfl) (of_decide_eq_true (by kernel_rfl)) ?_ (fun os started H enc _ => lifted os started H enc))
    | (refine OpenClaim.holds_of_wide_leaving 7 Try.f7 rfl rfl rfl rfl rfl rfl rfl ⟨rfl, rfl, rfl, rfl, rfl⟩ rfl rfl rfl rfl rfl (by kernel_rfl) Try.func7 (by kernel_rfl) (of_decide_eq_true (by kernel_rfl)) ?_ (fun os started H enc _ => leaving_of_handed (lifted os started H enc)))
  unfold Func.isWrapper
  first | (rw [if_pos (by decide +kernel)]; kernel_rfl) | (rw [if_neg (by decide +kernel)]; exact ⟨rfl, rfl⟩)
#print axioms proved
end Go.Proofs.Ytkaghfoaicbngab.lawFnExactValidCentre
