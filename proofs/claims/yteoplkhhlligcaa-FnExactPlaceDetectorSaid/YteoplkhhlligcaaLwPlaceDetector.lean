/-
  FnExactPlaceDetector: the program's PlaceDetector answers as its model, at every cell. No condition.
-/
import Derived.Test.YteoplkhhlligcaaPlaceD
import Derived.Test.YteoplkhhlligcaaToDet
import Derived.Test.YteoplkhhlligcaaLaw
namespace Go.Proofs.Yteoplkhhlligcaa.lawFnExactPlaceDetector
open Go Go.ChangeShapes Go.WideShapes Go.ChangeAt Go.RowKit

theorem walk (c : Int) (_h : -9223372036854775808 ≤ c ∧ c ≤ 9223372036854775807) (w : World) :
    Calls Try.prog 6 #[.int .i64 c] w (True? w) := by
  have KS := fun w => sPlaceDetector_any c w
  have KI := fun w => PlaceDetector_any c w
  generalize vPlaceD c = qq at KS KI
  obtain ⟨q, cd⟩ := qq
  simp only at KS KI
  go_enter Try.func6, Try.ntmps6
  go_wp2_with fail
  refine (KS _).mono ?_
  rintro e w1 ⟨rfl, hb1⟩
  have X0 := At.new w1 #[.int .i64 0, .float .f32 0, .int .i16 0, .float .f32 0, .int .i64 0] 29
  have X1 := X0.setRow (dt q 0 0 0 0)
  have C1 := Lib.hid (bset (bnew hb1 (.cells #[.int .i64 0, .float .f32 0, .int .i16 0, .float .f32 0, .int .i64 0] 29)) (g := w1.heap.size) hb1.size (dt q 0 0 0 0))
  go_wp2_with (((with_reducible refine is_store 29 _ _ rfl ?_); refine wpList_store_at rfl 29 _ _ rfl _ rfl ((dt q 0 0 0 0)) rfl (#[.int .i64 0, .float .f32 0, .int .i16 0, .float .f32 0, .int .i64 0]) _ (by with_reducible assumption) 5 (dt_size _ _ _ _ _) (rfl) (by kernel_rfl) (dt_one _ _ _ _ _) ?_))
  generalize (w1.alloc (.cells #[.int .i64 0, .float .f32 0, .int .i16 0, .float .f32 0, .int .i64 0] 29)).setRow w1.heap.size (dt q 0 0 0 0) = w1' at X1 C1 ⊢
  clear X0
  refine (KI _).mono ?_
  rintro e w2 ⟨rfl, hb2⟩
  have X2 := X1.step hb2
  have B2 := Lib.hid (bthen C1.out hb2)
  have Y0 := At.new w2 #[.int .i64 0, .float .f32 0, .int .i16 0, .float .f32 0, .int .i64 0] 29
  have Y2 := Y0.setRow (dt q 0 0 0 0)
  have B2' : Below w2.heap.size w2 ((w2.alloc (.cells #[.int .i64 0, .float .f32 0, .int .i16 0, .float .f32 0, .int .i64 0] 29)).setRow w2.heap.size (dt q 0 0 0 0)) := bset (b0 w2 (.cells #[.int .i64 0, .float .f32 0, .int .i16 0, .float .f32 0, .int .i64 0] 29)) (g := w2.heap.size) (Nat.le_refl _) (dt q 0 0 0 0)
  have X3 := X2.step B2'
  have C2 := Lib.hid (bthen B2.out B2')
  clear X1 C1 hb2 B2 B2' X2
  go_wp2_with (first | ((with_reducible refine is_load 29 _ rfl ?_); refine wpList_load_at rfl 29 _ rfl _ rfl ((dt q 0 0 0 0)) _ (by with_reducible assumption) 5 (dt_size _ _ _ _ _) _ Try.underlying29 rfl (by kernel_rfl) ?_) | ((with_reducible refine is_store 29 _ _ rfl ?_); refine wpList_store_at rfl 29 _ _ rfl _ rfl ((dt q 0 0 0 0)) rfl (#[.int .i64 0, .float .f32 0, .int .i16 0, .float .f32 0, .int .i64 0]) _ (by with_reducible assumption) 5 (dt_size _ _ _ _ _) (rfl) (by kernel_rfl) (dt_one _ _ _ _ _) ?_))
  refine (eqDetector_same q 0 0 0 0 (by decide) (by decide) _).mono ?_
  rintro e w3 ⟨rfl, hb3⟩
  go_wp2_with fail
  go_ret
  exact ⟨rfl, bthen C2.out hb3⟩

set_option maxRecDepth 100000 in
theorem lifted (os : Os) (started : os.Started) (H : Type) (enc : TypeId × Value → H) :
    ReturnsInHanded {} Try.checked os 6 .any (Rows.fnExactPlaceDetectorSpec.pre6 enc Try.prog Try.f6 Rows.fnExactPlaceDetectorRow.domain false) (Rows.fnExactPlaceDetectorSpec.post enc Try.prog Try.f6 false true false false) := by
  refine law_lifted enc os started (by kernel_rfl) Try.func6
    (ChangeSpec.witness6 (enc := enc) (C := Try.checked) false ⟨#[], #[.int .i64 0], []⟩ 24 (by kernel_rfl) (by kernel_rfl) (by kernel_rfl) (by kernel_rfl)) rfl (by kernel_rfl) ?_ ?_ ?_
  · rw [Try.params6]
    intro t ht
    have hall : (#[2].toList.all fun u => Try.prog.readableRec u && decide (u < Try.prog.types.size)) = true := by kernel_rfl
    have := List.all_eq_true.1 hall t ht
    simpa using this
  · intro ds h
    rw [Try.params6] at h
    match ds, h with
    | [d0], _ => rfl
  · intro W base args hl hval
    rw [Try.params6] at hl hval
    obtain ⟨v0, rfl⟩ : ∃ v0, args = #[v0] := by
      obtain ⟨l⟩ := args
      match l, hl with
      | [v0], _ => exact ⟨v0, rfl⟩
    obtain ⟨x0, rfl, h0⟩ := shape_i64 (hval 0 _ _ rfl rfl)
    exact walk x0 h0 W

/-- THE STATEMENT -/
theorem proved : Rows.FnExactPlaceDetectorSaid :=
  OpenClaim.holds_of_wide 6 Try.f6 rfl rfl rfl rfl rfl rfl rfl ⟨rfl, rfl, rfl, rfl, rfl⟩ rfl rfl rfl rfl rfl (by kernel_rfl) Try.func6 (by kernel_rfl)
    (of_decide_eq_true (by kernel_rfl)) (by unfold Func.isWrapper; first | (rw [if_pos (by decide +kernel)]; kernel_rfl) | (rw [if_neg (by decide +kernel)]; exact ⟨rfl, rfl⟩))
    (fun os started H enc _ => lifted os started H enc)
#print axioms proved
end Go.Proofs.Yteoplkhhlligcaa.lawFnExactPlaceDetector
