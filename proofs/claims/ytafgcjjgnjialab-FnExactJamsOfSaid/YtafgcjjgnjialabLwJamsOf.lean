/-
  FnExactJamsOf: the program's JamsOf answers as its model, and owns its answer, at every road. No condition.
-/
import Derived.Test.YtafgcjjgnjialabLaw
import Derived.Test.YtafgcjjgnjialabJamsOf
import Derived.Test.YtafgcjjgnjialabMarks
namespace Go.Proofs.Ytafgcjjgnjialab.lawFnExactJamsOf
open Go Go.ChangeShapes Go.WideShapes Go.ChangeAt Go.RowKit

set_option maxHeartbeats 400000 in
theorem walk (cs : List Nat) (p b l : Nat) (hl : cs.length = 16) (hc : ∀ x ∈ cs, x < 4294967296) (hp : p < 4294967296) (hb : b < 4294967296) (hla : l < 4294967296) (w : World) :
    Calls Try.prog 7 #[.agg (rd cs p b l)] w (True? w) := by
  have A0 := At.new w (rd cs p b l) 25
  have KS := fun w => sJamsOf_any cs p b l hl hc hp hb hla w
  have KI := fun w => JamsOf_any cs p b l hl hc hp hb hla w
  generalize vJams cs p b l = js at KS KI
  generalize (if okB cs p b l = true then (0 : Int) else 1) = c at KS KI
  go_enter Try.func7, Try.ntmps7
  go_wp2_with (((with_reducible refine is_load 25 _ rfl ?_); refine wpList_load_at rfl 25 _ rfl _ rfl (rd cs p b l) _ (by assumption) 19 (rd_size hl p b l) _ Try.underlying25 rfl (by kernel_rfl) ?_))
  refine (toRoad_any cs p b l hl _).mono ?_
  rintro e w1 ⟨rfl, hb1⟩
  have A1 := A0.step hb1
  go_wp2_with fail
  refine (KS _).mono ?_
  intro e w2 hJ
  obtain ⟨v1, n, rfl, O1, hn, hb2⟩ := hJ
  have A2 := A1.step hb2
  clear A1 KS
  go_wp2_with (((with_reducible refine is_load 25 _ rfl ?_); refine wpList_load_at rfl 25 _ rfl _ rfl (rd cs p b l) _ (by assumption) 19 (rd_size hl p b l) _ Try.underlying25 rfl (by kernel_rfl) ?_))
  refine (toRoad_any cs p b l hl _).mono ?_
  rintro e w3 ⟨rfl, hb3⟩
  go_wp2_with fail
  refine (KI _).mono ?_
  intro e w4 hJ
  obtain ⟨v2, n2, rfl, O2, -, hb4⟩ := hJ
  obtain rfl : n2 = n := by have h1 := O1.len; have h2 := O2.len; omega
  have B4 := Lib.hid (bthen hb3 hb4)
  go_wp2_with fail
  refine (eqA2S_same O2 (O1.step B4.out) hn).mono ?_
  rintro e w5 ⟨rfl, hb5⟩
  have KM := mark_any (O2.step hb5) hn
  have KH := fun w (O : Own2 w w3.heap.size v2 n2 (mk12 js (2 * n2))) => held_any O (mk12_nth js (2 * n2) (by rw [O2.len]; omega)) hn
  obtain ⟨M, hM⟩ : ∃ M : Int, M = ((2 * n2 : Nat) : Int) + 1 := ⟨_, rfl⟩
  rw [← hM] at KM KH
  have hM0 : decide (M < 0) = false := decide_eq_false (by omega)
  clear hM
  go_wp2_with fail
  refine KM.mono ?_
  rintro e w6 ⟨rfl, O6, hb6⟩
  clear KM
  have B6 := Lib.hid ((bthen B4.out hb5).trans (hb6.mono hb3.size))
  have A6 := A2.step B6.out
  clear A2 hb6 hb5 hb4
  go_wp2_with fail
  refine (KH _ O6).mono ?_
  rintro e w7 ⟨rfl, rfl⟩
  go_wp2_with (((with_reducible refine is_load 25 _ rfl ?_); refine wpList_load_at rfl 25 _ rfl _ rfl (rd cs p b l) _ (by assumption) 19 (rd_size hl p b l) _ Try.underlying25 rfl (by kernel_rfl) ?_))
  refine (toRoad_any cs p b l hl _).mono ?_
  rintro e w8 ⟨rfl, hb8⟩
  go_wp2_with fail
  refine (KI _).mono ?_
  intro e w9 hJ
  obtain ⟨v3, n3, rfl, O3, -, hb9⟩ := hJ
  obtain rfl : n3 = n2 := by have h1 := O2.len; have h2 := O3.len; omega
  have B9 := Lib.hid (bthen hb8 hb9)
  go_wp2_with fail
  refine (eqA2S_same O3 (O1.step (bthen B6.out B9.out)) hn).mono ?_
  rintro e w10 ⟨rfl, hb10⟩
  go_wp2_with fail
  refine (KH _ (O6.step (bthen B9.out hb10))).mono ?_
  rintro e w11 ⟨rfl, rfl⟩
  go_wp2_with fail
  go_ret
  exact ⟨rfl, bthen (bthen (bthen (bthen (b0 _ _) hb1) hb2) B6.out) (bthen B9.out hb10)⟩

set_option maxRecDepth 100000 in
theorem lifted (os : Os) (started : os.Started) (H : Type) (enc : TypeId × Value → H) :
    ReturnsInHanded {} Try.checked os 7 .any (Rows.fnExactJamsOfSpec.pre6 enc Try.prog Try.f7 Rows.fnExactJamsOfRow.domain false) (Rows.fnExactJamsOfSpec.post enc Try.prog Try.f7 false true false false) := by
  refine law_lifted enc os started (by kernel_rfl) Try.func7
    (ChangeSpec.witness6 (enc := enc) (C := Try.checked) false ⟨#[], #[.agg (Array.replicate 19 (.float .f32 0))], []⟩ 24 (by kernel_rfl) (by kernel_rfl) (by kernel_rfl) (by kernel_rfl)) rfl (by kernel_rfl) ?_ ?_ ?_
  · rw [Try.params7]
    intro t ht
    have hall : (#[25].toList.all fun u => Try.prog.readableRec u && decide (u < Try.prog.types.size)) = true := by kernel_rfl
    have := List.all_eq_true.1 hall t ht
    simpa using this
  · intro ds h
    rw [Try.params7] at h
    match ds, h with
    | [d0], _ => rfl
  · intro W base args hl hval
    rw [Try.params7] at hl hval
    obtain ⟨v0, rfl⟩ : ∃ v0, args = #[v0] := by
      obtain ⟨l⟩ := args
      match l, hl with
      | [v0], _ => exact ⟨v0, rfl⟩
    obtain ⟨c0, p0, b0, l0, rfl, hl0, hc0, hp0, hb0, hla0⟩ := shape_road (hval 0 _ _ rfl rfl)
    exact walk c0 p0 b0 l0 hl0 hc0 hp0 hb0 hla0 W

/-- THE STATEMENT -/
theorem proved : Rows.FnExactJamsOfSaid :=
  OpenClaim.holds_of_wide 7 Try.f7 rfl rfl rfl rfl rfl rfl rfl ⟨rfl, rfl, rfl, rfl, rfl⟩ rfl rfl rfl rfl rfl (by kernel_rfl) Try.func7 (by kernel_rfl)
    (of_decide_eq_true (by kernel_rfl)) (by unfold Func.isWrapper; first | (rw [if_pos (by decide +kernel)]; kernel_rfl) | (rw [if_neg (by decide +kernel)]; exact ⟨rfl, rfl⟩))
    (fun os started H enc _ => lifted os started H enc)
#print axioms proved
end Go.Proofs.Ytafgcjjgnjialab.lawFnExactJamsOf
