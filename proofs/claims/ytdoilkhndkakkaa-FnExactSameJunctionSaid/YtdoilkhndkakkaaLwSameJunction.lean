/-
  FnExactSameJunction: the program's SameJunction answers as its model, at every two junctions. No condition.
-/
import Derived.Test.YtdoilkhndkakkaaLaw
import Derived.Test.YtdoilkhndkakkaaToJn
import Derived.Test.YtdoilkhndkakkaaSameJnS
namespace Go.Proofs.Ytdoilkhndkakkaa.lawFnExactSameJunction
open Go Go.ChangeShapes Go.WideShapes Go.ChangeAt Go.RowKit

set_option maxRecDepth 100000
set_option maxHeartbeats 1000000 in
theorem walk (i o : Int) (ts ps : List Nat) (hi : -9223372036854775808 ≤ i ∧ i ≤ 9223372036854775807) (ho : -9223372036854775808 ≤ o ∧ o ≤ 9223372036854775807) (hlt : ts.length = 16) (hlp : ps.length = 4) (hct : ∀ x ∈ ts, x < 4294967296) (hcp : ∀ x ∈ ps, x < 4294967296) (i' o' : Int) (ts' ps' : List Nat) (hi' : -9223372036854775808 ≤ i' ∧ i' ≤ 9223372036854775807) (ho' : -9223372036854775808 ≤ o' ∧ o' ≤ 9223372036854775807) (hlt' : ts'.length = 16) (hlp' : ps'.length = 4) (hct' : ∀ x ∈ ts', x < 4294967296) (hcp' : ∀ x ∈ ps', x < 4294967296) (w : World) :
    Calls Try.prog 4 #[.agg (jn i o ts ps), .agg (jn i' o' ts' ps')] w (True? w) := by
  have A0 : At ((w.alloc (.cells (jn i o ts ps) 26)).alloc (.cells (jn i' o' ts' ps') 26)) w.heap.size (jn i o ts ps) 26 := (At.new w _ _).alloc _
  have E0 : At ((w.alloc (.cells (jn i o ts ps) 26)).alloc (.cells (jn i' o' ts' ps') 26)) (w.heap.size + 1) (jn i' o' ts' ps') 26 := At.last1 w _ _ _
  have B0 := Lib.hid (bnew (b0 w (.cells (jn i o ts ps) 26)) (.cells (jn i' o' ts' ps') 26))
  have SA := jn_size hlt hlp i o
  have SE := jn_size hlt' hlp' i' o'
  have KA := toJunction_any i o ts ps hi ho hlt hlp hct hcp
  have KE := toJunction_any i' o' ts' ps' hi' ho' hlt' hlp' hct' hcp'
  have KS := sSameJunction_b i o ts ps hi ho hlt hlp hct hcp i' o' ts' ps' hi' ho' hlt' hlp' hct' hcp'
  have KI := SameJunction_b i o ts ps hi ho hlt hlp hct hcp i' o' ts' ps' hi' ho' hlt' hlp' hct' hcp'
  go_enter Try.func4, Try.ntmps4
  go_wp2
  generalize ((w.alloc (.cells (jn i o ts ps) 26)).alloc (.cells (jn i' o' ts' ps') 26)) = w0 at A0 E0 B0 ⊢
  have hC := Cb.const w0
  refine wp_region_cb (by kernel_rfl) (by kernel_rfl) ?_
  repeat (first
    | go_big_quiet_skip
    | (go_big_quiet_want; first
      | (refine q_row 26 _ rfl rfl A0 22 SA _ Try.underlying26 rfl (by kernel_rfl) ?_; go_simp; go_big_quiet_on)
      | (refine q_row 26 _ rfl rfl E0 22 SE _ Try.underlying26 rfl (by kernel_rfl) ?_; go_simp; go_big_quiet_on)
      | (go_big_quiet_op; go_big_quiet_on)
      | (go_big_quiet_op; apply Exists.intro; refine ⟨fun w' hw' => ?_, ?_⟩; (go_at_call 16; (with_reducible show Calls _ _ #[.agg (jn i o ts ps)] _ _); exact (KA _).mono fun _ _ h => ⟨h.1, hw'.step h.2⟩); go_big_quiet_on)
      | (go_big_quiet_op; apply Exists.intro; refine ⟨fun w' hw' => ?_, ?_⟩; (go_at_call 16; (with_reducible show Calls _ _ #[.agg (jn i' o' ts' ps')] _ _); exact (KE _).mono fun _ _ h => ⟨h.1, hw'.step h.2⟩); go_big_quiet_on)
      | (go_big_quiet_op; apply Exists.intro; refine ⟨fun w' hw' => ?_, ?_⟩; (go_at_call 18; (with_reducible show Calls _ _ #[.agg (jn i o ts ps), .agg (jn i' o' ts' ps')] _ _); exact (KS _).mono fun _ _ h => ⟨h.1, hw'.step h.2⟩); go_big_quiet_on)))
  refine wpQuiet_nil ?_
  intro w1 hw1
  have A1 := A0.step hw1
  have E1 := E0.step hw1
  have B1 := Lib.hid (bthen B0.out hw1)
  clear hw1 A0 E0 hC B0
  have hC := Cb.const w1
  go_wp2
  refine wp_region_cb (by kernel_rfl) (by kernel_rfl) ?_
  repeat (first
    | go_big_quiet_skip
    | (go_big_quiet_want; first
      | (refine q_row 26 _ rfl rfl A1 22 SA _ Try.underlying26 rfl (by kernel_rfl) ?_; go_simp; go_big_quiet_on)
      | (refine q_row 26 _ rfl rfl E1 22 SE _ Try.underlying26 rfl (by kernel_rfl) ?_; go_simp; go_big_quiet_on)
      | (go_big_quiet_op; go_big_quiet_on)
      | (go_big_quiet_op; apply Exists.intro; refine ⟨fun w' hw' => ?_, ?_⟩; (go_at_call 16; (with_reducible show Calls _ _ #[.agg (jn i o ts ps)] _ _); exact (KA _).mono fun _ _ h => ⟨h.1, hw'.step h.2⟩); go_big_quiet_on)
      | (go_big_quiet_op; apply Exists.intro; refine ⟨fun w' hw' => ?_, ?_⟩; (go_at_call 16; (with_reducible show Calls _ _ #[.agg (jn i' o' ts' ps')] _ _); exact (KE _).mono fun _ _ h => ⟨h.1, hw'.step h.2⟩); go_big_quiet_on)
      | (go_big_quiet_op; apply Exists.intro; refine ⟨fun w' hw' => ?_, ?_⟩; (go_at_call 19; (with_reducible show Calls _ _ #[.agg (jn i o ts ps), .agg (jn i' o' ts' ps')] _ _); exact (KI _).mono fun _ _ h => ⟨h.1, hw'.step h.2⟩); go_big_quiet_on)))
  refine wpQuiet_nil ?_
  intro w2 hw2
  go_wp2
  go_ret
  exact ⟨rfl, bthen B1.out hw2⟩

set_option maxRecDepth 100000 in
theorem lifted (os : Os) (started : os.Started) (H : Type) (enc : TypeId × Value → H) :
    ReturnsInHanded {} Try.checked os 4 .any (Rows.fnExactSameJunctionSpec.pre6 enc Try.prog Try.f4 Rows.fnExactSameJunctionRow.domain false) (Rows.fnExactSameJunctionSpec.post enc Try.prog Try.f4 false true false false) := by
  refine law_lifted enc os started (by kernel_rfl) Try.func4
    (ChangeSpec.witness6 (enc := enc) (C := Try.checked) false ⟨#[], #[.agg (#[.int .i64 0, .int .i64 0] ++ Array.replicate 20 (.float .f32 0)), .agg (#[.int .i64 0, .int .i64 0] ++ Array.replicate 20 (.float .f32 0))], []⟩ 24 (by kernel_rfl) (by kernel_rfl) (by kernel_rfl) (by kernel_rfl)) rfl (by kernel_rfl) ?_ ?_ ?_
  · rw [Try.params4]
    intro t ht
    have hall : (#[26, 26].toList.all fun u => Try.prog.readableRec u && decide (u < Try.prog.types.size)) = true := by kernel_rfl
    have := List.all_eq_true.1 hall t ht
    simpa using this
  · intro ds h
    rw [Try.params4] at h
    match ds, h with
    | [d0, d1], _ => rfl
  · intro W base args hl hval
    rw [Try.params4] at hl hval
    obtain ⟨v0, v1, rfl⟩ : ∃ v0 v1, args = #[v0, v1] := by
      obtain ⟨l⟩ := args
      match l, hl with
      | [v0, v1], _ => exact ⟨v0, v1, rfl⟩
    obtain ⟨ji0, jo0, jt0, jp0, rfl, hji0, hjo0, hlt0, hlp0, hct0, hcp0⟩ := shape_jn (hval 0 _ _ rfl rfl)
    obtain ⟨ji1, jo1, jt1, jp1, rfl, hji1, hjo1, hlt1, hlp1, hct1, hcp1⟩ := shape_jn (hval 1 _ _ rfl rfl)
    exact walk ji0 jo0 jt0 jp0 hji0 hjo0 hlt0 hlp0 hct0 hcp0 ji1 jo1 jt1 jp1 hji1 hjo1 hlt1 hlp1 hct1 hcp1 W

/-- THE STATEMENT -/
theorem proved : Rows.FnExactSameJunctionSaid :=
  OpenClaim.holds_of_wide 4 Try.f4 rfl rfl rfl rfl rfl rfl rfl ⟨rfl, rfl, rfl, rfl, rfl⟩ rfl rfl rfl rfl rfl (by kernel_rfl) Try.func4 (by kernel_rfl)
    (of_decide_eq_true (by kernel_rfl)) (by unfold Func.isWrapper; first | (rw [if_pos (by decide +kernel)]; kernel_rfl) | (rw [if_neg (by decide +kernel)]; exact ⟨rfl, rfl⟩))
    (fun os started H enc _ => lifted os started H enc)
#print axioms proved
end Go.Proofs.Ytdoilkhndkakkaa.lawFnExactSameJunction
