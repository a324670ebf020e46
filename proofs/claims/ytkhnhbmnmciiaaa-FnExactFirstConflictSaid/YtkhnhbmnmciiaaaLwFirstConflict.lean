/-
  FnExactFirstConflict: the program's FirstConflict answers as its model, at every table and phase. No condition.
-/
import Derived.Test.YtkhnhbmnmciiaaaClear
import Derived.Test.YtkhnhbmnmciiaaaPiece
namespace Go.Proofs.Ytkhnhbmnmciiaaa.lawFnExactFirstConflict
open Go Go.ChangeShapes Go.WideShapes Go.ChangeAt Go.RowKit

set_option maxRecDepth 100000
set_option maxHeartbeats 400000 in
theorem walk (ts : List Bool) (hl : ts.length = 64) (ps : List Bool) (hp : ps.length = 8) (w : World) :
    Calls Try.prog 6 #[.agg (bl ts), .agg (bl ps)] w (True? w) := by
  have A0 : At ((w.alloc (.cells (bl ts) 23)).alloc (.cells (bl ps) 22)) w.heap.size (bl ts) 23 := (At.new w _ _).alloc _
  have P0 : At ((w.alloc (.cells (bl ts) 23)).alloc (.cells (bl ps) 22)) (w.heap.size + 1) (bl ps) 22 := At.last1 w _ _ _
  have B0 := Lib.hid (bnew (b0 w (.cells (bl ts) 23)) (.cells (bl ps) 22))
  have SZ : (bl ts).size = 64 := by rw [bl_size, hl]
  have SP : (bl ps).size = 8 := by rw [bl_size, hp]
  have KS := sFirstConflict_any ts ps hl hp
  have KI := FirstConflict_any ts ps hl hp
  go_enter Try.func6, Try.ntmps6
  go_wp2
  generalize ((w.alloc (.cells (bl ts) 23)).alloc (.cells (bl ps) 22)) = w0 at A0 P0 B0 ⊢
  have hC := Cb.const w0
  refine wp_region_cb (by kernel_rfl) (by kernel_rfl) ?_
  repeat (first
    | go_big_quiet_skip
    | (go_big_quiet_want; first
      | (refine q_row 23 _ rfl rfl A0 64 SZ _ Try.underlying23 rfl (by kernel_rfl) ?_; go_simp; go_big_quiet_on)
      | (refine q_row 22 _ rfl rfl P0 8 SP _ Try.underlying22 rfl (by kernel_rfl) ?_; go_simp; go_big_quiet_on)
      | (go_big_quiet_op; go_big_quiet_on)
      | (go_big_quiet_op; apply Exists.intro; refine ⟨fun w' hw' => ?_, ?_⟩; (go_at_call 16; exact (toTable_any ts hl _).mono fun _ _ h => ⟨h.1, hw'.step h.2⟩); go_big_quiet_on)
      | (go_big_quiet_op; apply Exists.intro; refine ⟨fun w' hw' => ?_, ?_⟩; (go_at_call 23; exact (toPhase_any ps hp _).mono fun _ _ h => ⟨h.1, hw'.step h.2⟩); go_big_quiet_on)
      | (go_big_quiet_op; apply Exists.intro; refine ⟨fun w' hw' => ?_, ?_⟩; (go_at_call 25; exact (KS _).mono fun _ _ h => ⟨h.1, hw'.step h.2⟩); go_big_quiet_on)))
  refine wpQuiet_nil ?_
  intro w1 hw1
  have A1 := A0.step hw1
  have P1 := P0.step hw1
  have B1 := Lib.hid (bthen B0.out hw1)
  clear hC hw1 A0 P0 B0
  go_wp2
  have hC := Cb.const w1
  refine wp_region_cb (by kernel_rfl) (by kernel_rfl) ?_
  repeat (first
    | go_big_quiet_skip
    | (go_big_quiet_want; first
      | (refine q_row 23 _ rfl rfl A1 64 SZ _ Try.underlying23 rfl (by kernel_rfl) ?_; go_simp; go_big_quiet_on)
      | (refine q_row 22 _ rfl rfl P1 8 SP _ Try.underlying22 rfl (by kernel_rfl) ?_; go_simp; go_big_quiet_on)
      | (go_big_quiet_op; go_big_quiet_on)
      | (go_big_quiet_op; apply Exists.intro; refine ⟨fun w' hw' => ?_, ?_⟩; (go_at_call 16; exact (toTable_any ts hl _).mono fun _ _ h => ⟨h.1, hw'.step h.2⟩); go_big_quiet_on)
      | (go_big_quiet_op; apply Exists.intro; refine ⟨fun w' hw' => ?_, ?_⟩; (go_at_call 23; exact (toPhase_any ps hp _).mono fun _ _ h => ⟨h.1, hw'.step h.2⟩); go_big_quiet_on)
      | (go_big_quiet_op; apply Exists.intro; refine ⟨fun w' hw' => ?_, ?_⟩; (go_at_call 26; exact (KI _).mono fun _ _ h => ⟨h.1, hw'.step h.2⟩); go_big_quiet_on)))
  refine wpQuiet_nil ?_
  intro w2 hw2
  have B2 := Lib.hid (bthen B1.out hw2)
  clear hC hw2 A1 P1 B1 KS KI
  go_wp2
  go_ret
  exact ⟨rfl, B2.out⟩

set_option maxRecDepth 100000 in
theorem lifted (os : Os) (started : os.Started) (H : Type) (enc : TypeId × Value → H) :
    ReturnsInHanded {} Try.checked os 6 .any (Rows.fnExactFirstConflictSpec.pre6 enc Try.prog Try.f6 Rows.fnExactFirstConflictRow.domain false) (Rows.fnExactFirstConflictSpec.post enc Try.prog Try.f6 false true false false) := by
  refine law_lifted enc os started (by kernel_rfl) Try.func6
    (ChangeSpec.witness6 (enc := enc) (C := Try.checked) false ⟨#[], #[.agg (Array.replicate 64 (.bool false)), .agg (Array.replicate 8 (.bool false))], []⟩ 24 (by kernel_rfl) (by kernel_rfl) (by kernel_rfl) (by kernel_rfl)) rfl (by kernel_rfl) ?_ ?_ ?_
  · rw [Try.params6]
    intro t ht
    have hall : (#[23, 22].toList.all fun u => Try.prog.readableRec u && decide (u < Try.prog.types.size)) = true := by kernel_rfl
    have := List.all_eq_true.1 hall t ht
    simpa using this
  · intro ds h
    rw [Try.params6] at h
    match ds, h with
    | [d0, d1], _ => rfl
  · intro W base args hl hval
    rw [Try.params6] at hl hval
    obtain ⟨v0, v1, rfl⟩ : ∃ v0 v1, args = #[v0, v1] := by
      obtain ⟨l⟩ := args
      match l, hl with
      | [v0, v1], _ => exact ⟨v0, v1, rfl⟩
    obtain ⟨c0, rfl, hl0⟩ := shape_bl (n := 64) Try.underlying23 rfl (by kernel_rfl) (by kernel_rfl) (hval 0 _ _ rfl rfl)
    obtain ⟨c1, rfl, hl1⟩ := shape_bl (n := 8) Try.underlying22 rfl (by kernel_rfl) (by kernel_rfl) (hval 1 _ _ rfl rfl)
    exact walk c0 hl0 c1 hl1 W

/-- THE STATEMENT -/
theorem proved : Rows.FnExactFirstConflictSaid :=
  OpenClaim.holds_of_wide 6 Try.f6 rfl rfl rfl rfl rfl rfl rfl ⟨rfl, rfl, rfl, rfl, rfl⟩ rfl rfl rfl rfl rfl (by kernel_rfl) Try.func6 (by kernel_rfl)
    (of_decide_eq_true (by kernel_rfl)) (by unfold Func.isWrapper; first | (rw [if_pos (by decide +kernel)]; kernel_rfl) | (rw [if_neg (by decide +kernel)]; exact ⟨rfl, rfl⟩))
    (fun os started H enc _ => lifted os started H enc)
#print axioms proved
end Go.Proofs.Ytkhnhbmnmciiaaa.lawFnExactFirstConflict
