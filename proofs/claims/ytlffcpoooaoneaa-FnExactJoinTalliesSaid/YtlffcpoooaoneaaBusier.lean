/-
  CONTRACTS: of two tallies the busier one.
-/
import Derived.Test.YtlffcpoooaoneaaBusier0
import Derived.Test.YtlffcpoooaoneaaTail
namespace Go.Proofs.Ytlffcpoooaoneaa
open Go Go.ChangeShapes Go.WideShapes Go.ChangeAt Go.RowKit
set_option maxRecDepth 100000

def t3 (s : T3) : Array Value := t1 s.1 s.2.1 s.2.2
theorem or2_m (y : Int) : or2 (-1) y = -1 := if_neg (by decide)
theorem or2_p (y : Int) : or2 1 y = 1 := if_neg (by decide)
theorem or2_lt {c c2 f f2 : Int} (h : c < c2 ∨ (c = c2 ∧ f < f2)) : or2 (cmpI c c2) (cmpI f f2) < 0 := by
  rcases h with h | ⟨h, h2⟩
  · rw [cmpI_lt h, or2_m]; decide
  · rw [cmpI_eq h, cmpI_lt h2]; decide
theorem or2_ge {c c2 f f2 : Int} (h : ¬ (c < c2 ∨ (c = c2 ∧ f < f2))) : ¬ or2 (cmpI c c2) (cmpI f f2) < 0 := by
  by_cases a : c2 < c
  · rw [cmpI_gt a, or2_p]; decide
  · have e : c = c2 := by omega
    rw [cmpI_eq e]
    by_cases b : f2 < f
    · rw [cmpI_gt b]; decide
    · rw [cmpI_eq (a := f) (by omega)]; decide
theorem run_two (W : World) (x y : Int) : (Instr.buildSlice 232 2 #[(0, .int .i64 x), (1, .int .i64 y)]).run Try.prog W = .ok (.slice (some ⟨W.heap.size, 0, none⟩) 2 2) (W.alloc (.cells #[.int .i64 x, .int .i64 y] 3)) := by kernel_rfl
theorem cmp16_fb (a b : Int) (w : World) : Calls Try.prog 141 #[.int .i16 a, .int .i16 b] w fun e w' => e = .returned (.int .i64 (cmpI a b)) ∧ Below w.heap.size w w' :=
  (cmp16_b a b w).mono (by rintro e w' ⟨rfl, n, rfl⟩; exact ⟨rfl, bdrew (Below.refl _ _) n⟩)
set_option maxHeartbeats 2000000 in
theorem busier_any (t c f t2 c2 f2 : Int) (w : World) :
    Calls Try.prog 76 #[.agg (t1 t c f), .agg (t1 t2 c2 f2)] w fun e w' => e = .returned (.agg (t3 (bst (t, c, f) (t2, c2, f2)))) ∧ Below w.heap.size w w' := by
  have X0 : At (((w.alloc (.cells (t1 t c f) 111)).alloc (.cells (t1 t2 c2 f2) 111)).alloc (.cells #[.int .i64 0, .int .i16 0, .int .i16 0] 111)) w.heap.size (t1 t c f) 111 := ((At.new w _ _).alloc _).alloc _
  have Y0 : At (((w.alloc (.cells (t1 t c f) 111)).alloc (.cells (t1 t2 c2 f2) 111)).alloc (.cells #[.int .i64 0, .int .i16 0, .int .i16 0] 111)) (w.heap.size + 1) (t1 t2 c2 f2) 111 := (At.last1 w _ _ _).alloc _
  have R0 : At (((w.alloc (.cells (t1 t c f) 111)).alloc (.cells (t1 t2 c2 f2) 111)).alloc (.cells #[.int .i64 0, .int .i16 0, .int .i16 0] 111)) (w.heap.size + 1 + 1) #[.int .i64 0, .int .i16 0, .int .i16 0] 111 := by
    have := At.new ((w.alloc (.cells (t1 t c f) 111)).alloc (.cells (t1 t2 c2 f2) 111)) #[.int .i64 0, .int .i16 0, .int .i16 0] 111
    rwa [World.size_alloc, World.size_alloc] at this
  have B0 := Lib.hid (bnew (bnew (b0 w (.cells (t1 t c f) 111)) (.cells (t1 t2 c2 f2) 111)) (.cells #[.int .i64 0, .int .i16 0, .int .i16 0] 111))
  have KC := cmp16_fb
  have e1 := t1_1 t c f
  have e2 := t1_2 t c f
  have e3 := t1_1 t2 c2 f2
  have e4 := t1_2 t2 c2 f2
  go_enter Try.func76, Try.ntmps76
  go_wp2_with fail
  generalize World.alloc _ (.cells #[.int .i64 0, .int .i16 0, .int .i16 0] 111) = w4 at X0 Y0 R0 B0 ⊢
  have hC := Cb.const w4
  try go_simp
  refine wp_region_cb_tail 10 (by kernel_rfl) (by kernel_rfl) ?_
  simp only [List.take, List.drop]
  repeat (first
    | go_big_quiet_skip
    | (go_big_quiet_want; first
      | (refine q_oneJ 34 _ rfl _ Try.underlying34 rfl 1 rfl X0 _ e1 ?_; go_simp; go_big_quiet_on)
      | (refine q_oneJ 34 _ rfl _ Try.underlying34 rfl 1 rfl Y0 _ e3 ?_; go_simp; go_big_quiet_on)
      | (refine q_oneJ 34 _ rfl _ Try.underlying34 rfl 2 rfl X0 _ e2 ?_; go_simp; go_big_quiet_on)
      | (refine q_oneJ 34 _ rfl _ Try.underlying34 rfl 2 rfl Y0 _ e4 ?_; go_simp; go_big_quiet_on)
      | (go_big_quiet_op; go_big_quiet_on)
      | (go_big_quiet_op; apply Exists.intro; refine ⟨fun w' hw' => ?_, ?_⟩; (go_at_call 141; exact (KC _ _ _).mono fun _ _ h => ⟨h.1, hw'.step h.2⟩); go_big_quiet_on)))
  refine wpQuiet_nil ?_
  intro w9 hw9
  have X5 := X0.step hw9
  have Y5 := Y0.step hw9
  have R5 := R0.step hw9
  have B5 := Lib.hid (bthen B0.out hw9)
  clear X0 Y0 R0 B0 hw9 hC KC e1 e2 e3 e4
  go_wp2_with (((with_reducible refine is_bslice 232 2 _ rfl ?_); refine wpList_bslice rfl 232 2 _ rfl #[(0, .int .i64 (cmpI c c2)), (1, .int .i64 (cmpI f f2))] (by kernel_rfl) _ (run_two _ _ _) ?_))
  by_cases h : c < c2 ∨ (c = c2 ∧ f < f2)
  · have ho := decide_eq_true (or2_lt h)
    have hv := Lib.hid (bst_yes (x := (t, c, f)) (y := (t2, c2, f2)) h)
    have ho' := ho
    clear ho h
    go_wp2_with fail
    refine (cmpOr_any _ _ _ _ 3 _ (At.new w9 _ _)).mono ?_
    rintro e w10 ⟨rfl, hb10⟩
    have X9 := (X5.alloc (.cells #[.int .i64 (cmpI c c2), .int .i64 (cmpI f f2)] 3)).step hb10
    have Y9 := (Y5.alloc (.cells #[.int .i64 (cmpI c c2), .int .i64 (cmpI f f2)] 3)).step hb10
    have R9 := (R5.alloc (.cells #[.int .i64 (cmpI c c2), .int .i64 (cmpI f f2)] 3)).step hb10
    have B9 := Lib.hid (bthen (bnew B5.out (.cells #[.int .i64 (cmpI c c2), .int .i64 (cmpI f f2)] 3)) hb10)
    clear hb10 X5 Y5 R5 B5
    have R10 := R9.setRow (t1 t2 c2 f2)
    have B10 := Lib.hid (bset B9.out (g := w.heap.size + 1 + 1) (by omega) (t1 t2 c2 f2))
    go_wp2_with (first | ((with_reducible refine is_load 111 _ rfl ?_); refine wpList_load_at rfl 111 _ rfl _ rfl ((t1 t2 c2 f2)) _ (by with_reducible assumption) 3 (t1_size _ _ _) _ Try.underlying111 rfl (by kernel_rfl) ?_) | ((with_reducible refine is_store 111 _ _ rfl ?_); refine wpList_store_at rfl 111 _ _ rfl _ rfl ((t1 t2 c2 f2)) rfl (#[.int .i64 0, .int .i16 0, .int .i16 0]) _ (by with_reducible assumption) 3 (t1_size _ _ _) (rfl) (by kernel_rfl) (t1_one _ _ _) ?_))
    exact bodyPost_ret (v := .agg (t1 t2 c2 f2)) (results_at (p := 4) (ty := 111) rfl _ _ _ (t1 t2 c2 f2) _ rfl R10 _ Try.underlying111 rfl 3 (t1_size _ _ _) (by kernel_rfl)) rfl ⟨by rw [hv.out]; rfl, B10.out⟩
  · have ho := decide_eq_false (or2_ge h)
    have hv := Lib.hid (bst_no (x := (t, c, f)) (y := (t2, c2, f2)) h)
    have ho' := ho
    clear ho h
    go_wp2_with fail
    refine (cmpOr_any _ _ _ _ 3 _ (At.new w9 _ _)).mono ?_
    rintro e w10 ⟨rfl, hb10⟩
    have X9 := (X5.alloc (.cells #[.int .i64 (cmpI c c2), .int .i64 (cmpI f f2)] 3)).step hb10
    have Y9 := (Y5.alloc (.cells #[.int .i64 (cmpI c c2), .int .i64 (cmpI f f2)] 3)).step hb10
    have R9 := (R5.alloc (.cells #[.int .i64 (cmpI c c2), .int .i64 (cmpI f f2)] 3)).step hb10
    have B9 := Lib.hid (bthen (bnew B5.out (.cells #[.int .i64 (cmpI c c2), .int .i64 (cmpI f f2)] 3)) hb10)
    clear hb10 X5 Y5 R5 B5
    have R10 := R9.setRow (t1 t c f)
    have B10 := Lib.hid (bset B9.out (g := w.heap.size + 1 + 1) (by omega) (t1 t c f))
    go_wp2_with (first | ((with_reducible refine is_load 111 _ rfl ?_); refine wpList_load_at rfl 111 _ rfl _ rfl ((t1 t c f)) _ (by with_reducible assumption) 3 (t1_size _ _ _) _ Try.underlying111 rfl (by kernel_rfl) ?_) | ((with_reducible refine is_store 111 _ _ rfl ?_); refine wpList_store_at rfl 111 _ _ rfl _ rfl ((t1 t c f)) rfl (#[.int .i64 0, .int .i16 0, .int .i16 0]) _ (by with_reducible assumption) 3 (t1_size _ _ _) (rfl) (by kernel_rfl) (t1_one _ _ _) ?_))
    exact bodyPost_ret (v := .agg (t1 t c f)) (results_at (p := 4) (ty := 111) rfl _ _ _ (t1 t c f) _ rfl R10 _ Try.underlying111 rfl 3 (t1_size _ _ _) (by kernel_rfl)) rfl ⟨by rw [hv.out]; rfl, B10.out⟩

end Go.Proofs.Ytlffcpoooaoneaa
