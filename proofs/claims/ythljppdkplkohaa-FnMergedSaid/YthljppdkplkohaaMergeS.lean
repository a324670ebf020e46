/-
  CONTRACTS: MergeTwo, the model's; the rules of a merge.
-/
import Derived.Test.YthljppdkplkohaaMergeL
import Derived.OwnWalk
namespace Go.Proofs.Ythljppdkplkohaa
open Go Go.RowKit
set_option maxRecDepth 100000

theorem all_any (a b t s : Nat) (w : World) : Calls Try.prog 17 #[.agg (fl [a, b, t, s])] w fun e w' => e = .returned (.float .f32 (a)) ∧ Below w.heap.size w w' := by
  have A0 := At.new w (fl [a, b, t, s]) 45
  have c0 := A0.cell (k := 0) (v := .float .f32 a) rfl
  have c1 := A0.cell (k := 1) (v := .float .f32 b) rfl
  have c2 := A0.cell (k := 2) (v := .float .f32 t) rfl
  have c3 := A0.cell (k := 3) (v := .float .f32 s) rfl
  go_enter Try.func17, Try.ntmps17
  go_wp2
  go_ret
  exact ⟨rfl, b0 _ _⟩

theorem left_any (a b t s : Nat) (ht : t < 2139095040) (hb : b < 2139095040) (w : World) : Calls Try.prog 18 #[.agg (fl [a, b, t, s])] w fun e w' => e = .returned (.float .f32 (dW t b)) ∧ Below w.heap.size w w' := by
  have A0 := At.new w (fl [a, b, t, s]) 45
  have c0 := A0.cell (k := 0) (v := .float .f32 a) rfl
  have c1 := A0.cell (k := 1) (v := .float .f32 b) rfl
  have c2 := A0.cell (k := 2) (v := .float .f32 t) rfl
  have c3 := A0.cell (k := 3) (v := .float .f32 s) rfl
  have f : ∀ T W, (binOp .sub T (.float .f32 t) (.float .f32 b)).run Try.prog W = .ok (.float .f32 (dW t b)) W := fun T W => run_float_arith W .sub T .f32 _ _ _ (sub_any ht hb)
  go_enter Try.func18, Try.ntmps18
  go_wp2
  go_ret
  exact ⟨rfl, b0 _ _⟩

theorem due_any (a b t s : Nat) (ht : t < 2139095040) (hs : s ≤ 1065353216) (w : World) : Calls Try.prog 19 #[.agg (fl [a, b, t, s])] w fun e w' => e = .returned (.float .f32 (mulB s t)) ∧ Below w.heap.size w w' := by
  have A0 := At.new w (fl [a, b, t, s]) 45
  have c0 := A0.cell (k := 0) (v := .float .f32 a) rfl
  have c1 := A0.cell (k := 1) (v := .float .f32 b) rfl
  have c2 := A0.cell (k := 2) (v := .float .f32 t) rfl
  have c3 := A0.cell (k := 3) (v := .float .f32 s) rfl
  have f : ∀ T W, (binOp .mul T (.float .f32 s) (.float .f32 t)).run Try.prog W = .ok (.float .f32 (mulB s t)) W := fun T W => run_float_arith W .mul T .f32 _ _ _ (mul_eq (by omega) ht).1
  go_enter Try.func19, Try.ntmps19
  go_wp2
  go_ret
  exact ⟨rfl, b0 _ _⟩

theorem l03Middle_any (a d m : Nat) (w : World) : Calls Try.prog 23 #[.float .f32 a, .float .f32 d, .float .f32 m] w (Rd (.float .f32 (midW a d m)) w) := by
  have l1 : (FloatKind.f32.format.order d a == some .lt) = ltB d a := rfl
  have l2 : (FloatKind.f32.format.order m d == some .lt) = ltB m d := rfl
  have l3 : (FloatKind.f32.format.order m a == some .lt) = ltB m a := rfl
  unfold midW
  cases c1 : ltB d a <;> cases c2 : ltB m d <;> cases c3 : ltB m a <;> rw [c1] at l1 <;> rw [c2] at l2 <;> rw [c3] at l3
  all_goals
    go_enter Try.func23, Try.ntmps23
    go_wp2
    go_ret
    exact Rd.mk0

set_option maxHeartbeats 1000000 in
theorem sMergeTwo_b (a : Nat) (ha : a < 4294967296) (b : Nat) (hb : b < 4294967296) (t : Nat) (ht : t < 4294967296) (s : Nat) (hs : s < 4294967296) (w : World) :
    Calls Try.prog 7 #[.float .f32 a, .float .f32 b, .float .f32 t, .float .f32 s] w fun e w' => e = .returned (.tuple #[.float .f32 (vMerge a b t s).1, .float .f32 (vMerge a b t s).2.1, .int .i64 (vMerge a b t s).2.2]) ∧ Below w.heap.size w w' := by
  cases h_a : amtB a
  · have ev : (vMerge a b t s) = (0, 0, 2) := by unfold vMerge okMerge; rw [h_a]; simp
    rw [ev]
    clear ev
    go_enter Try.func7, Try.ntmps7
    go_wp2_with (first | (go_at_call 21; (with_reducible show Calls _ _ #[.float .f32 a] _ _); refine (l01Amount_any a ha _).mono ?_; rw [h_a]; rintro e w' ⟨rfl, n_a, rfl⟩) | (go_at_call 21; (with_reducible show Calls _ _ #[.float .f32 b] _ _); refine (l01Amount_any b hb _).mono ?_; rw [h_b]; rintro e w' ⟨rfl, n_b, rfl⟩) | (go_at_call 21; (with_reducible show Calls _ _ #[.float .f32 t] _ _); refine (l01Amount_any t ht _).mono ?_; rw [h_t]; rintro e w' ⟨rfl, n_t, rfl⟩) | (go_at_call 22; (with_reducible show Calls _ _ #[.float .f32 s] _ _); refine (l01Share_any s hs _).mono ?_; rw [h_s]; rintro e w' ⟨rfl, n_s, rfl⟩))
    go_ret3
    exact ⟨rfl, bdrew (Below.refl _ _) _⟩
  cases h_b : amtB b
  · have ev : (vMerge a b t s) = (0, 0, 2) := by unfold vMerge okMerge; rw [h_b]; simp
    rw [ev]
    clear ev
    go_enter Try.func7, Try.ntmps7
    go_wp2_with (first | (go_at_call 21; (with_reducible show Calls _ _ #[.float .f32 a] _ _); refine (l01Amount_any a ha _).mono ?_; rw [h_a]; rintro e w' ⟨rfl, n_a, rfl⟩) | (go_at_call 21; (with_reducible show Calls _ _ #[.float .f32 b] _ _); refine (l01Amount_any b hb _).mono ?_; rw [h_b]; rintro e w' ⟨rfl, n_b, rfl⟩) | (go_at_call 21; (with_reducible show Calls _ _ #[.float .f32 t] _ _); refine (l01Amount_any t ht _).mono ?_; rw [h_t]; rintro e w' ⟨rfl, n_t, rfl⟩) | (go_at_call 22; (with_reducible show Calls _ _ #[.float .f32 s] _ _); refine (l01Share_any s hs _).mono ?_; rw [h_s]; rintro e w' ⟨rfl, n_s, rfl⟩))
    go_ret3
    exact ⟨rfl, bdrew (Below.refl _ _) _⟩
  cases h_t : amtB t
  · have ev : (vMerge a b t s) = (0, 0, 2) := by unfold vMerge okMerge; rw [h_t]; simp
    rw [ev]
    clear ev
    go_enter Try.func7, Try.ntmps7
    go_wp2_with (first | (go_at_call 21; (with_reducible show Calls _ _ #[.float .f32 a] _ _); refine (l01Amount_any a ha _).mono ?_; rw [h_a]; rintro e w' ⟨rfl, n_a, rfl⟩) | (go_at_call 21; (with_reducible show Calls _ _ #[.float .f32 b] _ _); refine (l01Amount_any b hb _).mono ?_; rw [h_b]; rintro e w' ⟨rfl, n_b, rfl⟩) | (go_at_call 21; (with_reducible show Calls _ _ #[.float .f32 t] _ _); refine (l01Amount_any t ht _).mono ?_; rw [h_t]; rintro e w' ⟨rfl, n_t, rfl⟩) | (go_at_call 22; (with_reducible show Calls _ _ #[.float .f32 s] _ _); refine (l01Share_any s hs _).mono ?_; rw [h_s]; rintro e w' ⟨rfl, n_s, rfl⟩))
    go_ret3
    exact ⟨rfl, bdrew (Below.refl _ _) _⟩
  cases h_s : shrB s
  · have ev : (vMerge a b t s) = (0, 0, 2) := by unfold vMerge okMerge; rw [h_s]; simp
    rw [ev]
    clear ev
    go_enter Try.func7, Try.ntmps7
    go_wp2_with (first | (go_at_call 21; (with_reducible show Calls _ _ #[.float .f32 a] _ _); refine (l01Amount_any a ha _).mono ?_; rw [h_a]; rintro e w' ⟨rfl, n_a, rfl⟩) | (go_at_call 21; (with_reducible show Calls _ _ #[.float .f32 b] _ _); refine (l01Amount_any b hb _).mono ?_; rw [h_b]; rintro e w' ⟨rfl, n_b, rfl⟩) | (go_at_call 21; (with_reducible show Calls _ _ #[.float .f32 t] _ _); refine (l01Amount_any t ht _).mono ?_; rw [h_t]; rintro e w' ⟨rfl, n_t, rfl⟩) | (go_at_call 22; (with_reducible show Calls _ _ #[.float .f32 s] _ _); refine (l01Share_any s hs _).mono ?_; rw [h_s]; rintro e w' ⟨rfl, n_s, rfl⟩))
    go_ret3
    exact ⟨rfl, bdrew (Below.refl _ _) _⟩
  have hok : okMerge a b t s = true := by unfold okMerge; rw [h_a, h_b, h_t, h_s]; rfl
  obtain ⟨qa, qb, qt, qs⟩ := okMerge_amt hok
  have M := mid_facts qa qb qt qs
  have fad := add_any (Nat.le_of_lt qa) (Nat.le_of_lt qb)
  have fsum : ∀ T W, (binOp .add T (.float .f32 a) (.float .f32 b)).run Try.prog W = .ok (.float .f32 (addB a b)) W := fun T W => run_float_arith W .add T .f32 _ _ _ fad.1
  have fle := le_amt (x := addB a b) (y := t) fad.2 (by omega)
  have fsub : ∀ T W, (binOp .sub T (.float .f32 t) (.float .f32 b)).run Try.prog W = .ok (.float .f32 (dW t b)) W := fun T W => run_float_arith W .sub T .f32 _ _ _ (sub_any qt qb)
  have fmul : ∀ T W, (binOp .mul T (.float .f32 s) (.float .f32 t)).run Try.prog W = .ok (.float .f32 (mulB s t)) W := fun T W => run_float_arith W .mul T .f32 _ _ _ (mul_eq (by omega) qt).1
  have flast : ∀ T W, (binOp .sub T (.float .f32 t) (.float .f32 (midW a (dW t b) (mulB s t)))).run Try.prog W = .ok (.float .f32 (subB t (midW a (dW t b) (mulB s t)))) W := fun T W => run_float_arith W .sub T .f32 _ _ _ (sub_eq qt M.mid).1
  clear fad
  by_cases cs : addB a b ≤ t
  · have ev : (vMerge a b t s) = (a, b, 0) := by unfold vMerge; rw [if_pos hok, if_pos cs]
    rw [ev]
    rw [decide_eq_true cs] at fle
    clear ev cs M flast fsub fmul hok
    go_enter Try.func7, Try.ntmps7
    go_wp2_with (first | (go_at_call 21; (with_reducible show Calls _ _ #[.float .f32 a] _ _); refine (l01Amount_any a ha _).mono ?_; rw [h_a]; rintro e w' ⟨rfl, n_a, rfl⟩) | (go_at_call 21; (with_reducible show Calls _ _ #[.float .f32 b] _ _); refine (l01Amount_any b hb _).mono ?_; rw [h_b]; rintro e w' ⟨rfl, n_b, rfl⟩) | (go_at_call 21; (with_reducible show Calls _ _ #[.float .f32 t] _ _); refine (l01Amount_any t ht _).mono ?_; rw [h_t]; rintro e w' ⟨rfl, n_t, rfl⟩) | (go_at_call 22; (with_reducible show Calls _ _ #[.float .f32 s] _ _); refine (l01Share_any s hs _).mono ?_; rw [h_s]; rintro e w' ⟨rfl, n_s, rfl⟩))
    go_ret3
    exact ⟨rfl, bdrew (Below.refl _ _) _⟩
  have ev : (vMerge a b t s) = (midW a (dW t b) (mulB s t), subB t (midW a (dW t b) (mulB s t)), 0) := by unfold vMerge; rw [if_pos hok, if_neg cs]
  rw [ev]
  rw [decide_eq_false cs] at fle
  clear ev cs hok
  have hfin : finB (midW a (dW t b) (mulB s t)) = true := by unfold finB; exact decide_eq_true (by have := M.mid; omega)
  have hlt : midW a (dW t b) (mulB s t) < 4294967296 := by have := M.mid; omega
  go_enter Try.func7, Try.ntmps7
  go_wp2_with (first | (go_at_call 21; (with_reducible show Calls _ _ #[.float .f32 a] _ _); refine (l01Amount_any a ha _).mono ?_; rw [h_a]; rintro e w' ⟨rfl, n_a, rfl⟩) | (go_at_call 21; (with_reducible show Calls _ _ #[.float .f32 b] _ _); refine (l01Amount_any b hb _).mono ?_; rw [h_b]; rintro e w' ⟨rfl, n_b, rfl⟩) | (go_at_call 21; (with_reducible show Calls _ _ #[.float .f32 t] _ _); refine (l01Amount_any t ht _).mono ?_; rw [h_t]; rintro e w' ⟨rfl, n_t, rfl⟩) | (go_at_call 22; (with_reducible show Calls _ _ #[.float .f32 s] _ _); refine (l01Share_any s hs _).mono ?_; rw [h_s]; rintro e w' ⟨rfl, n_s, rfl⟩))
  refine (l03Middle_any a (dW t b) (mulB s t) _).mono ?_
  rintro e w5 ⟨rfl, n5, rfl⟩
  go_wp2_with fail
  refine (l01Finite_any _ hlt _).mono ?_
  rw [hfin]
  rintro e w6 ⟨rfl, n6, rfl⟩
  go_wp2_with fail
  go_ret3
  exact ⟨rfl, bdrew (Below.refl _ _) _⟩

end Go.Proofs.Ythljppdkplkohaa
