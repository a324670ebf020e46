/-
  CONTRACTS: ways that cross; ways that conflict.
-/
import Derived.Test.YtboahhipobcababWay
import Derived.Test.YtboahhipobcababQuiet
import Derived.Test.YtboahhipobcababPiece
import Derived.Test.YtboahhipobcababOneCell
namespace Go.Proofs.Ytboahhipobcabab
open Go Go.ChangeShapes Go.WideShapes Go.ChangeAt Go.RowKit
set_option maxRecDepth 100000

section
variable {P : Program} {W : World} {o : Oper} {a : Act} {K : Act → Prop} {g : Nat} {c : Array Value} {T : TypeId}
/-- a plain cell, in whatever world of the class -/
theorem q_one (ty : TypeId) (x : Operand) (ho : o.op = .load ty x) (d : TypeDesc) (hu : P.underlying ty = some d) (hd : (match d with | .struct _ | .array _ _ => true | _ => false) = false) (k : Nat) (hx : a.eval x = .pointer (some ⟨g, k, none⟩)) (hA : At W g c T) (v : Value) (hk : c[k]? = some v) (hK : K (a.put o.dst v)) : o.quiet P a (Cb W) K :=
  q_load ty x ho _ hx v (fun w hw => run_load_one w ty d hu hd _ v (At.cell (At.step hA hw) hk)) hK
theorem q_rowC (ty : TypeId) (x : Operand) (ho : o.op = .load ty x) (hx : a.eval x = .pointer (some ⟨g, 0, none⟩)) (hA : At W g c T) (n : Nat) (hn : c.size = n) (d : TypeDesc)
    (hu : P.underlying ty = some d) (hd : (match d with | .struct _ | .array _ _ => true | _ => false) = true) (hi : (P.info? ty).map (·.size) = some n) (hK : K (a.put o.dst (.agg c))) : o.quiet P a (Cb W) K :=
  q_load ty x ho _ hx (.agg c) (fun w hw => by
    have := run_loadAt_part (P := P) w g 0 n ty c T (0, 0) d (At.step hA hw) hu hd hi (by omega)
    rw [show c.extract 0 (0 + n) = c from by rw [← hn, Nat.zero_add]; exact Array.extract_size] at this
    exact this) hK
end
theorem crosses_any (fa ta fb tb : Int) (h1 : 0 ≤ fa ∧ fa < 4) (h2 : 0 ≤ ta ∧ ta < 4) (h3 : 0 ≤ fb ∧ fb < 4) (h4 : 0 ≤ tb ∧ tb < 4) (w : World) :
    Calls Try.prog 126 #[.agg #[.int .i64 fa, .int .i64 ta], .agg #[.int .i64 fb, .int .i64 tb]] w fun e w' => e = .returned (.bool (crB (plc ta fa) (plc fb fa) (plc tb fa))) ∧ Below w.heap.size w w' := by
  have K1 := fun w => places_any fa ta ta h1 h2 w
  have K2 := fun w => places_any fa ta fb h1 h3 w
  have K3 := fun w => places_any fa ta tb h1 h4 w
  have r1 := plc_in ta fa
  have r2 := plc_in fb fa
  have r3 := plc_in tb fa
  generalize plc ta fa = e at *
  generalize plc fb fa = o at *
  generalize plc tb fa = t at *
  clear h1 h2 h3 h4
  have P0 : At ((w.alloc (.cells #[.int .i64 fa, .int .i64 ta] 138)).alloc (.cells #[.int .i64 fb, .int .i64 tb] 138)) w.heap.size #[.int .i64 fa, .int .i64 ta] 138 := (At.new w _ _).alloc _
  have L0 : At ((w.alloc (.cells #[.int .i64 fa, .int .i64 ta] 138)).alloc (.cells #[.int .i64 fb, .int .i64 tb] 138)) (w.heap.size + 1) #[.int .i64 fb, .int .i64 tb] 138 := At.last1 w _ _ _
  have B0 := Lib.hid (bnew (b0 w (.cells #[.int .i64 fa, .int .i64 ta] 138)) (.cells #[.int .i64 fb, .int .i64 tb] 138))
  have hC := Cb.const ((w.alloc (.cells #[.int .i64 fa, .int .i64 ta] 138)).alloc (.cells #[.int .i64 fb, .int .i64 tb] 138))
  go_enter Try.func126, Try.ntmps126
  go_wp2
  refine wp_region_cb (by kernel_rfl) (by kernel_rfl) ?_
  repeat (first
    | go_big_quiet_skip
    | (go_big_quiet_want; first
      | (refine q_one 2 _ rfl _ Try.underlying2 rfl 1 rfl P0 _ (rfl) ?_; go_simp; go_big_quiet_on)
      | (refine q_one 2 _ rfl _ Try.underlying2 rfl 0 rfl L0 _ (rfl) ?_; go_simp; go_big_quiet_on)
      | (refine q_one 2 _ rfl _ Try.underlying2 rfl 1 rfl L0 _ (rfl) ?_; go_simp; go_big_quiet_on)
      | (refine q_rowC 138 _ rfl rfl P0 2 rfl _ Try.underlying138 rfl (by kernel_rfl) ?_; go_simp; go_big_quiet_on)
      | (go_big_quiet_op; go_big_quiet_on)
      | (go_big_quiet_op; apply Exists.intro; refine ⟨fun w' hw' => ?_, ?_⟩; (go_at_call 149; (with_reducible show Calls _ _ #[_, .int .i64 ta] _ _); exact (K1 w').mono fun _ _ h => ⟨h.1, hw'.step h.2⟩); go_big_quiet_on)
      | (go_big_quiet_op; apply Exists.intro; refine ⟨fun w' hw' => ?_, ?_⟩; (go_at_call 149; (with_reducible show Calls _ _ #[_, .int .i64 fb] _ _); exact (K2 w').mono fun _ _ h => ⟨h.1, hw'.step h.2⟩); go_big_quiet_on)
      | (go_big_quiet_op; apply Exists.intro; refine ⟨fun w' hw' => ?_, ?_⟩; (go_at_call 149; (with_reducible show Calls _ _ #[_, .int .i64 tb] _ _); exact (K3 w').mono fun _ _ h => ⟨h.1, hw'.step h.2⟩); go_big_quiet_on)))
  refine wpQuiet_nil ?_
  intro w9 hw9
  have B9 := Lib.hid (B0.out.trans (Below.mono hw9 (by rw [World.size_alloc, World.size_alloc]; omega)))
  clear hC P0 L0 hw9 K1 K2 K3
  go_wp2 <;> (go_ret; refine ⟨congrArg (fun b => Ending.returned (Value.bool b)) ?_, B9.out⟩; rw [Bool.eq_iff_iff]; simp only [crB, Bool.and_eq_true, decide_eq_true_eq, reduceCtorEq, false_iff]; omega)
theorem conflicts_any (fa ta fb tb : Int) (h1 : 0 ≤ fa ∧ fa < 4) (h2 : 0 ≤ ta ∧ ta < 4) (h3 : 0 ≤ fb ∧ fb < 4) (h4 : 0 ≤ tb ∧ tb < 4) (w : World) :
    Calls Try.prog 89 #[.agg #[.int .i64 fa, .int .i64 ta], .agg #[.int .i64 fb, .int .i64 tb]] w fun e w' => e = .returned (.bool (cfW fa ta fb tb)) ∧ Below w.heap.size w w' := by
  have K := fun w => crosses_any fa ta fb tb h1 h2 h3 h4 w
  clear h1 h2 h3 h4
  unfold cfW
  generalize crB (plc ta fa) (plc fb fa) (plc tb fa) = r at K ⊢
  have P0 : At ((w.alloc (.cells #[.int .i64 fa, .int .i64 ta] 138)).alloc (.cells #[.int .i64 fb, .int .i64 tb] 138)) w.heap.size #[.int .i64 fa, .int .i64 ta] 138 := (At.new w _ _).alloc _
  have L0 : At ((w.alloc (.cells #[.int .i64 fa, .int .i64 ta] 138)).alloc (.cells #[.int .i64 fb, .int .i64 tb] 138)) (w.heap.size + 1) #[.int .i64 fb, .int .i64 tb] 138 := At.last1 w _ _ _
  have f0 : (((w.alloc (.cells #[.int .i64 fa, .int .i64 ta] 138)).alloc (.cells #[.int .i64 fb, .int .i64 tb] 138))).cell? ⟨w.heap.size, 0, none⟩ = some (.int .i64 fa) := P0.cell rfl
  have f1 : (((w.alloc (.cells #[.int .i64 fa, .int .i64 ta] 138)).alloc (.cells #[.int .i64 fb, .int .i64 tb] 138))).cell? ⟨w.heap.size, 1, none⟩ = some (.int .i64 ta) := P0.cell rfl
  have f2 : (((w.alloc (.cells #[.int .i64 fa, .int .i64 ta] 138)).alloc (.cells #[.int .i64 fb, .int .i64 tb] 138))).cell? ⟨w.heap.size + 1, 0, none⟩ = some (.int .i64 fb) := L0.cell rfl
  have f3 : (((w.alloc (.cells #[.int .i64 fa, .int .i64 ta] 138)).alloc (.cells #[.int .i64 fb, .int .i64 tb] 138))).cell? ⟨w.heap.size + 1, 1, none⟩ = some (.int .i64 tb) := L0.cell rfl
  clear P0 L0
  by_cases c1 : fa = fb
  · subst c1
    rw [show ((!decide (fa = fa) && decide (ta = tb)) || r) = r from by simp]
    go_enter Try.func89, Try.ntmps89
    go_wp2_with fail
    refine (K _).mono ?_
    rintro e w1 ⟨rfl, hb1⟩
    go_wp2_with fail
    go_ret
    exact ⟨rfl, bthen (bnew (b0 _ _) _) hb1⟩
  · have d1 : (fa != fb) = true := by simpa using c1
    by_cases c2 : ta = tb
    · subst c2
      rw [show ((!decide (fa = fb) && decide (ta = ta)) || r) = true from by simp [c1]]
      clear c1 K
      go_enter Try.func89, Try.ntmps89
      go_wp2
      go_ret
      exact ⟨rfl, bnew (b0 _ _) _⟩
    · have d2 : (ta == tb) = false := by simpa using c2
      rw [show ((!decide (fa = fb) && decide (ta = tb)) || r) = r from by simp [c2]]
      clear c1 c2
      go_enter Try.func89, Try.ntmps89
      go_wp2_with fail
      refine (K _).mono ?_
      rintro e w1 ⟨rfl, hb1⟩
      go_wp2_with fail
      go_ret
      exact ⟨rfl, bthen (bnew (b0 _ _) _) hb1⟩

end Go.Proofs.Ytboahhipobcabab
