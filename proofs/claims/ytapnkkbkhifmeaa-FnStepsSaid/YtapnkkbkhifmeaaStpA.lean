/-
  CONTRACTS: rows of flows held against each other; numbers nearly the same, both ways.
-/
import Derived.Test.YtapnkkbkhifmeaaStpM
import Derived.Test.YtapnkkbkhifmeaaG7
import Derived.Test.YtapnkkbkhifmeaaG11
import Derived.WalkKit
namespace Go.Proofs.Ytapnkkbkhifmeaa
open Go Go.RowKit
set_option maxRecDepth 100000

theorem eqF_self {x : Nat} (h : x < 2139095040) : FloatKind.f32.format.order x x = some .eq := by
  have := order_amt (x := x) (y := x) (by omega) (by omega)
  rw [Nat.compare_eq_eq.2 rfl] at this
  exact this

theorem run_part_f32 {P : Program} (w : World) (e : TypeId) (xs : List Nat) (k : Nat) (hue : P.underlying e = some (.float .f32)) (hk : k < xs.length) : (part e (fl xs) k).run P w = .ok (.float .f32 (nth xs k)) w := by
  have hagg : (isAgg e).run P w = .ok false w := by
    unfold isAgg
    rw [Sem.run_bind, run_underlying hue w]
    rfl
  simp [part, Sem.run_bind, hagg, fl_get hk]

theorem run_equalIn_flt {P : Program} (w : World) (d : Nat) (t : TypeId) (x : Nat) (hx : x < 2139095040) (h : P.underlying t = some (.float .f32)) : (Op.equalIn (d + 1) t (.float .f32 x) (.float .f32 x)).run P w = .ok true w := by
  have e : Op.floatEq .f32 x x = true := by unfold Op.floatEq; rw [eqF_self hx]; rfl
  simp [Op.equalIn, run_underlying h, e]

theorem run_eq_f32s {P : Program} (w : World) (d : Nat) (t e : TypeId) (n : Nat) (xs : List Nat) (hu : P.underlying t = some (.array n e)) (hue : P.underlying e = some (.float .f32)) (he : (P.info? e).map (·.size) = some 1) (hx : xs.length = n) (hc : ∀ k, nth xs k < 2139095040) :
    (Op.equalIn (d + 2) t (.agg (fl xs)) (.agg (fl xs))).run P w = .ok true w := by
  cases hq : P.info? e with
  | none => simp [hq] at he
  | some i =>
    have hs : i.size = 1 := by simpa [hq] using he
    unfold Op.equalIn
    simp only [Sem.run_bind, run_underlying hu w, Result.andThen_ok, sizeOf, typeInfo]
    simp [hq, hs]
    rw [forIn_run w _ (fun i => true) _ ?_]
    · simp
    · intro k hk s
      have hk' : k < n := by simpa [List.mem_range'_1] using hk
      rw [Sem.run_bind, run_part_f32 w e xs k hue (by omega)]
      simp only [Result.andThen_ok]
      rw [Sem.run_bind, run_part_f32 w e xs k hue (by omega)]
      simp only [Result.andThen_ok]
      rw [Sem.run_bind, run_equalIn_flt w d e _ (hc k) hue]
      simp

theorem run_neq_F17 (w : World) (xs : List Nat) (hl : xs.length = 17) (hc : ∀ k, nth xs k < 2139095040) : (binOp .neq 33 (.agg (fl xs)) (.agg (fl xs))).run Try.prog w = .ok (.bool false) w := by
  have h := run_eq_f32s (P := Try.prog) w 9998 33 24 17 xs Try.underlying33 Try.underlying24 (by kernel_rfl) hl hc
  have e : (binOp .neq 33 (.agg (fl xs)) (.agg (fl xs))).run Try.prog w = ((Op.equalIn 10000 33 (.agg (fl xs)) (.agg (fl xs))).run Try.prog w).andThen fun b w' => .ok (.bool (!b)) w' := by rw [run_neq_struct]
  rw [e, show (10000 : Nat) = 9998 + 2 from rfl, h]; rfl

theorem a2Near_to (t u : Nat) (h : t ≤ u) (hu : u < 2139095040) (hs : subB u t ≤ 953267991) (w : World) : Calls Try.prog 13 #[.float .f32 t, .float .f32 u, .float .f32 953267991] w fun e w' => e = .returned (.bool true) ∧ w' = w := by
  have h1 := fun ty w => run_float_arith (P := Try.prog) w .sub ty .f32 _ _ _ (dif_eq (x := t) (y := u) (by omega) hu)
  have h2 := fun ty w => run_float_arith (P := Try.prog) w .sub ty .f32 _ _ _ (dif_eq (x := u) (y := t) hu (by omega))
  unfold difB at h1 h2
  simp only [if_pos h] at h2
  have g2 : (FloatKind.f32.format.order (subB u t) 953267991 == some .lt || FloatKind.f32.format.order (subB u t) 953267991 == some .eq) = true := by
    rw [le_amt (by omega) (by omega)]; exact decide_eq_true hs
  by_cases c : u ≤ t
  · obtain rfl : t = u := by omega
    simp only [if_pos h] at h1
    clear c h hs hu
    go_enter Try.func13, Try.ntmps13
    go_wp2
    go_ret
    exact ⟨rfl, rfl⟩
  · simp only [if_neg c] at h1
    obtain ⟨p0, p1⟩ := And.intro (sub_pos hu (show t < u by omega)) (sub_le hu h)
    have g1 : (FloatKind.f32.format.order (2147483648 + subB u t) 953267991 == some .lt || FloatKind.f32.format.order (2147483648 + subB u t) 953267991 == some .eq) = true := by
      rw [order_neg (by omega) p0 (by omega)]; rfl
    clear c h hs hu p0 p1
    go_enter Try.func13, Try.ntmps13
    go_wp2
    go_ret
    exact ⟨rfl, rfl⟩

theorem a2Near_back (t u : Nat) (h : u < t) (ht : t < 2139095040) (hs : subB t u ≤ 953267991) (w : World) : Calls Try.prog 13 #[.float .f32 t, .float .f32 u, .float .f32 953267991] w fun e w' => e = .returned (.bool true) ∧ w' = w := by
  have h1 := fun ty w => run_float_arith (P := Try.prog) w .sub ty .f32 _ _ _ (dif_eq (x := t) (y := u) ht (by omega))
  have h2 := fun ty w => run_float_arith (P := Try.prog) w .sub ty .f32 _ _ _ (dif_eq (x := u) (y := t) (by omega) ht)
  unfold difB at h1 h2
  simp only [if_pos (Nat.le_of_lt h)] at h1
  simp only [if_neg (show ¬ t ≤ u by omega)] at h2
  have g2 : (FloatKind.f32.format.order (subB t u) 953267991 == some .lt || FloatKind.f32.format.order (subB t u) 953267991 == some .eq) = true := by
    rw [le_amt (by omega) (by omega)]; exact decide_eq_true hs
  have p0 := sub_pos ht h
  have p1 := sub_le ht (Nat.le_of_lt h)
  have g1 : (FloatKind.f32.format.order (2147483648 + subB t u) 953267991 == some .lt || FloatKind.f32.format.order (2147483648 + subB t u) 953267991 == some .eq) = true := by
    rw [order_neg (by omega) p0 (by omega)]; rfl
  clear h hs ht p0 p1
  go_enter Try.func13, Try.ntmps13
  go_wp2
  go_ret
  exact ⟨rfl, rfl⟩

/-- two amounts within 40 gaps of 2^130: they lie near -/
theorem a2Near_gap (t u : Nat) (ht : t < 2139095040) (hu : u < 2139095040) (h1 : rv 23 t ≤ rv 23 u + 40 * 2 ^ 130) (h2 : rv 23 u ≤ rv 23 t + 40 * 2 ^ 130) (w : World) : Calls Try.prog 13 #[.float .f32 t, .float .f32 u, .float .f32 953267991] w fun e w' => e = .returned (.bool true) ∧ w' = w := by
  rcases Nat.lt_or_ge u t with c | c
  · exact a2Near_back t u c ht (near_sub ht (Nat.le_of_lt c) h1) w
  · exact a2Near_to t u c hu (near_sub hu c h2) w

end Go.Proofs.Ytapnkkbkhifmeaa
