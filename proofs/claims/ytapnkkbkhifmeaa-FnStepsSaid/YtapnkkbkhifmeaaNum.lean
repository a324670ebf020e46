/-
  CONTRACTS: numbers that are the same, amounts, shares.
-/
import Derived.Test.YtapnkkbkhifmeaaFltRun
import Derived.Test.YtapnkkbkhifmeaaProg
import Derived.WalkSpells
import Derived.Deep.QuietTactic
import Derived.BigQuiet
import Derived.Outline
import Derived.KernelRfl
namespace Go.Proofs.Ytapnkkbkhifmeaa
open Go Go.RowKit

/-- 'returns v; the world has at most drawn' -/
def Rd (v : Value) (w : World) (e : Ending) (w' : World) : Prop := e = .returned v ∧ ∃ n, w' = w.drewN n
theorem Rd.mk0 {v : Value} {w : World} : Rd v w (.returned v) w := ⟨rfl, 0, rfl⟩
theorem Rd.mk1 {v : Value} {w : World} : Rd v w (.returned v) w.drew := ⟨rfl, 1, rfl⟩
theorem Rd.mkN {v : Value} {w : World} {n : Nat} : Rd v w (.returned v) (w.drewN n) := ⟨rfl, n, rfl⟩
theorem Grown.drewN {W w' : World} (h : Grown W w') (n : Nat) : Grown W (w'.drewN n) := h

theorem call_f32bits (b : Nat) (w : World) : (callFunc 59 #[.float .f32 b]).run Try.prog w = .ok (.value (.int .u32 b)) w := by kernel_rfl
theorem call_f64bits (b : Nat) (w : World) : (callFunc 67 #[.float .f64 b]).run Try.prog w = .ok (.value (.int .u64 b)) w := by kernel_rfl

theorem wide_nan_at {x : Nat} (h : x < 4294967296) (hn : nanB x = true) (w : World) :
    (convert 24 90 (.float .f32 x)).run Try.prog w = .ok (.float .f64 (tapeNan (.nanConv .f64 x) w)) w.drew :=
  run_wide_nan w 24 90 x (by rw [Try.underlying24]; rfl) Try.underlying90 h hn
theorem wide_at {x : Nat} (h : x < 4294967296) (hn : nanB x = false) (w : World) :
    (convert 24 90 (.float .f32 x)).run Try.prog w = .ok (.float .f64 (wideB x)) w :=
  run_wide w 24 90 x (by rw [Try.underlying24]; rfl) Try.underlying90 h hn

/-- the same number? -/
def sameB (a b : Nat) : Bool := if nanB a || nanB b then nanB a && nanB b else (a : Int) == (b : Int)

theorem l01Same_any (a b : Nat) (ha : a < 4294967296) (hb : b < 4294967296) (w : World) :
    Calls Try.prog 50 #[.float .f32 a, .float .f32 b] w (Rd (.bool (sameB a b)) w) := by
  have oa := order_self_ne a ha
  have ob := order_self_ne b hb
  have hc := call_f32bits
  cases hna : nanB a <;> cases hnb : nanB b <;> rw [hna] at oa <;> rw [hnb] at ob
  all_goals
    go_enter Try.func50, Try.ntmps50
    go_wp2
    go_ret
    exact ⟨by simp [sameB, hna, hnb], 0, rfl⟩

/-- the bits of a number, one pattern for each NaN -/
def nbits (a : Nat) : Nat := if nanB a then 2143289344 else a

theorem sameB_nbits (a b : Nat) : ((nbits a : Int) == (nbits b : Int)) = sameB a b := by
  unfold nbits sameB nanB
  by_cases h1 : 2139095040 < a % 2147483648 <;> by_cases h2 : 2139095040 < b % 2147483648 <;> simp [h1, h2] <;> omega

theorem l01Finite_any (a : Nat) (ha : a < 4294967296) (w : World) :
    Calls Try.prog 58 #[.float .f32 a] w (Rd (.bool (finB a)) w) := by
  cases h : finB a
  · have hop : ∀ t w, (binOp .sub t (.float .f32 a) (.float .f32 a)).run Try.prog w = .ok (.float .f32 (tapeNan (.nanBits .f32 a a) w)) w.drew := fun t w => run_arith_nan w .sub (.inr (.inl rfl)) t .f32 a a (sub_self_none ha h)
    have ho : FloatKind.f32.format.order (tapeNan (.nanBits .f32 a a) w) 0 = none := order_nanL (tapeNan32 w a a).1 (tapeNan32 w a a).2
    go_enter Try.func58, Try.ntmps58
    go_wp2_with (simp only [hop])
    go_ret
    exact Rd.mk1
  · have hop : ∀ t w, (binOp .sub t (.float .f32 a) (.float .f32 a)).run Try.prog w = .ok (.float .f32 0) w := fun t w => run_float_arith w .sub t .f32 a a 0 (sub_self_fin ha h)
    have ho : FloatKind.f32.format.order 0 0 = some .eq := by decide
    go_enter Try.func58, Try.ntmps58
    go_wp2_with (simp only [hop])
    go_ret
    exact Rd.mk0

/-- is a finite word greater than 0? -/
theorem gt0_word {a : Nat} (ha : a < 4294967296) (h : finB a = true) : (FloatKind.f32.format.order a 0 == some .gt) = decide (0 < a ∧ a < 2147483648) := by
  unfold finB at h
  have h' : a % 2147483648 < 2139095040 := by simpa using h
  by_cases c : a < 2147483648
  · rw [gt_amt (x := a) (y := 0) (by omega) (by omega)]; simp [c]
  · rw [decide_eq_false (by omega)]
    obtain ⟨r, rfl⟩ : ∃ r, a = 2147483648 + r := ⟨a - 2147483648, by omega⟩
    by_cases z : r = 0
    · subst z; rw [Nat.add_zero, order_negzero (by omega)]; rfl
    · rw [order_neg (by omega) (by omega) (by omega)]; rfl

theorem l01Amount_any (a : Nat) (ha : a < 4294967296) (w : World) :
    Calls Try.prog 39 #[.float .f32 a] w (Rd (.bool (amtB a)) w) := by
  have hc := call_f32bits
  cases h : finB a
  · have hr : amtB a = false := by unfold finB at h; unfold amtB; simp at h ⊢; omega
    rw [hr]
    go_enter Try.func39, Try.ntmps39
    go_wp2_with (go_at_call 58; refine (l01Finite_any a ha _).mono ?_; rintro e w' ⟨rfl, n, rfl⟩)
    go_ret
    exact Rd.mkN
  · have hg := gt0_word ha h
    by_cases c : 0 < a ∧ a < 2147483648
    · have hr : amtB a = true := by unfold finB at h; unfold amtB; simp at h ⊢; omega
      rw [hr]
      rw [decide_eq_true c] at hg
      clear c hr
      go_enter Try.func39, Try.ntmps39
      go_wp2_with (go_at_call 58; refine (l01Finite_any a ha _).mono ?_; rintro e w' ⟨rfl, n, rfl⟩)
      go_ret
      exact Rd.mkN
    · rw [decide_eq_false c] at hg
      by_cases z : a = 0
      · subst z
        have hr : amtB 0 = true := rfl
        rw [hr]
        go_enter Try.func39, Try.ntmps39
        go_wp2_with (go_at_call 58; refine (l01Finite_any _ ha _).mono ?_; rintro e w' ⟨rfl, n, rfl⟩)
        go_ret
        exact Rd.mkN
      · have hr : amtB a = false := by unfold finB at h; unfold amtB; simp at h ⊢; omega
        rw [hr]
        have hz : ((a : Int) == 0) = false := by simp [z]
        clear c z hr
        go_enter Try.func39, Try.ntmps39
        go_wp2_with (go_at_call 58; refine (l01Finite_any a ha _).mono ?_; rintro e w' ⟨rfl, n, rfl⟩)
        go_ret
        exact Rd.mkN

/-- 'at least 0' and 'at most the greatest', of any word -/
theorem ge0_word {a : Nat} (ha : a < 4294967296) : (FloatKind.f32.format.order a 0 == some .gt || FloatKind.f32.format.order a 0 == some .eq) = decide (a ≤ 2139095040 ∨ a = 2147483648) := by
  by_cases n : nanB a = true
  · rw [order_nanL ha n, decide_eq_false (by unfold nanB at n; simp at n; omega)]; rfl
  · have n' : a % 2147483648 ≤ 2139095040 := by unfold nanB at n; simp at n; omega
    by_cases c : a < 2147483648
    · rw [ge_amt (x := a) (y := 0) (by omega) (by omega), decide_eq_true (by omega), decide_eq_true (by omega)]
    · obtain ⟨r, rfl⟩ : ∃ r, a = 2147483648 + r := ⟨a - 2147483648, by omega⟩
      by_cases z : r = 0
      · subst z; rw [Nat.add_zero, order_negzero (by omega)]; rfl
      · rw [order_neg (by omega) (by omega) (by omega), decide_eq_false (by omega)]; rfl

theorem Signbit_any (a : Nat) (ha : a < 4294967296) (hn : nanB a = false) (w : World) :
    Calls Try.prog 61 #[.float .f64 (wideB a)] w fun e w' => e = .returned (.bool (decide (2147483648 ≤ a))) ∧ w = w' := by
  have hc := call_f64bits
  obtain ⟨h1, h2⟩ := wide_sign ha hn
  generalize wideB a = x at *
  by_cases c : 2147483648 ≤ a
  · rw [decide_eq_true c]
    have h3 : decide (wrap64 (x : Int) < 0) = true := decide_eq_true (by unfold wrap64; omega)
    clear h1 h2 c
    go_enter Try.func61, Try.ntmps61
    go_wp2
    go_ret
    exact ⟨rfl, rfl⟩
  · rw [decide_eq_false c]
    have h3 : decide (wrap64 (x : Int) < 0) = false := decide_eq_false (by unfold wrap64; omega)
    clear h1 h2 c
    go_enter Try.func61, Try.ntmps61
    go_wp2
    go_ret
    exact ⟨rfl, rfl⟩

theorem IsAmount_any (a : Nat) (ha : a < 4294967296) (w : World) :
    Calls Try.prog 46 #[.float .f32 a] w (Rd (.bool (amtB a)) w) := by
  have hg := ge0_word ha
  by_cases c : a ≤ 2139095040 ∨ a = 2147483648
  · rw [decide_eq_true c] at hg
    have hn : nanB a = false := by unfold nanB; simp; omega
    by_cases z : a = 2147483648
    · subst z
      have hm : (FloatKind.f32.format.order 2147483648 2139095039 == some .lt || FloatKind.f32.format.order 2147483648 2139095039 == some .eq) = true := by decide
      have hw := wide_at ha hn
      have hr : amtB 2147483648 = false := rfl
      rw [hr]
      clear c hr
      go_enter Try.func46, Try.ntmps46
      go_wp2_with (go_at_call 61; refine (Signbit_any _ ha hn _).mono ?_; rintro e w' ⟨rfl, rfl⟩)
      go_ret
      exact Rd.mk0
    · have hx : a ≤ 2139095040 := by omega
      have hm := le_amt (x := a) (y := 2139095039) hx (by omega)
      by_cases y : a < 2139095040
      · rw [decide_eq_true (by omega)] at hm
        have hw := wide_at ha hn
        have hr : amtB a = true := by unfold amtB; simpa using y
        rw [hr]
        have hs : decide (2147483648 ≤ a) = false := decide_eq_false (by omega)
        clear c z hx y hr
        go_enter Try.func46, Try.ntmps46
        go_wp2_with (go_at_call 61; refine (Signbit_any _ ha hn _).mono ?_; rintro e w' ⟨rfl, rfl⟩)
        go_ret
        exact Rd.mk0
      · rw [decide_eq_false (by omega)] at hm
        have hr : amtB a = false := by unfold amtB; simpa using y
        rw [hr]
        clear c z hx y hr
        go_enter Try.func46, Try.ntmps46
        go_wp2
        go_ret
        exact Rd.mk0
  · rw [decide_eq_false c] at hg
    have hr : amtB a = false := by unfold amtB; simp; omega
    rw [hr]
    clear c hr
    go_enter Try.func46, Try.ntmps46
    go_wp2
    go_ret
    exact Rd.mk0

theorem l01Share_any (a : Nat) (ha : a < 4294967296) (w : World) :
    Calls Try.prog 57 #[.float .f32 a] w (Rd (.bool (shrB a)) w) := by
  cases h : amtB a
  · have hr : shrB a = false := by unfold amtB at h; unfold shrB; simp at h ⊢; omega
    rw [hr]; clear hr
    go_enter Try.func57, Try.ntmps57
    go_wp2_with (go_at_call 39; refine (l01Amount_any a ha _).mono ?_; rintro e w' ⟨rfl, n, rfl⟩)
    go_ret
    exact Rd.mkN
  · have hm := le_amt (x := a) (y := 1065353216) (by unfold amtB at h; simp at h; omega) (by omega)
    rw [show decide (a ≤ 1065353216) = shrB a from rfl] at hm
    go_enter Try.func57, Try.ntmps57
    go_wp2_with (go_at_call 39; refine (l01Amount_any a ha _).mono ?_; rintro e w' ⟨rfl, n, rfl⟩)
    go_ret
    exact Rd.mkN

theorem IsShare_any (a : Nat) (ha : a < 4294967296) (w : World) :
    Calls Try.prog 29 #[.float .f32 a] w (Rd (.bool (shrB a)) w) := by
  cases h : amtB a
  · have hr : shrB a = false := by unfold amtB at h; unfold shrB; simp at h ⊢; omega
    rw [hr]; clear hr
    go_enter Try.func29, Try.ntmps29
    go_wp2_with (go_at_call 46; refine (IsAmount_any a ha _).mono ?_; rintro e w' ⟨rfl, n, rfl⟩)
    go_ret
    exact Rd.mkN
  · have hm := le_amt (x := a) (y := 1065353216) (by unfold amtB at h; simp at h; omega) (by omega)
    rw [show decide (a ≤ 1065353216) = shrB a from rfl] at hm
    go_enter Try.func29, Try.ntmps29
    go_wp2_with (go_at_call 46; refine (IsAmount_any a ha _).mono ?_; rintro e w' ⟨rfl, n, rfl⟩)
    go_ret
    exact Rd.mkN

end Go.Proofs.Ytapnkkbkhifmeaa
