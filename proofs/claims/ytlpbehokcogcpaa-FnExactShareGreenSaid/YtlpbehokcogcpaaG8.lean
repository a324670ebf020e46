/-
  SEVERAL TEXTS IN ONE.
-/
import Derived.Test.YtlpbehokcogcpaaHeldSl
import Derived.Test.YtlpbehokcogcpaaToPlan
import Derived.Deep.Slices
import Derived.Deep.Strs
import Derived.ChangeSame

/-
  CONTRACTS: plans, marked and held.
-/
namespace Go.Proofs.Ytlpbehokcogcpaa
open Go Go.ChangeShapes Go.WideShapes Go.ChangeAt Go.RowKit
set_option maxRecDepth 100000

theorem markPlan_of (a : Option Addr) (n c : Nat) (b o M : Int) (R : World → Prop) (w : World)
    (H : Calls Try.prog 31 #[.slice a n c, .int .i64 1] (w.alloc (.cells (plC (.slice a n c) b o) 28)) fun e w' => e = .returned (.int .i64 M) ∧ R w') :
    Calls Try.prog 13 #[.agg (plC (.slice a n c) b o), .int .i64 1] w fun e w' => e = .returned (.int .i64 M) ∧ R w' := by
  have A0 := At.new w (plC (.slice a n c) b o) 28
  go_enter Try.func13, Try.ntmps13
  go_wp2_with (((with_reducible refine is_load 26 _ rfl ?_); refine wpList_load_cell rfl 26 _ rfl _ 0 rfl (plC (.slice a n c) b o) _ (by with_reducible assumption) _ Try.underlying26 rfl (.slice a n c) (plC_0 _ _ _) ?_))
  refine H.mono ?_
  rintro e w1 ⟨rfl, h⟩
  go_wp2_with fail
  go_ret
  exact ⟨rfl, h⟩
theorem heldPlan_of (a : Option Addr) (n c : Nat) (b o M : Int) (hM : 0 ≤ M) (R : World → Prop) (w : World)
    (H : Calls Try.prog 32 #[.slice a n c, .int .i64 1] (w.alloc (.cells (plC (.slice a n c) b o) 28)) fun e w' => e = .returned (.int .i64 M) ∧ R w') :
    Calls Try.prog 14 #[.agg (plC (.slice a n c) b o), .int .i64 1] w fun e w' => e = .returned (.int .i64 M) ∧ R w' := by
  have A0 := At.new w (plC (.slice a n c) b o) 28
  have hM' : ¬ M < 0 := by omega
  go_enter Try.func14, Try.ntmps14
  go_wp2_with (((with_reducible refine is_load 26 _ rfl ?_); refine wpList_load_cell rfl 26 _ rfl _ 0 rfl (plC (.slice a n c) b o) _ (by with_reducible assumption) _ Try.underlying26 rfl (.slice a n c) (plC_0 _ _ _) ?_))
  refine H.mono ?_
  rintro e w1 ⟨rfl, h⟩
  go_wp2_with fail
  go_ret
  exact ⟨rfl, h⟩

end Go.Proofs.Ytlpbehokcogcpaa

/-
  CONTRACTS: the shape of a plan that came in.
-/
namespace Go.Proofs.Ytlpbehokcogcpaa
open Go Go.ChangeShapes Go.WideShapes Go.ChangeAt Go.RowKit
set_option maxRecDepth 100000

theorem trod_bool1 {H : Type} {enc : TypeId × Value → H} {P : Program} {w : World} {base : Nat} {sp : Nat → Bool} {hd : Bool} {t : TypeId} {n : Nat} {v : Value} {x : DataW H × List MemPlace} (ht : P.underlying t = some .bool) (h : DataW.trod enc P w base sp hd n t [v] = some x) : ∃ b, v = .bool b := by
  cases n with
  | zero => simp [DataW.trod] at h
  | succ n =>
    unfold DataW.trod at h
    rw [ht] at h
    split at h <;> simp_all

theorem trod_int1 {H : Type} {enc : TypeId × Value → H} {P : Program} {w : World} {base : Nat} {sp : Nat → Bool} {hd : Bool} {t : TypeId} {n : Nat} {v : Value} {x : DataW H × List MemPlace} (ht : P.underlying t = some (.int .i64)) (h : DataW.trod enc P w base sp hd n t [v] = some x) : ∃ b, v = .int .i64 b ∧ I64 b := by
  cases n with
  | zero => simp [DataW.trod] at h
  | succ n =>
    unfold DataW.trod at h
    rw [ht] at h
    split at h <;> simp_all
    rename_i k1 k2 b1 hk
    obtain ⟨⟨-, h1⟩, -⟩ := h
    subst hk
    simp [Lit.wf, IntKind.min, IntKind.max, IntKind.bits, IntKind.signed] at h1
    unfold I64; omega

theorem trod_arr {H : Type} {enc : TypeId × Value → H} {P : Program} {w : World} {base : Nat} {sp : Nat → Bool} {hd : Bool} {t e : TypeId} {k n : Nat} {cs : List Value} {x : DataW H × List MemPlace} (ht : P.underlying t = some (.array k e)) (h : DataW.trod enc P w base sp hd n t cs = some x) :
    ∃ m, cs.length = P.cellsOf t ∧ ∀ i, i < k → ∃ y, DataW.trod enc P w base sp hd m e ((cs.drop (i * P.cellsOf e)).take (P.cellsOf e)) = some y := by
  cases n with
  | zero => simp [DataW.trod] at h
  | succ n =>
    unfold DataW.trod at h
    rw [ht] at h
    split at h <;> simp_all
    obtain ⟨hl, xs, hp, -⟩ := h
    refine ⟨n, fun i hi => ?_⟩
    have := mapM_some_get hp i i (by simp [hi])
    have hlen := mapM_some_length hp
    rw [List.getElem?_eq_getElem (by rw [hlen]; simpa using hi)] at this
    have hxi : i < xs.length := by rw [hlen]; simpa using hi
    rw [show some xs[i] = some (xs[i].1, xs[i].2) from rfl] at this
    exact ⟨_, _, this⟩

end Go.Proofs.Ytlpbehokcogcpaa
