/-
  SEVERAL TEXTS IN ONE.
-/
import Derived.Test.YtkaghfoaicbngabVPlanI
import Derived.Test.YtkaghfoaicbngabRefuseP

/-
  CONTRACTS: plans that are not valid are refused; the cycle of a plan.
-/
namespace Go.Proofs.Ytkaghfoaicbngab
open Go Go.ChangeShapes Go.WideShapes Go.ChangeAt Go.RowKit
set_option maxRecDepth 100000

/-- the code of a plan -/
def okC (xs : Slots) (b o : Int) : Int := if okP xs b o then 0 else 1

theorem okC_yes {xs : Slots} {b o : Int} (h : okP xs b o = true) : okC xs b o = 0 := by unfold okC; rw [if_pos h]

theorem okC_no {xs : Slots} {b o : Int} (h : okP xs b o = false) : okC xs b o = 1 := by unfold okC; rw [h]; rfl

theorem needPlan_any (G : Nat) (xs : Slots) (b o : Int) (hW : SlW xs) (T : TypeId) (w : World) (A0 : At w G (slC xs) T) :
    Calls Try.prog 63 #[.agg (plC (.slice (some ⟨G, 0, none⟩) xs.length xs.length) b o)] w fun e w' => Chk (okC xs b o) e ∧ Below w.heap.size w w' := by
  have P0 := At.new w (plC (.slice (some ⟨G, 0, none⟩) xs.length xs.length) b o) 49
  have A1 := A0.alloc (.cells (plC (.slice (some ⟨G, 0, none⟩) xs.length xs.length) b o) 49)
  have B0 := Lib.hid (b0 w (.cells (plC (.slice (some ⟨G, 0, none⟩) xs.length xs.length) b o) 49))
  have KV := ValidPlan_any G xs b o hW T _ A1
  cases h : okP xs b o
  · rw [h] at KV
    rw [okC_no h]
    clear h A0 A1
    go_enter Try.func63, Try.ntmps63
    go_wp2_with (((with_reducible refine is_load 49 _ rfl ?_); refine wpList_load_at rfl 49 _ rfl _ rfl ((plC (.slice (some ⟨G, 0, none⟩) xs.length xs.length) b o)) _ (by with_reducible assumption) 3 (plC_size _ _ _) _ Try.underlying49 rfl (by kernel_rfl) ?_))
    refine KV.mono ?_
    rintro e w1 ⟨rfl, hb1⟩
    have P1 := P0.step hb1
    have B1 := Lib.hid (bthen B0.out hb1)
    clear P0 B0 hb1 KV
    go_wp2_with (((with_reducible refine is_load 49 _ rfl ?_); refine wpList_load_at rfl 49 _ rfl _ rfl ((plC (.slice (some ⟨G, 0, none⟩) xs.length xs.length) b o)) _ (by with_reducible assumption) 3 (plC_size _ _ _) _ Try.underlying49 rfl (by kernel_rfl) ?_))
    exact ⟨rfl, .inr ⟨by decide, _, .inr (.inr ⟨rfl, _, _, _, rfl⟩), rfl⟩, B1.out⟩
  · rw [h] at KV
    rw [okC_yes h]
    clear h A0 A1
    go_enter Try.func63, Try.ntmps63
    go_wp2_with (((with_reducible refine is_load 49 _ rfl ?_); refine wpList_load_at rfl 49 _ rfl _ rfl ((plC (.slice (some ⟨G, 0, none⟩) xs.length xs.length) b o)) _ (by with_reducible assumption) 3 (plC_size _ _ _) _ Try.underlying49 rfl (by kernel_rfl) ?_))
    refine KV.mono ?_
    rintro e w1 ⟨rfl, hb1⟩
    have B1 := Lib.hid (bthen B0.out hb1)
    clear P0 B0 hb1 KV
    go_wp2_with fail
    go_end0
    exact ⟨.inl ⟨rfl, rfl⟩, B1.out⟩

theorem callFunc_1 (g : Nat) : True := trivial

def vCycleOf (xs : Slots) (b o : Int) : Int × Int := if okP xs b o then (cyc xs b, 0) else (0, 1)

theorem vCycleOf_yes {xs : Slots} {b o : Int} (h : okP xs b o = true) : vCycleOf xs b o = (cyc xs b, 0) := by unfold vCycleOf; rw [if_pos h]

theorem vCycleOf_no {xs : Slots} {b o : Int} (h : okP xs b o = false) : vCycleOf xs b o = (0, 1) := by unfold vCycleOf; rw [h]; rfl

theorem cOk_of {xs : Slots} {b o : Int} (h : okP xs b o = true) : cOk xs b = true := by
  obtain ⟨hl, hb, ht, hc, -⟩ := okP_parts h
  unfold cOk btw
  rw [ht, decide_eq_true hb, decide_eq_true hc]; rfl

end Go.Proofs.Ytkaghfoaicbngab

/-
  CONTRACTS: ticks, and places of the cycle.
-/
namespace Go.Proofs.Ytkaghfoaicbngab
open Go Go.ChangeShapes Go.WideShapes Go.ChangeAt Go.RowKit
set_option maxRecDepth 100000

theorem rem_a {n : Int} (hn : 0 < n) (a : Int) : (a.tmod n + n).tmod n = a % n := by
  have h1 : -n < a.tmod n := by
    have := Int.lt_tmod_of_pos a hn
    exact this
  rw [Int.tmod_eq_emod_of_nonneg (by omega), Int.add_emod_right, Int.tmod_def, Int.sub_mul_emod_self_left]
theorem rem_b {n o t : Int} (hn : 0 < n) (ht : 0 ≤ t) (ho : 0 ≤ o ∧ o < n) : (t.tmod n - o + n).tmod n = (t - o) % n := by
  rw [Int.tmod_eq_emod_of_nonneg ht]
  have h1 := Int.emod_nonneg t (show n ≠ 0 by omega)
  rw [Int.tmod_eq_emod_of_nonneg (by omega), Int.add_emod_right, Int.emod_sub_emod]

theorem isMovement_b (k : Int) (w : World) : Calls Try.prog 81 #[.int .i64 k] w (Rd (.bool (inB 0 7 k)) w) := by
  by_cases h : 0 ≤ k
  · by_cases h2 : k ≤ 7
    · rw [show inB 0 7 k = true from decide_eq_true ⟨h, h2⟩]
      have h3 : k < 8 := by omega
      go_enter Try.func81, Try.ntmps81
      go_wp2
      go_ret
      exact Rd.mk0
    · rw [show inB 0 7 k = false from decide_eq_false (by omega)]
      have h3 : ¬ k < 8 := by omega
      go_enter Try.func81, Try.ntmps81
      go_wp2
      go_ret
      exact Rd.mk0
  · rw [show inB 0 7 k = false from decide_eq_false (by omega)]
    go_enter Try.func81, Try.ntmps81
    go_wp2
    go_ret
    exact Rd.mk0

theorem l04Movement_b (k : Int) (w : World) : Calls Try.prog 78 #[.int .i64 k] w (Rd (.bool (inB 0 7 k)) w) := by
  go_enter Try.func78, Try.ntmps78
  go_wp2_with fail
  refine (l00In_b k 0 7 _).mono ?_
  rintro e w1 ⟨rfl, n1, rfl⟩
  go_wp2_with fail
  go_ret
  exact Rd.mkN

theorem modulo_b (a n : Int) (hn : 0 < n ∧ n ≤ 240) (ha : -4000000000 ≤ a ∧ a ≤ 4000000000) (w : World) : Calls Try.prog 84 #[.int .i64 a, .int .i64 n] w (Rd (.int .i64 (a % n)) w) := by
  have e := rem_a hn.1 a
  have h1 : -n < a.tmod n := Int.lt_tmod_of_pos a hn.1
  have h2 : a.tmod n < n := Int.tmod_lt_of_pos a hn.1
  have h0 : ¬ n = 0 := by omega
  have s0 : IntKind.i64.wrap (a.tmod n) = a.tmod n := IntWalk.i64_in _ (by omega)
  have s1 : IntKind.i64.wrap (a.tmod n + n) = a.tmod n + n := IntWalk.i64_in _ (by omega)
  have h3 := Int.emod_nonneg a (show n ≠ 0 by omega)
  have h4 := Int.emod_lt_of_pos a hn.1
  have s2 : IntKind.i64.wrap ((a.tmod n + n).tmod n) = a % n := by rw [e]; exact IntWalk.i64_in _ (by omega)
  go_enter Try.func84, Try.ntmps84
  go_wp2
  go_ret
  exact Rd.mk0

end Go.Proofs.Ytkaghfoaicbngab
