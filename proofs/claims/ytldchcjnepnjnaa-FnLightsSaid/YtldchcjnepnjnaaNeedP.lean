/-
  CONTRACTS: plans that are not valid are refused; the cycle of a plan.
-/
import Derived.Test.YtldchcjnepnjnaaVPlanI
import Derived.Test.YtldchcjnepnjnaaRefuseP
namespace Go.Proofs.Ytldchcjnepnjnaa
open Go Go.ChangeShapes Go.WideShapes Go.ChangeAt Go.RowKit
set_option maxRecDepth 100000

/-- the code of a plan -/
def okC (xs : Slots) (b o : Int) : Int := if okP xs b o then 0 else 1

theorem okC_yes {xs : Slots} {b o : Int} (h : okP xs b o = true) : okC xs b o = 0 := by unfold okC; rw [if_pos h]

theorem okC_no {xs : Slots} {b o : Int} (h : okP xs b o = false) : okC xs b o = 1 := by unfold okC; rw [h]; rfl

theorem needPlan_any (G : Nat) (xs : Slots) (b o : Int) (hW : SlW xs) (T : TypeId) (w : World) (A0 : At w G (slC xs) T) :
    Calls Try.prog 29 #[.agg (plC (.slice (some ⟨G, 0, none⟩) xs.length xs.length) b o)] w fun e w' => Chk (okC xs b o) e ∧ Below w.heap.size w w' := by
  have P0 := At.new w (plC (.slice (some ⟨G, 0, none⟩) xs.length xs.length) b o) 26
  have A1 := A0.alloc (.cells (plC (.slice (some ⟨G, 0, none⟩) xs.length xs.length) b o) 26)
  have B0 := Lib.hid (b0 w (.cells (plC (.slice (some ⟨G, 0, none⟩) xs.length xs.length) b o) 26))
  have KV := ValidPlan_any G xs b o hW T _ A1
  cases h : okP xs b o
  · rw [h] at KV
    rw [okC_no h]
    clear h A0 A1
    go_enter Try.func29, Try.ntmps29
    go_wp2_with (((with_reducible refine is_load 26 _ rfl ?_); refine wpList_load_at rfl 26 _ rfl _ rfl ((plC (.slice (some ⟨G, 0, none⟩) xs.length xs.length) b o)) _ (by with_reducible assumption) 3 (plC_size _ _ _) _ Try.underlying26 rfl (by kernel_rfl) ?_))
    refine KV.mono ?_
    rintro e w1 ⟨rfl, hb1⟩
    have P1 := P0.step hb1
    have B1 := Lib.hid (bthen B0.out hb1)
    clear P0 B0 hb1 KV
    go_wp2_with (((with_reducible refine is_load 26 _ rfl ?_); refine wpList_load_at rfl 26 _ rfl _ rfl ((plC (.slice (some ⟨G, 0, none⟩) xs.length xs.length) b o)) _ (by with_reducible assumption) 3 (plC_size _ _ _) _ Try.underlying26 rfl (by kernel_rfl) ?_))
    exact ⟨rfl, .inr ⟨by decide, _, .inr (.inr ⟨rfl, _, _, _, rfl⟩), rfl⟩, B1.out⟩
  · rw [h] at KV
    rw [okC_yes h]
    clear h A0 A1
    go_enter Try.func29, Try.ntmps29
    go_wp2_with (((with_reducible refine is_load 26 _ rfl ?_); refine wpList_load_at rfl 26 _ rfl _ rfl ((plC (.slice (some ⟨G, 0, none⟩) xs.length xs.length) b o)) _ (by with_reducible assumption) 3 (plC_size _ _ _) _ Try.underlying26 rfl (by kernel_rfl) ?_))
    refine KV.mono ?_
    rintro e w1 ⟨rfl, hb1⟩
    have B1 := Lib.hid (bthen B0.out hb1)
    clear P0 B0 hb1 KV
    go_wp2_with fail
    go_end0
    exact ⟨.inl ⟨rfl, rfl⟩, B1.out⟩

theorem callFunc_1 (g : Nat) : True := trivial

def vCycleOf (xs : Slots) (b o : Int) : Int × Int := if okP xs b o then (cyc xs b, 0) else (0, 1)

theorem vCycleOf_yes {xs : Slots} {b o : Int} (h : okP xs b o = true) : vCycleOf xs b o = (cyc xs b, 0) := by unfold vCycleOf; rw [if_pos h]

theorem vCycleOf_no {xs : Slots} {b o : Int} (h : okP xs b o = false) : vCycleOf xs b o = (0, 1) := by unfold vCycleOf; rw [h]; rfl

theorem cOk_of {xs : Slots} {b o : Int} (h : okP xs b o = true) : cOk xs b = true := by
  obtain ⟨hl, hb, ht, hc, -⟩ := okP_parts h
  unfold cOk btw
  rw [ht, decide_eq_true hb, decide_eq_true hc]; rfl

end Go.Proofs.Ytldchcjnepnjnaa
