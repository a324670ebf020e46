/-
  CONTRACTS: plans that are not valid are refused; the cycle of a plan.
-/
import Derived.Test.YtlpbehokcogcpaaVPlanI
import Derived.Test.YtlpbehokcogcpaaRefuseP
namespace Go.Proofs.Ytlpbehokcogcpaa
open Go Go.ChangeShapes Go.WideShapes Go.ChangeAt Go.RowKit
set_option maxRecDepth 100000

/-- the code of a plan -/
def okC (xs : Slots) (b o : Int) : Int := if okP xs b o then 0 else 1

theorem okC_yes {xs : Slots} {b o : Int} (h : okP xs b o = true) : okC xs b o = 0 := by unfold okC; rw [if_pos h]

theorem okC_no {xs : Slots} {b o : Int} (h : okP xs b o = false) : okC xs b o = 1 := by unfold okC; rw [h]; rfl

theorem needPlan_any (G : Nat) (xs : Slots) (b o : Int) (hW : SlW xs) (T : TypeId) (w : World) (A0 : At w G (slC xs) T) :
    Calls Try.prog 48 #[.agg (plC (.slice (some ⟨G, 0, none⟩) xs.length xs.length) b o)] w fun e w' => Chk (okC xs b o) e ∧ Below w.heap.size w w' := by
  have P0 := At.new w (plC (.slice (some ⟨G, 0, none⟩) xs.length xs.length) b o) 28
  have A1 := A0.alloc (.cells (plC (.slice (some ⟨G, 0, none⟩) xs.length xs.length) b o) 28)
  have B0 := Lib.hid (b0 w (.cells (plC (.slice (some ⟨G, 0, none⟩) xs.length xs.length) b o) 28))
  have KV := ValidPlan_any G xs b o hW T _ A1
  cases h : okP xs b o
  · rw [h] at KV
    rw [okC_no h]
    clear h A0 A1
    go_enter Try.func48, Try.ntmps48
    go_wp2_with (((with_reducible refine is_load 28 _ rfl ?_); refine wpList_load_at rfl 28 _ rfl _ rfl ((plC (.slice (some ⟨G, 0, none⟩) xs.length xs.length) b o)) _ (by with_reducible assumption) 3 (plC_size _ _ _) _ Try.underlying28 rfl (by kernel_rfl) ?_))
    refine KV.mono ?_
    rintro e w1 ⟨rfl, hb1⟩
    have P1 := P0.step hb1
    have B1 := Lib.hid (bthen B0.out hb1)
    clear P0 B0 hb1 KV
    go_wp2_with (((with_reducible refine is_load 28 _ rfl ?_); refine wpList_load_at rfl 28 _ rfl _ rfl ((plC (.slice (some ⟨G, 0, none⟩) xs.length xs.length) b o)) _ (by with_reducible assumption) 3 (plC_size _ _ _) _ Try.underlying28 rfl (by kernel_rfl) ?_))
    exact ⟨rfl, .inr ⟨by decide, _, .inr (.inr ⟨rfl, _, _, _, rfl⟩), rfl⟩, B1.out⟩
  · rw [h] at KV
    rw [okC_yes h]
    clear h A0 A1
    go_enter Try.func48, Try.ntmps48
    go_wp2_with (((with_reducible refine is_load 28 _ rfl ?_); refine wpList_load_at rfl 28 _ rfl _ rfl ((plC (.slice (some ⟨G, 0, none⟩) xs.length xs.length) b o)) _ (by with_reducible assumption) 3 (plC_size _ _ _) _ Try.underlying28 rfl (by kernel_rfl) ?_))
    refine KV.mono ?_
    rintro e w1 ⟨rfl, hb1⟩
    have B1 := Lib.hid (bthen B0.out hb1)
    clear P0 B0 hb1 KV
    go_wp2_with fail
    go_end0
    exact ⟨.inl ⟨rfl, rfl⟩, B1.out⟩

theorem callFunc_1 (g : Nat) : True := trivial

theorem refusalOfPlan1_any (g : Nat) (T' : TypeId) (G : Nat) (xs : Slots) (b o : Int) (hW : SlW xs) (T : TypeId) (w : World) (P0 : At w g (plC (.slice (some ⟨G, 0, none⟩) xs.length xs.length) b o) T') (A0 : At w G (slC xs) T) :
    Calls Try.prog 47 #[.pointer (some ⟨g, 0, none⟩)] w fun e w' => Chk (okC xs b o) e ∧ Below w.heap.size w w' := by
  have KN := needPlan_any G xs b o hW T w A0
  go_enter Try.func47, Try.ntmps47
  go_wp2_with (((with_reducible refine is_load 28 _ rfl ?_); refine wpList_load_at rfl 28 _ rfl _ rfl ((plC (.slice (some ⟨G, 0, none⟩) xs.length xs.length) b o)) _ (by with_reducible assumption) 3 (plC_size _ _ _) _ Try.underlying28 rfl (by kernel_rfl) ?_))
  refine KN.mono ?_
  rintro e w1 ⟨⟨h, rfl⟩ | ⟨h, x, hx, rfl⟩, hb1⟩
  · go_wp2_with fail
    go_end0
    exact ⟨.inl ⟨h, rfl⟩, hb1⟩
  · go_wp2_with fail
    exact ⟨rfl, .inr ⟨h, x, hx, rfl⟩, hb1⟩

theorem refusalOfPlan_any (G : Nat) (xs : Slots) (b o : Int) (hW : SlW xs) (T : TypeId) (w : World) (A0 : At w G (slC xs) T) :
    Calls Try.prog 36 #[.agg (plC (.slice (some ⟨G, 0, none⟩) xs.length xs.length) b o)] w fun e w' => e = .returned (.int .i64 (okC xs b o)) ∧ Below w.heap.size w w' := by
  have hmf : ∀ (fn : Fn) (first cap : Array Value) (w : World), (Instr.makeFunc fn first cap).run Try.prog w = .ok (.func fn first cap) w := fun _ _ _ _ => rfl
  have P0 := At.new w (plC (.slice (some ⟨G, 0, none⟩) xs.length xs.length) b o) 28
  have A1 := A0.alloc (.cells (plC (.slice (some ⟨G, 0, none⟩) xs.length xs.length) b o) 28)
  have KR := refusalOf_any 47 #[.pointer (some ⟨w.heap.size, 0, none⟩)] (okC xs b o) (w.alloc (.cells (plC (.slice (some ⟨G, 0, none⟩) xs.length xs.length) b o) 28)) (fun _ => by kernel_rfl) (fun w1 hb => refusalOfPlan1_any w.heap.size 28 G xs b o hW T w1 (P0.step hb) (A1.step hb))
  clear P0 A0 A1
  go_enter Try.func36, Try.ntmps36
  go_wp2_with fail
  refine KR.mono ?_
  rintro e w1 ⟨rfl, hb1⟩
  go_wp2_with fail
  go_ret
  exact ⟨rfl, bthen (b0 _ _) hb1⟩

def vCycleOf (xs : Slots) (b o : Int) : Int × Int := if okP xs b o then (cyc xs b, 0) else (0, 1)

theorem vCycleOf_yes {xs : Slots} {b o : Int} (h : okP xs b o = true) : vCycleOf xs b o = (cyc xs b, 0) := by unfold vCycleOf; rw [if_pos h]

theorem vCycleOf_no {xs : Slots} {b o : Int} (h : okP xs b o = false) : vCycleOf xs b o = (0, 1) := by unfold vCycleOf; rw [h]; rfl

theorem CycleOf_any (G : Nat) (xs : Slots) (b o : Int) (hW : SlW xs) (T : TypeId) (w : World) (A0 : At w G (slC xs) T) :
    Calls Try.prog 18 #[.agg (plC (.slice (some ⟨G, 0, none⟩) xs.length xs.length) b o)] w fun e w' => e = .returned (.tuple #[.int .i64 (vCycleOf xs b o).1, .int .i64 (vCycleOf xs b o).2]) ∧ Below w.heap.size w w' := by
  have P0 := At.new w (plC (.slice (some ⟨G, 0, none⟩) xs.length xs.length) b o) 28
  have A1 := A0.alloc (.cells (plC (.slice (some ⟨G, 0, none⟩) xs.length xs.length) b o) 28)
  have B0 := Lib.hid (b0 w (.cells (plC (.slice (some ⟨G, 0, none⟩) xs.length xs.length) b o) 28))
  have KR := refusalOfPlan_any G xs b o hW T _ A1
  cases h : okP xs b o
  · rw [okC_no h] at KR
    go_enter Try.func18, Try.ntmps18
    go_wp2_with (((with_reducible refine is_load 28 _ rfl ?_); refine wpList_load_at rfl 28 _ rfl _ rfl ((plC (.slice (some ⟨G, 0, none⟩) xs.length xs.length) b o)) _ (by with_reducible assumption) 3 (plC_size _ _ _) _ Try.underlying28 rfl (by kernel_rfl) ?_))
    refine KR.mono ?_
    rintro e w1 ⟨rfl, hb1⟩
    go_wp2_with fail
    go_ret2
    exact ⟨by rw [vCycleOf_no h]; rfl, bthen B0.out hb1⟩
  · rw [okC_yes h] at KR
    obtain ⟨hl, hb, ht, -, -⟩ := okP_parts h
    go_enter Try.func18, Try.ntmps18
    go_wp2_with (((with_reducible refine is_load 28 _ rfl ?_); refine wpList_load_at rfl 28 _ rfl _ rfl ((plC (.slice (some ⟨G, 0, none⟩) xs.length xs.length) b o)) _ (by with_reducible assumption) 3 (plC_size _ _ _) _ Try.underlying28 rfl (by kernel_rfl) ?_))
    refine KR.mono ?_
    rintro e w1 ⟨rfl, hb1⟩
    have P1 := P0.step hb1
    have KC := cycleOf_any G xs b o hW T hl.2 hb ht w1 (A1.step hb1)
    have B1 := Lib.hid (bthen B0.out hb1)
    clear P0 A0 A1 B0 hb1 KR hl hb ht
    go_wp2_with (((with_reducible refine is_load 28 _ rfl ?_); refine wpList_load_at rfl 28 _ rfl _ rfl ((plC (.slice (some ⟨G, 0, none⟩) xs.length xs.length) b o)) _ (by with_reducible assumption) 3 (plC_size _ _ _) _ Try.underlying28 rfl (by kernel_rfl) ?_))
    refine KC.mono ?_
    rintro e w2 ⟨rfl, hb2⟩
    go_wp2_with fail
    go_ret2
    exact ⟨by rw [vCycleOf_yes h]; rfl, bthen B1.out hb2⟩

theorem cOk_of {xs : Slots} {b o : Int} (h : okP xs b o = true) : cOk xs b = true := by
  obtain ⟨hl, hb, ht, hc, -⟩ := okP_parts h
  unfold cOk btw
  rw [ht, decide_eq_true hb, decide_eq_true hc]; rfl

end Go.Proofs.Ytlpbehokcogcpaa
