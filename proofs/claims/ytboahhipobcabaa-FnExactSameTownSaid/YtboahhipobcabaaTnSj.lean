/-
  CONTRACTS: joints held against each other, as the model does it.
-/
import Derived.Test.YtboahhipobcabaaTnEq
import Derived.Test.YtboahhipobcabaaTnSa
namespace Go.Proofs.Ytboahhipobcabaa
open Go Go.ChangeShapes Go.WideShapes Go.ChangeAt Go.RowKit
set_option maxRecDepth 100000

set_option maxHeartbeats 1000000 in
theorem EqualS_any (g1 g2 : Nat) (xs ys : List Int) (hn : xs.length ≤ 1048576) (T1 T2 : TypeId) (w : World) (h1 : At w g1 (il xs) T1) (h2 : At w g2 (il ys) T2) :
    Calls Try.prog 102 #[.slice (some ⟨g1, 0, none⟩) xs.length xs.length, .slice (some ⟨g2, 0, none⟩) ys.length ys.length] w fun e w' => e = .returned (.bool (decide (xs = ys))) ∧ Below w.heap.size w w' := by
  have B0 := Lib.hid (Below.refl w.heap.size w)
  by_cases hl : xs.length = ys.length
  · obtain ⟨n, hnn⟩ : ∃ n, n = xs.length := ⟨_, rfl⟩
    have HN := Lib.hid (And.intro hnn (hnn.trans hl))
    have HX := Lib.hid (And.intro h1 h2)
    rw [← hl, ← hnn]
    rw [← hnn] at hn
    clear hnn hl h1 h2
    go_enter Try.func102, Try.ntmps102
    go_wp2
    go_loopw [5] (fun i wr => ∃ k : Nat, k ≤ n ∧ i = .int .i64 (k : Int) ∧ Hid (∀ j, j < k → ith xs j = ith ys j) ∧ Hid (Below w.heap.size w wr)) (fun i _ => n - (intOf i).toNat)
    case atStart => exact ⟨0, by omega, rfl, Lib.hid (fun j hj => by omega), B0⟩
    case round =>
      obtain ⟨k, hk, rfl, hall, B1⟩ := hrel
      by_cases hlt : k < n
      · have s2 : IntKind.i64.wrap ((k : Int) + 1) = (k : Int) + 1 := IntWalk.i64_in _ (by omega)
        have kd : (k : Int) < (n : Int) := by omega
        have A1 := HX.out.1.step B1.out
        have A2 := HX.out.2.step B1.out
        have dx := il_get (xs := xs) (k := k) (by rw [← HN.out.1]; exact hlt)
        have dy := il_get (xs := ys) (k := k) (by rw [← HN.out.2]; exact hlt)
        have hC := Cb.const wr
        by_cases he : ith xs k = ith ys k
        · have hall2 : Hid (∀ j, j < k + 1 → ith xs j = ith ys j) := Lib.hid (fun j hj => by
            by_cases c : j = k
            · subst c; exact he
            · exact hall.out j (by omega))
          have hb : (ith xs k != ith ys k) = false := by simpa using he
          have hb2 : (ith xs k == ith ys k) = true := by simpa using he
          clear he hall
          generalize ith xs k = x at *
          generalize ith ys k = y at *
          go_wp2
          refine wp_region_cb (by kernel_rfl) (by kernel_rfl) ?_
          repeat (first
            | go_big_quiet_skip
            | (go_big_quiet_want; first
              | (refine q_oneI 2 _ rfl _ Try.underlying2 rfl k rfl A1 _ dx ?_; go_simp; go_big_quiet_on)
              | (refine q_oneI 2 _ rfl _ Try.underlying2 rfl k rfl A2 _ dy ?_; go_simp; go_big_quiet_on)
              | (go_big_quiet_op; go_big_quiet_on)))
          refine wpQuiet_nil ?_
          intro w5 hw5
          have B5 := Lib.hid (bthen B1.out hw5)
          clear hC A1 A2 hw5 dx dy
          go_wp2
          exact ⟨⟨k + 1, by omega, by go_num, hall2, B5⟩, by simp [intOf]; omega⟩
        · have hno : decide (xs = ys) = false := decide_eq_false (fun e => he (by rw [e]))
          have HNO := Lib.hid hno
          have hb : (ith xs k != ith ys k) = true := by simpa using he
          have hb2 : (ith xs k == ith ys k) = false := by simpa using he
          clear hall hno
          generalize ith xs k = x at *
          generalize ith ys k = y at *
          go_wp2
          refine wp_region_cb (by kernel_rfl) (by kernel_rfl) ?_
          repeat (first
            | go_big_quiet_skip
            | (go_big_quiet_want; first
              | (refine q_oneI 2 _ rfl _ Try.underlying2 rfl k rfl A1 _ dx ?_; go_simp; go_big_quiet_on)
              | (refine q_oneI 2 _ rfl _ Try.underlying2 rfl k rfl A2 _ dy ?_; go_simp; go_big_quiet_on)
              | (go_big_quiet_op; go_big_quiet_on)))
          refine wpQuiet_nil ?_
          intro w5 hw5
          have B5 := Lib.hid (bthen B1.out hw5)
          clear hC A1 A2 hw5 dx dy
          go_wp2
          go_ret
          exact ⟨by rw [HNO.out]; rfl, B5.out⟩
      · obtain rfl : n = k := by omega
        have hyes : decide (xs = ys) = true := decide_eq_true (ints_ext (HN.out.1.symm.trans HN.out.2) (fun j hj => hall.out j (by rw [HN.out.1]; exact hj)))
        go_wp2
        go_ret
        exact ⟨by rw [hyes]; rfl, B1.out⟩
  · have hno : decide (xs = ys) = false := decide_eq_false (fun e => hl (by rw [e]))
    generalize xs.length = n at hl
    generalize ys.length = m at hl
    have hne : ¬ (n : Int) = (m : Int) := by omega
    rw [hno]
    clear h1 h2
    go_enter Try.func102, Try.ntmps102
    go_wp2
    go_ret
    exact ⟨rfl, B0.out⟩

set_option maxHeartbeats 2000000 in
theorem l06SameJoint_at (j k : Jt) (g h g' h' gj gk off off' : Nat) (R R' : Array Value) (T T' : TypeId) (hn : j.ns.length ≤ 1048576) (hu : j.us.length ≤ 1048576) (w : World) (A9 : At w gj R T) (E9 : At w gk R' T') (hR : ∀ {x c : Nat}, x = off + c → c < 25 → R[x]? = (jrC (jrOf j (some ⟨g, 0, none⟩) j.ns.length (some ⟨h, 0, none⟩) j.us.length))[c]?) (hR' : ∀ {x c : Nat}, x = off' + c → c < 25 → R'[x]? = (jrC (jrOf k (some ⟨g', 0, none⟩) k.ns.length (some ⟨h', 0, none⟩) k.us.length))[c]?) (N1 : At w g (il j.ns) 2) (U1 : At w h (il j.us) 2) (N2 : At w g' (il k.ns) 2) (U2 : At w h' (il k.us) 2) :
    Calls Try.prog 63 #[.pointer (some ⟨gj, off, none⟩), .pointer (some ⟨gk, off', none⟩)] w fun e w' => e = .returned (.bool (sameJt j k)) ∧ Below w.heap.size w w' := by
  have KJ := fun w' (hb : Cb w w') => l03SameO_b gj gk off off' R R' j.i j.o j.ts j.ps j.hi j.ho j.hlt j.hlp j.hct j.hcp k.i k.o k.ts k.ps k.hi k.ho k.hlt k.hlp k.hct k.hcp T T' w' (A9.step hb) (E9.step hb) (fun {x c} e hc => (hR (c := c) e (by omega)).trans (jr_lo j.hlt j.hlp _ _ _ _ _ hc)) (fun {x c} e hc => (hR' (c := c) e (by omega)).trans (jr_lo k.hlt k.hlp _ _ _ _ _ hc))
  have KN := fun w' (hb : Cb w w') => EqualS_any g g' j.ns k.ns hn _ _ w' (N1.step hb) (N2.step hb)
  have KU := fun w' (hb : Cb w w') => EqualS_any h h' j.us k.us hu _ _ w' (U1.step hb) (U2.step hb)
  have hv : sameJt j k = (sameJ j.i j.o j.ts j.ps k.i k.o k.ts k.ps && decide (j.ns = k.ns) && decide (j.us = k.us) && decide (j.p = k.p)) := rfl
  clear N1 U1 N2 U2 hn hu
  generalize sameJ j.i j.o j.ts j.ps k.i k.o k.ts k.ps = b1 at *
  generalize decide (j.ns = k.ns) = b2 at *
  generalize decide (j.us = k.us) = b3 at *
  cases b1
  · have HV := Lib.hid (show sameJt j k = false from by rw [hv]; rfl)
    clear hv KN KU
    go_enter Try.func63, Try.ntmps63
    go_wp2_with fail
    have hC := Cb.const w
    refine wp_region_cb (by kernel_rfl) (by kernel_rfl) ?_
    repeat (first
      | go_big_quiet_skip
      | (go_big_quiet_want; first
        | (refine q_oneI 73 _ rfl _ Try.underlying73 rfl (off + 22) rfl A9 (.slice (some ⟨g, 0, none⟩) j.ns.length j.ns.length) (hR (c := 22) rfl (by omega) |>.trans (jr_v j.hlt j.hlp _ _ _ _ _)) ?_; go_simp; go_big_quiet_on)
        | (refine q_oneI 73 _ rfl _ Try.underlying73 rfl (off + 23) rfl A9 (.slice (some ⟨h, 0, none⟩) j.us.length j.us.length) (hR (c := 23) rfl (by omega) |>.trans (jr_u j.hlt j.hlp _ _ _ _ _)) ?_; go_simp; go_big_quiet_on)
        | (refine q_oneI 2 _ rfl _ Try.underlying2 rfl (off + 24) rfl A9 (.int .i64 j.p) (hR (c := 24) rfl (by omega) |>.trans (jr_p j.hlt j.hlp _ _ _ _ _)) ?_; go_simp; go_big_quiet_on)
        | (refine q_oneI 73 _ rfl _ Try.underlying73 rfl (off' + 22) rfl E9 (.slice (some ⟨g', 0, none⟩) k.ns.length k.ns.length) (hR' (c := 22) rfl (by omega) |>.trans (jr_v k.hlt k.hlp _ _ _ _ _)) ?_; go_simp; go_big_quiet_on)
        | (refine q_oneI 73 _ rfl _ Try.underlying73 rfl (off' + 23) rfl E9 (.slice (some ⟨h', 0, none⟩) k.us.length k.us.length) (hR' (c := 23) rfl (by omega) |>.trans (jr_u k.hlt k.hlp _ _ _ _ _)) ?_; go_simp; go_big_quiet_on)
        | (refine q_oneI 2 _ rfl _ Try.underlying2 rfl (off' + 24) rfl E9 (.int .i64 k.p) (hR' (c := 24) rfl (by omega) |>.trans (jr_p k.hlt k.hlp _ _ _ _ _)) ?_; go_simp; go_big_quiet_on)
        | (go_big_quiet_op; go_big_quiet_on)
        | (go_big_quiet_op; apply Exists.intro; refine ⟨fun w' hw' => ?_, ?_⟩; (go_at_call 101; exact (KJ _ hw').mono fun _ _ h => ⟨h.1, hw'.step h.2⟩); go_big_quiet_on)))
    refine wpQuiet_nil ?_
    intro w5 hw5
    go_wp2_with fail
    go_ret
    exact ⟨by rw [HV.out]; rfl, hw5⟩
  · cases b2
    · have HV := Lib.hid (show sameJt j k = false from by rw [hv]; rfl)
      clear hv KU
      go_enter Try.func63, Try.ntmps63
      go_wp2_with fail
      have hC := Cb.const w
      refine wp_region_cb (by kernel_rfl) (by kernel_rfl) ?_
      repeat (first
        | go_big_quiet_skip
        | (go_big_quiet_want; first
          | (refine q_oneI 73 _ rfl _ Try.underlying73 rfl (off + 22) rfl A9 (.slice (some ⟨g, 0, none⟩) j.ns.length j.ns.length) (hR (c := 22) rfl (by omega) |>.trans (jr_v j.hlt j.hlp _ _ _ _ _)) ?_; go_simp; go_big_quiet_on)
          | (refine q_oneI 73 _ rfl _ Try.underlying73 rfl (off + 23) rfl A9 (.slice (some ⟨h, 0, none⟩) j.us.length j.us.length) (hR (c := 23) rfl (by omega) |>.trans (jr_u j.hlt j.hlp _ _ _ _ _)) ?_; go_simp; go_big_quiet_on)
          | (refine q_oneI 2 _ rfl _ Try.underlying2 rfl (off + 24) rfl A9 (.int .i64 j.p) (hR (c := 24) rfl (by omega) |>.trans (jr_p j.hlt j.hlp _ _ _ _ _)) ?_; go_simp; go_big_quiet_on)
          | (refine q_oneI 73 _ rfl _ Try.underlying73 rfl (off' + 22) rfl E9 (.slice (some ⟨g', 0, none⟩) k.ns.length k.ns.length) (hR' (c := 22) rfl (by omega) |>.trans (jr_v k.hlt k.hlp _ _ _ _ _)) ?_; go_simp; go_big_quiet_on)
          | (refine q_oneI 73 _ rfl _ Try.underlying73 rfl (off' + 23) rfl E9 (.slice (some ⟨h', 0, none⟩) k.us.length k.us.length) (hR' (c := 23) rfl (by omega) |>.trans (jr_u k.hlt k.hlp _ _ _ _ _)) ?_; go_simp; go_big_quiet_on)
          | (refine q_oneI 2 _ rfl _ Try.underlying2 rfl (off' + 24) rfl E9 (.int .i64 k.p) (hR' (c := 24) rfl (by omega) |>.trans (jr_p k.hlt k.hlp _ _ _ _ _)) ?_; go_simp; go_big_quiet_on)
          | (go_big_quiet_op; go_big_quiet_on)
          | (go_big_quiet_op; apply Exists.intro; refine ⟨fun w' hw' => ?_, ?_⟩; (go_at_call 101; exact (KJ _ hw').mono fun _ _ h => ⟨h.1, hw'.step h.2⟩); go_big_quiet_on)
          | (go_big_quiet_op; apply Exists.intro; refine ⟨fun w' hw' => ?_, ?_⟩; (go_at_call 102; (with_reducible show Calls _ _ #[.slice (some ⟨g, 0, none⟩) j.ns.length j.ns.length, .slice (some ⟨g', 0, none⟩) k.ns.length k.ns.length] _ _); exact (KN _ hw').mono fun _ _ h => ⟨h.1, hw'.step h.2⟩); go_big_quiet_on)))
      refine wpQuiet_nil ?_
      intro w5 hw5
      go_wp2_with fail
      go_ret
      exact ⟨by rw [HV.out]; rfl, hw5⟩
    · cases b3
      · have HV := Lib.hid (show sameJt j k = false from by rw [hv]; rfl)
        clear hv
        go_enter Try.func63, Try.ntmps63
        go_wp2_with fail
        have hC := Cb.const w
        refine wp_region_cb (by kernel_rfl) (by kernel_rfl) ?_
        repeat (first
          | go_big_quiet_skip
          | (go_big_quiet_want; first
            | (refine q_oneI 73 _ rfl _ Try.underlying73 rfl (off + 22) rfl A9 (.slice (some ⟨g, 0, none⟩) j.ns.length j.ns.length) (hR (c := 22) rfl (by omega) |>.trans (jr_v j.hlt j.hlp _ _ _ _ _)) ?_; go_simp; go_big_quiet_on)
            | (refine q_oneI 73 _ rfl _ Try.underlying73 rfl (off + 23) rfl A9 (.slice (some ⟨h, 0, none⟩) j.us.length j.us.length) (hR (c := 23) rfl (by omega) |>.trans (jr_u j.hlt j.hlp _ _ _ _ _)) ?_; go_simp; go_big_quiet_on)
            | (refine q_oneI 2 _ rfl _ Try.underlying2 rfl (off + 24) rfl A9 (.int .i64 j.p) (hR (c := 24) rfl (by omega) |>.trans (jr_p j.hlt j.hlp _ _ _ _ _)) ?_; go_simp; go_big_quiet_on)
            | (refine q_oneI 73 _ rfl _ Try.underlying73 rfl (off' + 22) rfl E9 (.slice (some ⟨g', 0, none⟩) k.ns.length k.ns.length) (hR' (c := 22) rfl (by omega) |>.trans (jr_v k.hlt k.hlp _ _ _ _ _)) ?_; go_simp; go_big_quiet_on)
            | (refine q_oneI 73 _ rfl _ Try.underlying73 rfl (off' + 23) rfl E9 (.slice (some ⟨h', 0, none⟩) k.us.length k.us.length) (hR' (c := 23) rfl (by omega) |>.trans (jr_u k.hlt k.hlp _ _ _ _ _)) ?_; go_simp; go_big_quiet_on)
            | (refine q_oneI 2 _ rfl _ Try.underlying2 rfl (off' + 24) rfl E9 (.int .i64 k.p) (hR' (c := 24) rfl (by omega) |>.trans (jr_p k.hlt k.hlp _ _ _ _ _)) ?_; go_simp; go_big_quiet_on)
            | (go_big_quiet_op; go_big_quiet_on)
            | (go_big_quiet_op; apply Exists.intro; refine ⟨fun w' hw' => ?_, ?_⟩; (go_at_call 101; exact (KJ _ hw').mono fun _ _ h => ⟨h.1, hw'.step h.2⟩); go_big_quiet_on)
            | (go_big_quiet_op; apply Exists.intro; refine ⟨fun w' hw' => ?_, ?_⟩; (go_at_call 102; (with_reducible show Calls _ _ #[.slice (some ⟨g, 0, none⟩) j.ns.length j.ns.length, .slice (some ⟨g', 0, none⟩) k.ns.length k.ns.length] _ _); exact (KN _ hw').mono fun _ _ h => ⟨h.1, hw'.step h.2⟩); go_big_quiet_on)
            | (go_big_quiet_op; apply Exists.intro; refine ⟨fun w' hw' => ?_, ?_⟩; (go_at_call 102; (with_reducible show Calls _ _ #[.slice (some ⟨h, 0, none⟩) j.us.length j.us.length, .slice (some ⟨h', 0, none⟩) k.us.length k.us.length] _ _); exact (KU _ hw').mono fun _ _ h => ⟨h.1, hw'.step h.2⟩); go_big_quiet_on)))
        refine wpQuiet_nil ?_
        intro w5 hw5
        go_wp2_with fail
        go_ret
        exact ⟨by rw [HV.out]; rfl, hw5⟩
      · have HV := Lib.hid (show sameJt j k = (j.p == k.p) from by rw [hv]; by_cases c : j.p = k.p <;> simp [c])
        clear hv
        generalize hpp : (j.p == k.p) = pp at HV
        go_enter Try.func63, Try.ntmps63
        go_wp2_with fail
        have hC := Cb.const w
        refine wp_region_cb (by kernel_rfl) (by kernel_rfl) ?_
        repeat (first
          | go_big_quiet_skip
          | (go_big_quiet_want; first
            | (refine q_oneI 73 _ rfl _ Try.underlying73 rfl (off + 22) rfl A9 (.slice (some ⟨g, 0, none⟩) j.ns.length j.ns.length) (hR (c := 22) rfl (by omega) |>.trans (jr_v j.hlt j.hlp _ _ _ _ _)) ?_; go_simp; go_big_quiet_on)
            | (refine q_oneI 73 _ rfl _ Try.underlying73 rfl (off + 23) rfl A9 (.slice (some ⟨h, 0, none⟩) j.us.length j.us.length) (hR (c := 23) rfl (by omega) |>.trans (jr_u j.hlt j.hlp _ _ _ _ _)) ?_; go_simp; go_big_quiet_on)
            | (refine q_oneI 2 _ rfl _ Try.underlying2 rfl (off + 24) rfl A9 (.int .i64 j.p) (hR (c := 24) rfl (by omega) |>.trans (jr_p j.hlt j.hlp _ _ _ _ _)) ?_; go_simp; go_big_quiet_on)
            | (refine q_oneI 73 _ rfl _ Try.underlying73 rfl (off' + 22) rfl E9 (.slice (some ⟨g', 0, none⟩) k.ns.length k.ns.length) (hR' (c := 22) rfl (by omega) |>.trans (jr_v k.hlt k.hlp _ _ _ _ _)) ?_; go_simp; go_big_quiet_on)
            | (refine q_oneI 73 _ rfl _ Try.underlying73 rfl (off' + 23) rfl E9 (.slice (some ⟨h', 0, none⟩) k.us.length k.us.length) (hR' (c := 23) rfl (by omega) |>.trans (jr_u k.hlt k.hlp _ _ _ _ _)) ?_; go_simp; go_big_quiet_on)
            | (refine q_oneI 2 _ rfl _ Try.underlying2 rfl (off' + 24) rfl E9 (.int .i64 k.p) (hR' (c := 24) rfl (by omega) |>.trans (jr_p k.hlt k.hlp _ _ _ _ _)) ?_; go_simp; go_big_quiet_on)
            | (go_big_quiet_op; go_big_quiet_on)
            | (go_big_quiet_op; apply Exists.intro; refine ⟨fun w' hw' => ?_, ?_⟩; (go_at_call 101; exact (KJ _ hw').mono fun _ _ h => ⟨h.1, hw'.step h.2⟩); go_big_quiet_on)
            | (go_big_quiet_op; apply Exists.intro; refine ⟨fun w' hw' => ?_, ?_⟩; (go_at_call 102; (with_reducible show Calls _ _ #[.slice (some ⟨g, 0, none⟩) j.ns.length j.ns.length, .slice (some ⟨g', 0, none⟩) k.ns.length k.ns.length] _ _); exact (KN _ hw').mono fun _ _ h => ⟨h.1, hw'.step h.2⟩); go_big_quiet_on)
            | (go_big_quiet_op; apply Exists.intro; refine ⟨fun w' hw' => ?_, ?_⟩; (go_at_call 102; (with_reducible show Calls _ _ #[.slice (some ⟨h, 0, none⟩) j.us.length j.us.length, .slice (some ⟨h', 0, none⟩) k.us.length k.us.length] _ _); exact (KU _ hw').mono fun _ _ h => ⟨h.1, hw'.step h.2⟩); go_big_quiet_on)))
        refine wpQuiet_nil ?_
        intro w5 hw5
        go_wp2_with fail
        go_ret
        exact ⟨by rw [HV.out]; rfl, hw5⟩

end Go.Proofs.Ytboahhipobcabaa
