/-
  CONTRACTS: valid plans, as the model asks it.
-/
import Derived.Test.YtldchcjnepnjnaaVPlan
namespace Go.Proofs.Ytldchcjnepnjnaa
open Go Go.ChangeShapes Go.WideShapes Go.ChangeAt Go.RowKit
set_option maxRecDepth 100000

theorem okP_cOk {xs : Slots} {b o : Int} (h : lenOk xs = true) : okP xs b o = (cOk xs b && decide (0 ≤ o ∧ o < cyc xs b)) := by
  unfold okP cOk; rw [h]; cases btw b <;> cases tkOk xs xs.length <;> simp

theorem lenOk_in (xs : Slots) : inB 1 8 ((xs.length : Nat) : Int) = lenOk xs := by unfold inB lenOk; exact decide_eq_decide.2 (by omega)

theorem l04Ok_any (g : Nat) (T' : TypeId) (G : Nat) (xs : Slots) (b o : Int) (hW : SlW xs) (T : TypeId) (w : World) (P0 : At w g (plC (.slice (some ⟨G, 0, none⟩) xs.length xs.length) b o) T') (A0 : At w G (slC xs) T) :
    Calls Try.prog 33 #[.pointer (some ⟨g, 0, none⟩)] w fun e w' => e = .returned (.bool (okP xs b o)) ∧ Below w.heap.size w w' := by
  have KL := l00In_b ((xs.length : Nat) : Int) 1 8 w
  rw [lenOk_in] at KL
  have c0 : w.cell? ⟨g, 0, none⟩ = some (.slice (some ⟨G, 0, none⟩) xs.length xs.length) := P0.cell (plC_0 _ _ _)
  cases hl : lenOk xs
  · rw [hl] at KL
    have hno := Lib.hid (okP_len (b := b) (o := o) hl)
    generalize xs.length = n at c0 KL
    clear P0 A0
    go_enter Try.func33, Try.ntmps33
    go_wp2_with fail
    refine KL.mono ?_
    rintro e w1 ⟨rfl, n1, rfl⟩
    go_wp2_with fail
    go_ret
    exact ⟨by rw [hno.out]; rfl, bdrew (Below.refl _ _) _⟩
  · rw [hl] at KL
    have hlr : 1 ≤ xs.length ∧ xs.length ≤ 8 := by simpa [lenOk] using hl
    have hyes := Lib.hid (okP_cOk (b := b) (o := o) hl)
    have KC := fun n1 => l04Cycle_any g T' G xs b o hW T hlr.1 hlr.2 (w.drewN n1) (P0.drewN n1) (A0.drewN n1)
    have HP := Lib.hid P0
    generalize hnn : xs.length = n at c0 KL P0
    clear P0 A0 hlr hl
    go_enter Try.func33, Try.ntmps33
    go_wp2_with fail
    refine KL.mono ?_
    rintro e w1 ⟨rfl, n1, rfl⟩
    have B1 := Lib.hid (bdrew (Below.refl w.heap.size w) n1)
    go_wp2_with fail
    refine (KC n1).mono ?_
    rintro e w2 ⟨s, rfl, ⟨hs1, hs2, hs3⟩, hb2⟩
    have P2 := (HP.out.drewN n1).step hb2
    have B2 := Lib.hid (bthen B1.out hb2)
    clear KC HP B1 hb2 c0 KL
    have c2 : w2.cell? ⟨g, 2, none⟩ = some (.int .i64 o) := P2.cell (plC_2 _ _ _)
    clear P2
    cases hc : cOk xs b
    · rw [hc] at hyes
      have h240 := hs2 hc
      clear hs1 hs2 hc
      go_wp2
      go_ret
      exact ⟨by rw [hyes.out]; rfl, B2.out⟩
    · rw [hc] at hyes
      obtain rfl := hs1 hc
      have h240 : cyc xs b ≤ 240 := by
        unfold cOk at hc
        simp only [Bool.and_eq_true, decide_eq_true_eq] at hc
        exact hc.2.2
      clear hs1 hs2 hc
      have KI := l00In_b o 0 (cyc xs b - 1) w2
      have he : inB 0 (cyc xs b - 1) o = decide (0 ≤ o ∧ o < cyc xs b) := by unfold inB; exact decide_eq_decide.2 (by omega)
      rw [he] at KI
      generalize decide (0 ≤ o ∧ o < cyc xs b) = dd at KI hyes
      clear he
      generalize cyc xs b = cc at *
      have sc : IntKind.i64.wrap (cc - 1) = cc - 1 := IntWalk.i64_in _ (by omega)
      go_wp2_with fail
      refine KI.mono ?_
      rintro e w3 ⟨rfl, n3, rfl⟩
      go_wp2_with fail
      go_ret
      exact ⟨by rw [hyes.out]; rfl, bdrew B2.out _⟩

end Go.Proofs.Ytldchcjnepnjnaa
