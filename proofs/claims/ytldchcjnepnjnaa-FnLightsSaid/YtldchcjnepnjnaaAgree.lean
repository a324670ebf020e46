/-
  TWO CONTRACTS ON ONE CALL SPEAK OF ONE ENDING: the machine's run is a function.
  No Go text in it. Conditions: both contracts say that the call returns.
-/
import Derived.Test.YtldchcjnepnjnaaCell
import Derived.Barred
namespace Go.Proofs.Ytldchcjnepnjnaa
open Go Go.RowKit

/-- a caller that goes no further -/
def bin0 : Frame := { fn := 0, tmps := #[], todo := [.code (.refuse "")], defers := [], mode := .run, kind := .normal }
theorem bin0_ends (P : Program) (w : World) : ∃ o w', step P (lone bin0 [] w) = .ended o w' :=
  ⟨.unsupported (.elab "") (bin0.pos P), w, step_lone_ended (by simp [stepG, stepG.exec, bin0, GStep.bare])⟩
theorem agree_side {P : Program} {M : Machine} {n m : Nat} {fr fr' : Frame} {w1 w2 : World} {v : Value} (hn : runN P n M = .next (lone fr [bin0] w1)) (hl : fr.leaving P w1 (.returned v))
    (hm : runN P m M = .next (lone fr' [bin0] w2)) : m ≤ n := by
  have s1 : step P (lone fr [bin0] w1) = .next (lone bin0 [] w1) := step_leave_returned (c := bin0) (cs := []) hl
  obtain ⟨o, w', s2⟩ := bin0_ends P w1
  have e1 : runN P (n + 1) M = .next (lone bin0 [] w1) := by
    rw [runN_add, hn]
    simp only [runN, s1]
  have e2 : runN P (n + 2) M = .ended o w' := by
    rw [show n + 2 = (n + 1) + 1 from rfl, runN_add, e1]
    simp only [runN, s2]
  rcases Nat.lt_or_ge n m with c | c
  · exfalso
    rcases Nat.lt_or_ge (n + 1) m with c2 | c2
    · obtain ⟨d, rfl⟩ := Nat.exists_eq_add_of_le (show n + 2 ≤ m from c2)
      have := runN_ended e2 d
      rw [hm] at this
      cases this
    · obtain rfl : m = n + 1 := by omega
      rw [e1] at hm
      have h := congrArg (fun r => match r with | .next M' => M'.gs.toList.map (fun g : Goroutine => g.callers.length) | _ => []) hm
      simp [lone] at h
  · exact c
theorem calls_agree {P : Program} {f : FuncId} {args : Array Value} {w : World} {R R' : Value → World → Prop}
    (h : Calls P f args w fun e w' => ∃ v, e = .returned v ∧ R v w') (h' : Calls P f args w fun e w' => ∃ v, e = .returned v ∧ R' v w') : ∃ v w', R v w' ∧ R' v w' := by
  obtain ⟨e, w1, fr, ⟨v, rfl, r1⟩, ⟨n, hn⟩, -, hl⟩ := h [bin0]
  obtain ⟨e', w2, fr', ⟨v', rfl, r2⟩, ⟨m, hm⟩, -, hl'⟩ := h' [bin0]
  have a := agree_side hn hl hm
  have b := agree_side hm hl' hn
  obtain rfl : n = m := by omega
  rw [hn] at hm
  have e1 := congrArg (fun r => match r with | .next M' => (M'.world, M'.gs.toList.map (fun g : Goroutine => g.frame)) | _ => (w, [])) hm
  simp [lone] at e1
  obtain ⟨rfl, rfl⟩ := e1
  obtain ⟨-, -, -, fn, hf, hr⟩ := hl
  obtain ⟨-, -, -, fn', hf', hr'⟩ := hl'
  rw [hf] at hf'
  obtain rfl := Option.some.inj hf'
  rw [hr] at hr'
  injection hr' with hv
  subst hv
  exact ⟨_, _, r1, r2⟩
end Go.Proofs.Ytldchcjnepnjnaa
