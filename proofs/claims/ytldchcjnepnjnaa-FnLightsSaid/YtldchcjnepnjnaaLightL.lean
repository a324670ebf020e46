/-
  CONTRACTS: lights, as the model has them: is it a light of a valid plan.
-/
import Derived.Test.YtldchcjnepnjnaaG6
import Derived.Test.YtldchcjnepnjnaaVPlanS
import Derived.Test.YtldchcjnepnjnaaG3
import Derived.Test.YtldchcjnepnjnaaG4
namespace Go.Proofs.Ytldchcjnepnjnaa
open Go Go.ChangeShapes Go.WideShapes Go.ChangeAt Go.RowKit
set_option maxRecDepth 100000

section
variable {P : Program} {W : World} {o : Oper} {a : Act} {K : Act → Prop} {g : Nat} {c : Array Value} {T : TypeId}
/-- a plain cell, in whatever world of the class -/
theorem q_oneL (ty : TypeId) (x : Operand) (ho : o.op = .load ty x) (d : TypeDesc) (hu : P.underlying ty = some d) (hd : (match d with | .struct _ | .array _ _ => true | _ => false) = false) (k : Nat) (hx : a.eval x = .pointer (some ⟨g, k, none⟩)) (hA : At W g c T) (v : Value) (hk : c[k]? = some v) (hK : K (a.put o.dst v)) : o.quiet P a (Cb W) K :=
  q_load ty x ho _ hx v (fun w hw => run_load_one w ty d hu hd _ v (At.cell (At.step hA hw) hk)) hK
end

theorem l00In_c (k a b : Int) (w : World) : Calls Try.prog 23 #[.int .i64 k, .int .i64 a, .int .i64 b] w fun e w' => e = .returned (.bool (inB a b k)) ∧ Below w.heap.size w w' := by
  refine (l00In_b k a b w).mono ?_
  rintro e w1 ⟨rfl, n1, rfl⟩
  exact ⟨rfl, bdrew (Below.refl _ _) _⟩

/-- a plan that is valid, and a light of it -/
def lpB (xs : Slots) (b o s n : Int) (r : Bool) : Bool := okP xs b o && liB xs.length b s n r

theorem inB_yes {a b k : Int} (h : a ≤ k ∧ k ≤ b) : inB a b k = true := by unfold inB; exact decide_eq_true h

theorem inB_no {a b k : Int} (h : ¬ (a ≤ k ∧ k ≤ b)) : inB a b k = false := by unfold inB; exact decide_eq_false h

set_option maxHeartbeats 1000000 in
theorem l04Light_any (g g2 : Nat) (T' T2 : TypeId) (G : Nat) (xs : Slots) (b o : Int) (hW : SlW xs) (T : TypeId) (s n : Int) (r : Bool) (hlen : xs.length ≤ 1048576) (w : World) (P0 : At w g (plC (.slice (some ⟨G, 0, none⟩) xs.length xs.length) b o) T') (L0 : At w g2 (ltC s n r) T2) (A0 : At w G (slC xs) T) :
    Calls Try.prog 22 #[.pointer (some ⟨g, 0, none⟩), .pointer (some ⟨g2, 0, none⟩)] w fun e w' => e = .returned (.bool (lpB xs b o s n r)) ∧ Below w.heap.size w w' := by
  have KO := fun w' (hw' : Cb w w') => l04Ok_any g T' G xs b o hW T w' (P0.step hw') (A0.step hw')
  have KS := fun w' (_ : Cb w w') => l00In_c s 0 ((xs.length : Int) - 1) w'
  have KN := fun w' (_ : Cb w w') => l00In_c n 0 1000000 w'
  have hC := Cb.const w
  have s1 : IntKind.i64.wrap ((xs.length : Int) - 1) = (xs.length : Int) - 1 := IntWalk.i64_in _ (by omega)
  clear A0 hW
  unfold lpB
  generalize okP xs b o = ok at KO
  generalize xs.length = m at *
  cases ok
  · have hv := Lib.hid (Bool.false_and (liB m b s n r))
    go_enter Try.func22, Try.ntmps22
    go_wp2
    refine wp_region_cb (by kernel_rfl) (by kernel_rfl) ?_
    repeat (first
      | go_big_quiet_skip
      | (go_big_quiet_want; first
        | (refine q_oneL 24 _ rfl _ Try.underlying24 rfl 0 rfl P0 _ (plC_0 _ _ _) ?_; go_simp; go_big_quiet_on)
        | (refine q_oneL 2 _ rfl _ Try.underlying2 rfl 1 rfl P0 _ (plC_1 _ _ _) ?_; go_simp; go_big_quiet_on)
        | (refine q_oneL 2 _ rfl _ Try.underlying2 rfl 0 rfl L0 _ (ltC_0 _ _ _) ?_; go_simp; go_big_quiet_on)
        | (refine q_oneL 2 _ rfl _ Try.underlying2 rfl 1 rfl L0 _ (ltC_1 _ _ _) ?_; go_simp; go_big_quiet_on)
        | (refine q_oneL 4 _ rfl _ Try.underlying4 rfl 2 rfl L0 _ (ltC_2 _ _ _) ?_; go_simp; go_big_quiet_on)
        | (go_big_quiet_op; go_big_quiet_on)
        | (go_big_quiet_op; apply Exists.intro; refine ⟨fun w' hw' => ?_, ?_⟩; (go_at_call 33; (with_reducible show Calls _ _ #[_] _ _); exact (KO w' hw').mono fun _ _ h => ⟨h.1, hw'.step h.2⟩); go_big_quiet_on)))
    refine wpQuiet_nil ?_
    intro w9 hw9
    go_wp2
    go_ret
    exact ⟨by rw [hv.out]; rfl, hw9⟩
  · by_cases h1 : 0 ≤ s ∧ s < (m : Int)
    · rw [inB_yes (by omega : 0 ≤ s ∧ s ≤ (m : Int) - 1)] at KS
      by_cases h2 : 0 ≤ n ∧ n ≤ 1000000
      · rw [inB_yes h2] at KN
        have hv0 := liB_3 (b := b) (r := r) h1 h2
        clear h1 h2
        cases r
        · have hv := Lib.hid (show (true && liB m b s n false) = true from by rw [hv0]; rfl)
          go_enter Try.func22, Try.ntmps22
          go_wp2
          refine wp_region_cb (by kernel_rfl) (by kernel_rfl) ?_
          repeat (first
            | go_big_quiet_skip
            | (go_big_quiet_want; first
              | (refine q_oneL 24 _ rfl _ Try.underlying24 rfl 0 rfl P0 _ (plC_0 _ _ _) ?_; go_simp; go_big_quiet_on)
              | (refine q_oneL 2 _ rfl _ Try.underlying2 rfl 1 rfl P0 _ (plC_1 _ _ _) ?_; go_simp; go_big_quiet_on)
              | (refine q_oneL 2 _ rfl _ Try.underlying2 rfl 0 rfl L0 _ (ltC_0 _ _ _) ?_; go_simp; go_big_quiet_on)
              | (refine q_oneL 2 _ rfl _ Try.underlying2 rfl 1 rfl L0 _ (ltC_1 _ _ _) ?_; go_simp; go_big_quiet_on)
              | (refine q_oneL 4 _ rfl _ Try.underlying4 rfl 2 rfl L0 _ (ltC_2 _ _ _) ?_; go_simp; go_big_quiet_on)
              | (go_big_quiet_op; go_big_quiet_on)
              | (go_big_quiet_op; apply Exists.intro; refine ⟨fun w' hw' => ?_, ?_⟩; (go_at_call 33; (with_reducible show Calls _ _ #[_] _ _); exact (KO w' hw').mono fun _ _ h => ⟨h.1, hw'.step h.2⟩); go_big_quiet_on)
              | (go_big_quiet_op; apply Exists.intro; refine ⟨fun w' hw' => ?_, ?_⟩; (go_at_call 23; (with_reducible show Calls _ _ #[.int .i64 s, _, _] _ _); exact (KS w' hw').mono fun _ _ h => ⟨h.1, hw'.step h.2⟩); go_big_quiet_on)
              | (go_big_quiet_op; apply Exists.intro; refine ⟨fun w' hw' => ?_, ?_⟩; (go_at_call 23; (with_reducible show Calls _ _ #[.int .i64 n, _, _] _ _); exact (KN w' hw').mono fun _ _ h => ⟨h.1, hw'.step h.2⟩); go_big_quiet_on)))
          refine wpQuiet_nil ?_
          intro w9 hw9
          go_wp2
          go_ret
          exact ⟨by rw [hv.out]; rfl, hw9⟩
        · by_cases h5 : b = 0
          · subst h5
            have hv := Lib.hid (show (true && liB m 0 s n true) = false from by rw [hv0]; rfl)
            go_enter Try.func22, Try.ntmps22
            go_wp2
            refine wp_region_cb (by kernel_rfl) (by kernel_rfl) ?_
            repeat (first
              | go_big_quiet_skip
              | (go_big_quiet_want; first
                | (refine q_oneL 24 _ rfl _ Try.underlying24 rfl 0 rfl P0 _ (plC_0 _ _ _) ?_; go_simp; go_big_quiet_on)
                | (refine q_oneL 2 _ rfl _ Try.underlying2 rfl 1 rfl P0 _ (plC_1 _ _ _) ?_; go_simp; go_big_quiet_on)
                | (refine q_oneL 2 _ rfl _ Try.underlying2 rfl 0 rfl L0 _ (ltC_0 _ _ _) ?_; go_simp; go_big_quiet_on)
                | (refine q_oneL 2 _ rfl _ Try.underlying2 rfl 1 rfl L0 _ (ltC_1 _ _ _) ?_; go_simp; go_big_quiet_on)
                | (refine q_oneL 4 _ rfl _ Try.underlying4 rfl 2 rfl L0 _ (ltC_2 _ _ _) ?_; go_simp; go_big_quiet_on)
                | (go_big_quiet_op; go_big_quiet_on)
                | (go_big_quiet_op; apply Exists.intro; refine ⟨fun w' hw' => ?_, ?_⟩; (go_at_call 33; (with_reducible show Calls _ _ #[_] _ _); exact (KO w' hw').mono fun _ _ h => ⟨h.1, hw'.step h.2⟩); go_big_quiet_on)
                | (go_big_quiet_op; apply Exists.intro; refine ⟨fun w' hw' => ?_, ?_⟩; (go_at_call 23; (with_reducible show Calls _ _ #[.int .i64 s, _, _] _ _); exact (KS w' hw').mono fun _ _ h => ⟨h.1, hw'.step h.2⟩); go_big_quiet_on)
                | (go_big_quiet_op; apply Exists.intro; refine ⟨fun w' hw' => ?_, ?_⟩; (go_at_call 23; (with_reducible show Calls _ _ #[.int .i64 n, _, _] _ _); exact (KN w' hw').mono fun _ _ h => ⟨h.1, hw'.step h.2⟩); go_big_quiet_on)))
            refine wpQuiet_nil ?_
            intro w9 hw9
            go_wp2
            go_ret
            exact ⟨by rw [hv.out]; rfl, hw9⟩
          · have hb : (b == 0) = false := by simpa using h5
            have hv1 : liB m b s n true = true := by rw [hv0, decide_eq_false h5]; rfl
            clear hv0 h5
            have hv := Lib.hid (show (true && liB m b s n true) = true from by rw [hv1]; rfl)
            go_enter Try.func22, Try.ntmps22
            go_wp2
            refine wp_region_cb (by kernel_rfl) (by kernel_rfl) ?_
            repeat (first
              | go_big_quiet_skip
              | (go_big_quiet_want; first
                | (refine q_oneL 24 _ rfl _ Try.underlying24 rfl 0 rfl P0 _ (plC_0 _ _ _) ?_; go_simp; go_big_quiet_on)
                | (refine q_oneL 2 _ rfl _ Try.underlying2 rfl 1 rfl P0 _ (plC_1 _ _ _) ?_; go_simp; go_big_quiet_on)
                | (refine q_oneL 2 _ rfl _ Try.underlying2 rfl 0 rfl L0 _ (ltC_0 _ _ _) ?_; go_simp; go_big_quiet_on)
                | (refine q_oneL 2 _ rfl _ Try.underlying2 rfl 1 rfl L0 _ (ltC_1 _ _ _) ?_; go_simp; go_big_quiet_on)
                | (refine q_oneL 4 _ rfl _ Try.underlying4 rfl 2 rfl L0 _ (ltC_2 _ _ _) ?_; go_simp; go_big_quiet_on)
                | (go_big_quiet_op; go_big_quiet_on)
                | (go_big_quiet_op; apply Exists.intro; refine ⟨fun w' hw' => ?_, ?_⟩; (go_at_call 33; (with_reducible show Calls _ _ #[_] _ _); exact (KO w' hw').mono fun _ _ h => ⟨h.1, hw'.step h.2⟩); go_big_quiet_on)
                | (go_big_quiet_op; apply Exists.intro; refine ⟨fun w' hw' => ?_, ?_⟩; (go_at_call 23; (with_reducible show Calls _ _ #[.int .i64 s, _, _] _ _); exact (KS w' hw').mono fun _ _ h => ⟨h.1, hw'.step h.2⟩); go_big_quiet_on)
                | (go_big_quiet_op; apply Exists.intro; refine ⟨fun w' hw' => ?_, ?_⟩; (go_at_call 23; (with_reducible show Calls _ _ #[.int .i64 n, _, _] _ _); exact (KN w' hw').mono fun _ _ h => ⟨h.1, hw'.step h.2⟩); go_big_quiet_on)))
            refine wpQuiet_nil ?_
            intro w9 hw9
            go_wp2
            go_ret
            exact ⟨by rw [hv.out]; rfl, hw9⟩
      · rw [inB_no h2] at KN
        have hv0 := liB_2 (m := m) (b := b) (s := s) (r := r) h2
        clear h1 h2
        have hv := Lib.hid (show (true && liB m b s n r) = false from by rw [hv0]; rfl)
        go_enter Try.func22, Try.ntmps22
        go_wp2
        refine wp_region_cb (by kernel_rfl) (by kernel_rfl) ?_
        repeat (first
          | go_big_quiet_skip
          | (go_big_quiet_want; first
            | (refine q_oneL 24 _ rfl _ Try.underlying24 rfl 0 rfl P0 _ (plC_0 _ _ _) ?_; go_simp; go_big_quiet_on)
            | (refine q_oneL 2 _ rfl _ Try.underlying2 rfl 1 rfl P0 _ (plC_1 _ _ _) ?_; go_simp; go_big_quiet_on)
            | (refine q_oneL 2 _ rfl _ Try.underlying2 rfl 0 rfl L0 _ (ltC_0 _ _ _) ?_; go_simp; go_big_quiet_on)
            | (refine q_oneL 2 _ rfl _ Try.underlying2 rfl 1 rfl L0 _ (ltC_1 _ _ _) ?_; go_simp; go_big_quiet_on)
            | (refine q_oneL 4 _ rfl _ Try.underlying4 rfl 2 rfl L0 _ (ltC_2 _ _ _) ?_; go_simp; go_big_quiet_on)
            | (go_big_quiet_op; go_big_quiet_on)
            | (go_big_quiet_op; apply Exists.intro; refine ⟨fun w' hw' => ?_, ?_⟩; (go_at_call 33; (with_reducible show Calls _ _ #[_] _ _); exact (KO w' hw').mono fun _ _ h => ⟨h.1, hw'.step h.2⟩); go_big_quiet_on)
            | (go_big_quiet_op; apply Exists.intro; refine ⟨fun w' hw' => ?_, ?_⟩; (go_at_call 23; (with_reducible show Calls _ _ #[.int .i64 s, _, _] _ _); exact (KS w' hw').mono fun _ _ h => ⟨h.1, hw'.step h.2⟩); go_big_quiet_on)
            | (go_big_quiet_op; apply Exists.intro; refine ⟨fun w' hw' => ?_, ?_⟩; (go_at_call 23; (with_reducible show Calls _ _ #[.int .i64 n, _, _] _ _); exact (KN w' hw').mono fun _ _ h => ⟨h.1, hw'.step h.2⟩); go_big_quiet_on)))
        refine wpQuiet_nil ?_
        intro w9 hw9
        go_wp2
        go_ret
        exact ⟨by rw [hv.out]; rfl, hw9⟩
    · rw [inB_no (by omega : ¬ (0 ≤ s ∧ s ≤ (m : Int) - 1))] at KS
      have hv0 := liB_1 (m := m) (b := b) (n := n) (r := r) h1
      clear h1
      have hv := Lib.hid (show (true && liB m b s n r) = false from by rw [hv0]; rfl)
      go_enter Try.func22, Try.ntmps22
      go_wp2
      refine wp_region_cb (by kernel_rfl) (by kernel_rfl) ?_
      repeat (first
        | go_big_quiet_skip
        | (go_big_quiet_want; first
          | (refine q_oneL 24 _ rfl _ Try.underlying24 rfl 0 rfl P0 _ (plC_0 _ _ _) ?_; go_simp; go_big_quiet_on)
          | (refine q_oneL 2 _ rfl _ Try.underlying2 rfl 1 rfl P0 _ (plC_1 _ _ _) ?_; go_simp; go_big_quiet_on)
          | (refine q_oneL 2 _ rfl _ Try.underlying2 rfl 0 rfl L0 _ (ltC_0 _ _ _) ?_; go_simp; go_big_quiet_on)
          | (refine q_oneL 2 _ rfl _ Try.underlying2 rfl 1 rfl L0 _ (ltC_1 _ _ _) ?_; go_simp; go_big_quiet_on)
          | (refine q_oneL 4 _ rfl _ Try.underlying4 rfl 2 rfl L0 _ (ltC_2 _ _ _) ?_; go_simp; go_big_quiet_on)
          | (go_big_quiet_op; go_big_quiet_on)
          | (go_big_quiet_op; apply Exists.intro; refine ⟨fun w' hw' => ?_, ?_⟩; (go_at_call 33; (with_reducible show Calls _ _ #[_] _ _); exact (KO w' hw').mono fun _ _ h => ⟨h.1, hw'.step h.2⟩); go_big_quiet_on)
          | (go_big_quiet_op; apply Exists.intro; refine ⟨fun w' hw' => ?_, ?_⟩; (go_at_call 23; (with_reducible show Calls _ _ #[.int .i64 s, _, _] _ _); exact (KS w' hw').mono fun _ _ h => ⟨h.1, hw'.step h.2⟩); go_big_quiet_on)))
      refine wpQuiet_nil ?_
      intro w9 hw9
      go_wp2
      go_ret
      exact ⟨by rw [hv.out]; rfl, hw9⟩

end Go.Proofs.Ytldchcjnepnjnaa
