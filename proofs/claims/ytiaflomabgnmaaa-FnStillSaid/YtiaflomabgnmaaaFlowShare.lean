/-
  CONTRACTS: StillShare, JamShare.
-/
import Derived.Test.YtiaflomabgnmaaaG11
import Derived.Test.YtiaflomabgnmaaaG7
namespace Go.Proofs.Ytiaflomabgnmaaa
open Go Go.RowKit
set_option maxRecDepth 100000

/-- the code of a road and a flow -/
def flowC (ok : Bool) (f most : Nat) : Int := if ok then (if amtB f && decide (f ≤ most) then 0 else 2) else 1

theorem flowC_zero {ok : Bool} {f most : Nat} (h : flowC ok f most = 0) : ok = true ∧ f < 2139095040 ∧ f ≤ most := by
  unfold flowC at h
  cases ok
  · simp at h
  · cases c1 : amtB f
    · rw [c1] at h; simp at h
    · by_cases c2 : f ≤ most
      · unfold amtB at c1; simp at c1; exact ⟨rfl, c1, c2⟩
      · rw [c1, decide_eq_false c2] at h; simp at h

theorem flowChk_any (gr gf : Nat) (cs : List Nat) (p b l : Nat) (hl : cs.length = 16) (hc : ∀ x ∈ cs, x < 4294967296) (hp : p < 4294967296) (hb : b < 4294967296) (hla : l < 4294967296) (f : Nat) (hf : f < 4294967296) (w : World) (Ar : At w gr (rd cs p b l) 28) (Af : At w gf #[.float .f32 f] 24) :
    Calls Try.prog 34 #[.pointer (some ⟨gr, 0, none⟩), .pointer (some ⟨gf, 0, none⟩)] w fun e w' => Chk (flowC (okB cs p b l) f (mostW p b)) e ∧ Below w.heap.size w w' := by
  have KV := ValidRoad_any cs p b l hl hc hp hb hla w
  cases h : okB cs p b l
  · rw [show flowC false f (mostW p b) = 1 from rfl]
    rw [h] at KV
    go_enter Try.func34, Try.ntmps34
    go_wp2_with (((with_reducible refine is_load 28 _ rfl ?_); refine wpList_load_at rfl 28 _ rfl _ rfl (rd cs p b l) _ (by assumption) 19 (rd_size hl p b l) _ Try.underlying28 rfl (by kernel_rfl) ?_))
    refine KV.mono ?_
    rintro e w1 ⟨rfl, hb1⟩
    clear KV
    go_wp2_with fail
    refine (need_bad 1 w1).mono ?_
    rintro e w2 ⟨rfl, rfl⟩
    go_wp2
    exact ⟨rfl, .inr ⟨by decide, _, .inl rfl, rfl⟩, hb1⟩
  · rw [h] at KV
    have ok := OkR.of hl h
    cases c1 : amtB f
    · have e0 : flowC true f (mostW p b) = 2 := by unfold flowC; rw [c1]; rfl
      rw [e0]
      go_enter Try.func34, Try.ntmps34
      go_wp2_with (((with_reducible refine is_load 28 _ rfl ?_); refine wpList_load_at rfl 28 _ rfl _ rfl (rd cs p b l) _ (by assumption) 19 (rd_size hl p b l) _ Try.underlying28 rfl (by kernel_rfl) ?_))
      refine KV.mono ?_
      rintro e w1 ⟨rfl, hb1⟩
      clear KV
      have cf := (Af.step hb1).cell (k := 0) (v := .float .f32 f) rfl
      go_wp2_with fail
      refine (need_ok 1 w1).mono ?_
      rintro e w2 ⟨rfl, rfl⟩
      have KN := needNew_any [f] (by simp; exact hf) (by simp) w2 24
      rw [show amtC [f] = 2 from by unfold amtC; simp [c1]] at KN
      go_wp2_with fail
      refine KN.mono ?_
      rintro e w3 ⟨⟨h0, rfl⟩ | ⟨h0, x, hx, rfl⟩, hb3⟩
      · exact absurd h0 (by decide)
      · go_wp2
        exact ⟨rfl, .inr ⟨h0, x, hx, rfl⟩, bthen hb1 hb3⟩
    · have hf2 : f < 2139095040 := by unfold amtB at c1; simpa using c1
      have hmw := mostW_le ok.pace ok.back
      have hle := le_amt (x := f) (y := mostW p b) (by omega) (by omega)
      by_cases c : f ≤ mostW p b
      · have e0 : flowC true f (mostW p b) = 0 := by unfold flowC; rw [c1, decide_eq_true c]; rfl
        rw [decide_eq_true c] at hle
        rw [e0]
        clear e0
        go_enter Try.func34, Try.ntmps34
        go_wp2_with (((with_reducible refine is_load 28 _ rfl ?_); refine wpList_load_at rfl 28 _ rfl _ rfl (rd cs p b l) _ (by assumption) 19 (rd_size hl p b l) _ Try.underlying28 rfl (by kernel_rfl) ?_))
        refine KV.mono ?_
        rintro e w1 ⟨rfl, hb1⟩
        clear KV
        have Ar1 := Ar.step hb1
        have Af1 := Af.step hb1
        have cf := Af1.cell (k := 0) (v := .float .f32 f) rfl
        go_wp2_with fail
        refine (need_ok 1 w1).mono ?_
        rintro e w2 ⟨rfl, rfl⟩
        have KN := needNew_any [f] (by simp; exact hf) (by simp) w2 24
        rw [show amtC [f] = 0 from by unfold amtC; simp [c1]] at KN
        go_wp2_with fail
        refine KN.mono ?_
        rintro e w3 ⟨⟨h0, rfl⟩ | ⟨h0, x, hx, rfl⟩, hb3⟩
        rotate_left
        · exact absurd rfl h0
        clear KN cf h0
        have Ar2 := Ar1.step hb3
        have Af2 := Af1.step hb3
        have B3 := Lib.hid (bthen hb1 hb3)
        clear Ar1 Af1 Ar Af hb1 hb3
        have KM := mostFlow_any cs p b l ok
        have hC := Cb.const w3
        go_wp2
        refine wp_region_cb_tail 4 (by kernel_rfl) (by kernel_rfl) ?_
        simp only [List.take, List.drop]
        repeat (first
          | go_big_quiet_skip
          | (go_big_quiet_want; first
            | (refine q_cell 24 _ rfl _ Try.underlying24 _ rfl Af2 _ rfl ?_; go_simp; go_big_quiet_on)
            | (refine q_row 28 _ rfl rfl Ar2 19 (rd_size hl p b l) _ Try.underlying28 rfl (by kernel_rfl) ?_; go_simp; go_big_quiet_on)
            | (go_big_quiet_op; go_big_quiet_on)
            | (go_big_quiet_op; apply Exists.intro; refine ⟨fun w' hw' => ?_, ?_⟩; (go_at_call 18; exact (KM _).mono fun _ _ h => ⟨h.1, hw'.step h.2⟩); go_big_quiet_on)))
        refine wpQuiet_nil ?_
        intro w4 hw4
        go_wp2_with fail
        refine (need_ok 2 w4).mono ?_
        rintro e w5 ⟨rfl, rfl⟩
        go_wp2
        go_end0
        exact ⟨.inl ⟨rfl, rfl⟩, bthen B3.out hw4⟩
      · have e0 : flowC true f (mostW p b) = 2 := by unfold flowC; rw [c1, decide_eq_false c]; rfl
        rw [decide_eq_false c] at hle
        rw [e0]
        clear e0
        go_enter Try.func34, Try.ntmps34
        go_wp2_with (((with_reducible refine is_load 28 _ rfl ?_); refine wpList_load_at rfl 28 _ rfl _ rfl (rd cs p b l) _ (by assumption) 19 (rd_size hl p b l) _ Try.underlying28 rfl (by kernel_rfl) ?_))
        refine KV.mono ?_
        rintro e w1 ⟨rfl, hb1⟩
        clear KV
        have Ar1 := Ar.step hb1
        have Af1 := Af.step hb1
        have cf := Af1.cell (k := 0) (v := .float .f32 f) rfl
        go_wp2_with fail
        refine (need_ok 1 w1).mono ?_
        rintro e w2 ⟨rfl, rfl⟩
        have KN := needNew_any [f] (by simp; exact hf) (by simp) w2 24
        rw [show amtC [f] = 0 from by unfold amtC; simp [c1]] at KN
        go_wp2_with fail
        refine KN.mono ?_
        rintro e w3 ⟨⟨h0, rfl⟩ | ⟨h0, x, hx, rfl⟩, hb3⟩
        rotate_left
        · exact absurd rfl h0
        clear KN cf h0
        have Ar2 := Ar1.step hb3
        have Af2 := Af1.step hb3
        have B3 := Lib.hid (bthen hb1 hb3)
        clear Ar1 Af1 Ar Af hb1 hb3
        have KM := mostFlow_any cs p b l ok
        have hC := Cb.const w3
        go_wp2
        refine wp_region_cb_tail 4 (by kernel_rfl) (by kernel_rfl) ?_
        simp only [List.take, List.drop]
        repeat (first
          | go_big_quiet_skip
          | (go_big_quiet_want; first
            | (refine q_cell 24 _ rfl _ Try.underlying24 _ rfl Af2 _ rfl ?_; go_simp; go_big_quiet_on)
            | (refine q_row 28 _ rfl rfl Ar2 19 (rd_size hl p b l) _ Try.underlying28 rfl (by kernel_rfl) ?_; go_simp; go_big_quiet_on)
            | (go_big_quiet_op; go_big_quiet_on)
            | (go_big_quiet_op; apply Exists.intro; refine ⟨fun w' hw' => ?_, ?_⟩; (go_at_call 18; exact (KM _).mono fun _ _ h => ⟨h.1, hw'.step h.2⟩); go_big_quiet_on)))
        refine wpQuiet_nil ?_
        intro w4 hw4
        go_wp2_with fail
        refine (need_bad 2 w4).mono ?_
        rintro e w5 ⟨rfl, rfl⟩
        go_wp2
        exact ⟨rfl, .inr ⟨by decide, _, .inl rfl, rfl⟩, bthen B3.out hw4⟩
end Go.Proofs.Ytiaflomabgnmaaa
