/-
  CONTRACTS: StillShare, JamShare.
-/
import Derived.Test.YtldgacihegibmaaFlowShare
import Derived.Test.YtldgacihegibmaaSpeedAt
namespace Go.Proofs.Ytldgacihegibmaa
open Go Go.RowKit
set_option maxRecDepth 100000

theorem refusalOfFlow_any (cs : List Nat) (p b l : Nat) (hl : cs.length = 16) (hc : ∀ x ∈ cs, x < 4294967296) (hp : p < 4294967296) (hb : b < 4294967296) (hla : l < 4294967296) (f : Nat) (hf : f < 4294967296) (w : World) :
    Calls Try.prog 79 #[.agg (rd cs p b l), .float .f32 f] w fun e w' => e = .returned (.int .i64 (flowC (okB cs p b l) f (mostW p b))) ∧ Below w.heap.size w w' := by
  have hmf : ∀ (fn : Fn) (first cap : Array Value) (w : World), (Instr.makeFunc fn first cap).run Try.prog w = .ok (.func fn first cap) w := fun _ _ _ _ => rfl
  have A0 : At ((w.alloc (.cells (rd cs p b l) 31)).alloc (.cells #[.float .f32 f] 22)) w.heap.size (rd cs p b l) 31 := (At.new w _ _).alloc _
  have O0 : At ((w.alloc (.cells (rd cs p b l) 31)).alloc (.cells #[.float .f32 f] 22)) (w.heap.size + 1) #[.float .f32 f] 22 := At.last1 w _ _ _
  have KR := refusalOf_any 118 _ _ _ (fun _ => by kernel_rfl) fun w1 h1 => flowChk_any _ _ cs p b l hl hc hp hb hla f hf w1 (A0.step h1) (O0.step h1)
  have B0 := Lib.hid (bnew (b0 w (.cells (rd cs p b l) 31)) (.cells #[.float .f32 f] 22))
  go_enter Try.func79, Try.ntmps79
  go_wp2_with fail
  refine KR.mono ?_
  rintro e w1 ⟨rfl, hb1⟩
  go_wp2
  go_ret
  exact ⟨rfl, bthen B0.out hb1⟩

theorem l02Flow_any (g : Nat) (cs : List Nat) (p b l : Nat) (hl : cs.length = 16) (hc : ∀ x ∈ cs, x < 4294967296) (hp : p < 4294967296) (hb : b < 4294967296) (hla : l < 4294967296) (f : Nat) (hf : f < 4294967296) (w : World) (hr : RoadAt w g cs p b l) :
    Calls Try.prog 77 #[.pointer (some ⟨g, 0, none⟩), .float .f32 f] w (Rd (.int .i64 (flowC (okB cs p b l) f (mostW p b))) w) := by
  have KV := l01Ok_any g cs p b l hl hc hp hb hla w hr
  cases h : okB cs p b l
  · rw [show flowC false f (mostW p b) = 1 from rfl]
    rw [h] at KV
    go_enter Try.func77, Try.ntmps77
    go_wp2_with fail
    refine KV.mono ?_
    rintro e w1 ⟨rfl, n1, rfl⟩
    go_wp2_with fail
    go_ret
    exact Rd.mkN
  · rw [h] at KV
    have ok := OkR.of hl h
    cases c1 : amtB f
    · have e0 : flowC true f (mostW p b) = 2 := by unfold flowC; rw [c1]; rfl
      rw [e0]
      clear e0
      go_enter Try.func77, Try.ntmps77
      go_wp2_with fail
      refine KV.mono ?_
      rintro e w1 ⟨rfl, n1, rfl⟩
      have KO := l01Amount_any f hf (w.drewN n1)
      rw [c1] at KO
      clear KV
      go_wp2_with fail
      refine KO.mono ?_
      rintro e w2 ⟨rfl, n2, rfl⟩
      clear KO
      go_wp2_with fail
      go_ret
      exact Rd.mkN
    · have hf2 : f < 2139095040 := by unfold amtB at c1; simpa using c1
      have hmw := mostW_le ok.pace ok.back
      have hle := gt_amt (x := f) (y := mostW p b) (by omega) (by omega)
      by_cases c : f ≤ mostW p b
      · have e0 : flowC true f (mostW p b) = 0 := by unfold flowC; rw [c1, decide_eq_true c]; rfl
        rw [decide_eq_false (by omega)] at hle
        rw [e0]
        clear e0
        go_enter Try.func77, Try.ntmps77
        go_wp2_with fail
        refine KV.mono ?_
        rintro e w1 ⟨rfl, n1, rfl⟩
        have KO := l01Amount_any f hf (w.drewN n1)
        rw [c1] at KO
        clear KV
        go_wp2_with fail
        refine KO.mono ?_
        rintro e w2 ⟨rfl, n2, rfl⟩
        clear KO
        have KM := l01Most_any g cs p b l ok _ (hr.drewN (n1 + n2))
        go_wp2_with fail
        refine KM.mono ?_
        rintro e w3 ⟨rfl, n3, rfl⟩
        clear KM
        go_wp2_with fail
        go_ret
        exact Rd.mkN
      · have e0 : flowC true f (mostW p b) = 2 := by unfold flowC; rw [c1, decide_eq_false c]; rfl
        rw [decide_eq_true (by omega)] at hle
        rw [e0]
        clear e0
        go_enter Try.func77, Try.ntmps77
        go_wp2_with fail
        refine KV.mono ?_
        rintro e w1 ⟨rfl, n1, rfl⟩
        have KO := l01Amount_any f hf (w.drewN n1)
        rw [c1] at KO
        clear KV
        go_wp2_with fail
        refine KO.mono ?_
        rintro e w2 ⟨rfl, n2, rfl⟩
        clear KO
        have KM := l01Most_any g cs p b l ok _ (hr.drewN (n1 + n2))
        go_wp2_with fail
        refine KM.mono ?_
        rintro e w3 ⟨rfl, n3, rfl⟩
        clear KM
        go_wp2_with fail
        go_ret
        exact Rd.mkN

theorem still_facts {cs : List Nat} {p b l f : Nat} (ok : OkR cs p b l) (hf : f < 2139095040) : floatBits .quo .f32 f p = some (divB f p) ∧ Sgn (divB f p) := by
  have hp := ok.pace
  have := div_some hf (show p < 2139095040 by omega) (by omega)
  exact ⟨this.1, .inl this.2⟩
theorem jam_facts {cs : List Nat} {p b l f : Nat} (ok : OkR cs p b l) (hf : f ≤ mostW p b) : floatBits .quo .f32 f b = some (divB f b) ∧ floatBits .sub .f32 1065353216 (divB f b) = some (difB 1065353216 (divB f b)) ∧ Sgn (difB 1065353216 (divB f b)) := by
  have hb := ok.back
  have hm := mostW_le ok.pace ok.back
  have h1 := div_some (show f < 2139095040 by omega) (show b < 2139095040 by omega) (by omega)
  have h2 : divB f b ≤ 1115684864 := by
    refine div_le (by omega) (by omega) (by omega) ?_
    have e1 : rv 23 f ≤ 2 ^ 149 := by have := rv_le (p := 23) (show f ≤ 1065353216 by omega); rwa [rv_one] at this
    have e2 : rv 23 1015021568 ≤ rv 23 b := rv_le hb.1
    have e3 : rv 23 1015021568 = 2 ^ 143 := by decide
    have e4 : rv 23 1115684864 = 2 ^ 155 := by decide
    rw [e3] at e2
    rw [e4]
    calc rv 23 f * 2 ^ 149 ≤ 2 ^ 149 * 2 ^ 149 := Nat.mul_le_mul_right _ e1
      _ = 2 ^ 155 * 2 ^ 143 := by decide
      _ ≤ 2 ^ 155 * rv 23 b := Nat.mul_le_mul_left _ e2
  exact ⟨h1.1, dif_eq (by omega) (by omega), dif_sgn (by omega) (by omega)⟩

def vStillShare (cs : List Nat) (p b l f : Nat) : Nat × Int := if flowC (okB cs p b l) f (mostW p b) = 0 then (holdB (divB f p), 0) else (0, flowC (okB cs p b l) f (mostW p b))
theorem vStillShare_good (cs : List Nat) (p b l f : Nat) : (vStillShare cs p b l f).1 < 4294967296 ∧ nanB (vStillShare cs p b l f).1 = false := by
  unfold vStillShare
  split
  · exact nan_le (holdB_le _) (by omega)
  · exact ⟨show 0 < 4294967296 by decide, show nanB 0 = false by decide⟩
theorem StillShare_any (cs : List Nat) (p b l : Nat) (hl : cs.length = 16) (hc : ∀ x ∈ cs, x < 4294967296) (hp : p < 4294967296) (hb : b < 4294967296) (hla : l < 4294967296) (f : Nat) (hf : f < 4294967296) (w : World) :
    Calls Try.prog 30 #[.agg (rd cs p b l), .float .f32 f] w fun e w' => e = .returned (.tuple #[.float .f32 (vStillShare cs p b l f).1, .int .i64 (vStillShare cs p b l f).2]) ∧ Below w.heap.size w w' := by
  have A0 := At.new w (rd cs p b l) 31
  have KR := refusalOfFlow_any cs p b l hl hc hp hb hla f hf (w.alloc (.cells (rd cs p b l) 31))
  by_cases h : flowC (okB cs p b l) f (mostW p b) = 0
  · have e : (vStillShare cs p b l f) = (holdB (divB f p), 0) := by unfold vStillShare; rw [if_pos h]
    have hz := flowC_zero h
    have ok := OkR.of hl hz.1
    have f1 : ∀ t w, (binOp .quo t (.float .f32 f) (.float .f32 p)).run Try.prog w = .ok (.float .f32 (divB f p)) w := fun t w => run_float_arith w .quo t .f32 _ _ _ (still_facts ok hz.2.1).1
    have SG := (still_facts ok hz.2.1).2
    rw [h] at KR
    rw [e]
    have HZ := Lib.hid hz
    clear e hz
    go_enter Try.func30, Try.ntmps30
    go_wp2_with (((with_reducible refine is_load 31 _ rfl ?_); refine wpList_load_at rfl 31 _ rfl _ rfl (rd cs p b l) _ (by assumption) 19 (rd_size hl p b l) _ Try.underlying31 rfl (by kernel_rfl) ?_))
    refine KR.mono ?_
    rintro e' w1 ⟨rfl, hb1⟩
    have A1 := A0.step hb1
    have B1 := Lib.hid (bthen (b0 w (.cells (rd cs p b l) 31)) hb1)
    clear KR A0 hb1
    go_wp2_with fail
    refine (holdBetween_any w1).mono ?_
    rintro e' w2 ⟨rfl, rfl⟩
    have A2 := A1.step (boundsW_below w1)
    have B2 := Lib.hid (bthen B1.out (boundsW_below w1))
    have c2 := A2.cell (rd_pace hl p b l)
    have K := hold_any w1.heap.size (w1.heap.size + 1) (divB f p) SG _ (boundsW_0 w1) (boundsW_1 w1)
    clear A1 B1 A2
    go_wp2_with fail
    refine K.mono ?_
    rintro e' w3 ⟨rfl, rfl⟩
    clear K
    go_wp2_with fail
    go_ret2
    exact ⟨rfl, B2.out⟩
  · have e : (vStillShare cs p b l f) = (0, flowC (okB cs p b l) f (mostW p b)) := by unfold vStillShare; rw [if_neg h]
    rw [e]
    generalize flowC (okB cs p b l) f (mostW p b) = c at KR h ⊢
    clear e
    go_enter Try.func30, Try.ntmps30
    go_wp2_with (((with_reducible refine is_load 31 _ rfl ?_); refine wpList_load_at rfl 31 _ rfl _ rfl (rd cs p b l) _ (by assumption) 19 (rd_size hl p b l) _ Try.underlying31 rfl (by kernel_rfl) ?_))
    refine KR.mono ?_
    rintro e' w1 ⟨rfl, hb1⟩
    clear KR
    go_wp2_with fail
    go_ret2
    exact ⟨rfl, bthen (b0 _ _) hb1⟩
theorem sStillShare_any (cs : List Nat) (p b l : Nat) (hl : cs.length = 16) (hc : ∀ x ∈ cs, x < 4294967296) (hp : p < 4294967296) (hb : b < 4294967296) (hla : l < 4294967296) (f : Nat) (hf : f < 4294967296) (w : World) :
    Calls Try.prog 29 #[.agg (rd cs p b l), .float .f32 f] w fun e w' => e = .returned (.tuple #[.float .f32 (vStillShare cs p b l f).1, .int .i64 (vStillShare cs p b l f).2]) ∧ Below w.heap.size w w' := by
  have hr := RoadAt.new w cs p b l 31
  have A0 := At.new w (rd cs p b l) 31
  have KR := l02Flow_any _ cs p b l hl hc hp hb hla f hf _ hr
  by_cases h : flowC (okB cs p b l) f (mostW p b) = 0
  · have e : (vStillShare cs p b l f) = (holdB (divB f p), 0) := by unfold vStillShare; rw [if_pos h]
    have hz := flowC_zero h
    have ok := OkR.of hl hz.1
    have f1 : ∀ t w, (binOp .quo t (.float .f32 f) (.float .f32 p)).run Try.prog w = .ok (.float .f32 (divB f p)) w := fun t w => run_float_arith w .quo t .f32 _ _ _ (still_facts ok hz.2.1).1
    have SG := (still_facts ok hz.2.1).2
    rw [h] at KR
    rw [e]
    have HZ := Lib.hid hz
    clear e hz
    go_enter Try.func29, Try.ntmps29
    go_wp2_with fail
    refine KR.mono ?_
    rintro e' w1 ⟨rfl, n1, rfl⟩
    have c2 := (A0.drewN n1).cell (rd_pace hl p b l)
    clear KR
    go_wp2_with fail
    refine (l02Held_any (divB f p) SG _).mono ?_
    rintro e' w3 ⟨rfl, rfl⟩
    go_wp2_with fail
    go_ret2
    exact ⟨rfl, bdrew (b0 _ _) _⟩
  · have e : (vStillShare cs p b l f) = (0, flowC (okB cs p b l) f (mostW p b)) := by unfold vStillShare; rw [if_neg h]
    rw [e]
    generalize flowC (okB cs p b l) f (mostW p b) = c at KR h ⊢
    clear e
    go_enter Try.func29, Try.ntmps29
    go_wp2_with fail
    refine KR.mono ?_
    rintro e' w1 ⟨rfl, n1, rfl⟩
    clear KR
    go_wp2_with fail
    go_ret2
    exact ⟨rfl, bdrew (b0 _ _) _⟩

def vJamShare (cs : List Nat) (p b l f : Nat) : Nat × Int := if flowC (okB cs p b l) f (mostW p b) = 0 then (holdB (difB 1065353216 (divB f b)), 0) else (0, flowC (okB cs p b l) f (mostW p b))
theorem vJamShare_good (cs : List Nat) (p b l f : Nat) : (vJamShare cs p b l f).1 < 4294967296 ∧ nanB (vJamShare cs p b l f).1 = false := by
  unfold vJamShare
  split
  · exact nan_le (holdB_le _) (by omega)
  · exact ⟨show 0 < 4294967296 by decide, show nanB 0 = false by decide⟩
theorem JamShare_any (cs : List Nat) (p b l : Nat) (hl : cs.length = 16) (hc : ∀ x ∈ cs, x < 4294967296) (hp : p < 4294967296) (hb : b < 4294967296) (hla : l < 4294967296) (f : Nat) (hf : f < 4294967296) (w : World) :
    Calls Try.prog 32 #[.agg (rd cs p b l), .float .f32 f] w fun e w' => e = .returned (.tuple #[.float .f32 (vJamShare cs p b l f).1, .int .i64 (vJamShare cs p b l f).2]) ∧ Below w.heap.size w w' := by
  have A0 := At.new w (rd cs p b l) 31
  have KR := refusalOfFlow_any cs p b l hl hc hp hb hla f hf (w.alloc (.cells (rd cs p b l) 31))
  by_cases h : flowC (okB cs p b l) f (mostW p b) = 0
  · have e : (vJamShare cs p b l f) = (holdB (difB 1065353216 (divB f b)), 0) := by unfold vJamShare; rw [if_pos h]
    have hz := flowC_zero h
    have ok := OkR.of hl hz.1
    have f1 : ∀ t w, (binOp .quo t (.float .f32 f) (.float .f32 b)).run Try.prog w = .ok (.float .f32 (divB f b)) w := fun t w => run_float_arith w .quo t .f32 _ _ _ (jam_facts ok hz.2.2).1
    have f2 : ∀ t w, (binOp .sub t (.float .f32 1065353216) (.float .f32 (divB f b))).run Try.prog w = .ok (.float .f32 (difB 1065353216 (divB f b))) w := fun t w => run_float_arith w .sub t .f32 _ _ _ (jam_facts ok hz.2.2).2.1
    have SG := (jam_facts ok hz.2.2).2.2
    rw [h] at KR
    rw [e]
    have HZ := Lib.hid hz
    clear e hz
    go_enter Try.func32, Try.ntmps32
    go_wp2_with (((with_reducible refine is_load 31 _ rfl ?_); refine wpList_load_at rfl 31 _ rfl _ rfl (rd cs p b l) _ (by assumption) 19 (rd_size hl p b l) _ Try.underlying31 rfl (by kernel_rfl) ?_))
    refine KR.mono ?_
    rintro e' w1 ⟨rfl, hb1⟩
    have A1 := A0.step hb1
    have B1 := Lib.hid (bthen (b0 w (.cells (rd cs p b l) 31)) hb1)
    clear KR A0 hb1
    go_wp2_with fail
    refine (holdBetween_any w1).mono ?_
    rintro e' w2 ⟨rfl, rfl⟩
    have A2 := A1.step (boundsW_below w1)
    have B2 := Lib.hid (bthen B1.out (boundsW_below w1))
    have c2 := A2.cell (rd_back hl p b l)
    have K := hold_any w1.heap.size (w1.heap.size + 1) (difB 1065353216 (divB f b)) SG _ (boundsW_0 w1) (boundsW_1 w1)
    clear A1 B1 A2
    go_wp2_with fail
    refine K.mono ?_
    rintro e' w3 ⟨rfl, rfl⟩
    clear K
    go_wp2_with fail
    go_ret2
    exact ⟨rfl, B2.out⟩
  · have e : (vJamShare cs p b l f) = (0, flowC (okB cs p b l) f (mostW p b)) := by unfold vJamShare; rw [if_neg h]
    rw [e]
    generalize flowC (okB cs p b l) f (mostW p b) = c at KR h ⊢
    clear e
    go_enter Try.func32, Try.ntmps32
    go_wp2_with (((with_reducible refine is_load 31 _ rfl ?_); refine wpList_load_at rfl 31 _ rfl _ rfl (rd cs p b l) _ (by assumption) 19 (rd_size hl p b l) _ Try.underlying31 rfl (by kernel_rfl) ?_))
    refine KR.mono ?_
    rintro e' w1 ⟨rfl, hb1⟩
    clear KR
    go_wp2_with fail
    go_ret2
    exact ⟨rfl, bthen (b0 _ _) hb1⟩
theorem sJamShare_any (cs : List Nat) (p b l : Nat) (hl : cs.length = 16) (hc : ∀ x ∈ cs, x < 4294967296) (hp : p < 4294967296) (hb : b < 4294967296) (hla : l < 4294967296) (f : Nat) (hf : f < 4294967296) (w : World) :
    Calls Try.prog 31 #[.agg (rd cs p b l), .float .f32 f] w fun e w' => e = .returned (.tuple #[.float .f32 (vJamShare cs p b l f).1, .int .i64 (vJamShare cs p b l f).2]) ∧ Below w.heap.size w w' := by
  have hr := RoadAt.new w cs p b l 31
  have A0 := At.new w (rd cs p b l) 31
  have KR := l02Flow_any _ cs p b l hl hc hp hb hla f hf _ hr
  by_cases h : flowC (okB cs p b l) f (mostW p b) = 0
  · have e : (vJamShare cs p b l f) = (holdB (difB 1065353216 (divB f b)), 0) := by unfold vJamShare; rw [if_pos h]
    have hz := flowC_zero h
    have ok := OkR.of hl hz.1
    have f1 : ∀ t w, (binOp .quo t (.float .f32 f) (.float .f32 b)).run Try.prog w = .ok (.float .f32 (divB f b)) w := fun t w => run_float_arith w .quo t .f32 _ _ _ (jam_facts ok hz.2.2).1
    have f2 : ∀ t w, (binOp .sub t (.float .f32 1065353216) (.float .f32 (divB f b))).run Try.prog w = .ok (.float .f32 (difB 1065353216 (divB f b))) w := fun t w => run_float_arith w .sub t .f32 _ _ _ (jam_facts ok hz.2.2).2.1
    have SG := (jam_facts ok hz.2.2).2.2
    rw [h] at KR
    rw [e]
    have HZ := Lib.hid hz
    clear e hz
    go_enter Try.func31, Try.ntmps31
    go_wp2_with fail
    refine KR.mono ?_
    rintro e' w1 ⟨rfl, n1, rfl⟩
    have c2 := (A0.drewN n1).cell (rd_back hl p b l)
    clear KR
    go_wp2_with fail
    refine (l02Held_any (difB 1065353216 (divB f b)) SG _).mono ?_
    rintro e' w3 ⟨rfl, rfl⟩
    go_wp2_with fail
    go_ret2
    exact ⟨rfl, bdrew (b0 _ _) _⟩
  · have e : (vJamShare cs p b l f) = (0, flowC (okB cs p b l) f (mostW p b)) := by unfold vJamShare; rw [if_neg h]
    rw [e]
    generalize flowC (okB cs p b l) f (mostW p b) = c at KR h ⊢
    clear e
    go_enter Try.func31, Try.ntmps31
    go_wp2_with fail
    refine KR.mono ?_
    rintro e' w1 ⟨rfl, n1, rfl⟩
    clear KR
    go_wp2_with fail
    go_ret2
    exact ⟨rfl, bdrew (b0 _ _) _⟩
end Go.Proofs.Ytldgacihegibmaa
