/-
  SEVERAL TEXTS IN ONE.
-/
import Derived.Test.YtiaflomabgnmaaaFlowShare
import Derived.Test.YtiaflomabgnmaaaG10
import Derived.Test.YtiaflomabgnmaaaG9
import Derived.Test.YtiaflomabgnmaaaG4

/-
  CONTRACTS: StillShare, JamShare.
-/
namespace Go.Proofs.Ytiaflomabgnmaaa
open Go Go.RowKit
set_option maxRecDepth 100000

theorem refusalOfFlow_any (cs : List Nat) (p b l : Nat) (hl : cs.length = 16) (hc : ∀ x ∈ cs, x < 4294967296) (hp : p < 4294967296) (hb : b < 4294967296) (hla : l < 4294967296) (f : Nat) (hf : f < 4294967296) (w : World) :
    Calls Try.prog 19 #[.agg (rd cs p b l), .float .f32 f] w fun e w' => e = .returned (.int .i64 (flowC (okB cs p b l) f (mostW p b))) ∧ Below w.heap.size w w' := by
  have hmf : ∀ (fn : Fn) (first cap : Array Value) (w : World), (Instr.makeFunc fn first cap).run Try.prog w = .ok (.func fn first cap) w := fun _ _ _ _ => rfl
  have A0 : At ((w.alloc (.cells (rd cs p b l) 28)).alloc (.cells #[.float .f32 f] 24)) w.heap.size (rd cs p b l) 28 := (At.new w _ _).alloc _
  have O0 : At ((w.alloc (.cells (rd cs p b l) 28)).alloc (.cells #[.float .f32 f] 24)) (w.heap.size + 1) #[.float .f32 f] 24 := At.last1 w _ _ _
  have KR := refusalOf_any 34 _ _ _ (fun _ => by kernel_rfl) fun w1 h1 => flowChk_any _ _ cs p b l hl hc hp hb hla f hf w1 (A0.step h1) (O0.step h1)
  have B0 := Lib.hid (bnew (b0 w (.cells (rd cs p b l) 28)) (.cells #[.float .f32 f] 24))
  go_enter Try.func19, Try.ntmps19
  go_wp2_with fail
  refine KR.mono ?_
  rintro e w1 ⟨rfl, hb1⟩
  go_wp2
  go_ret
  exact ⟨rfl, bthen B0.out hb1⟩

theorem still_facts {cs : List Nat} {p b l f : Nat} (ok : OkR cs p b l) (hf : f < 2139095040) : floatBits .quo .f32 f p = some (divB f p) ∧ Sgn (divB f p) := by
  have hp := ok.pace
  have := div_some hf (show p < 2139095040 by omega) (by omega)
  exact ⟨this.1, .inl this.2⟩

theorem jam_facts {cs : List Nat} {p b l f : Nat} (ok : OkR cs p b l) (hf : f ≤ mostW p b) : floatBits .quo .f32 f b = some (divB f b) ∧ floatBits .sub .f32 1065353216 (divB f b) = some (difB 1065353216 (divB f b)) ∧ Sgn (difB 1065353216 (divB f b)) := by
  have hb := ok.back
  have hm := mostW_le ok.pace ok.back
  have h1 := div_some (show f < 2139095040 by omega) (show b < 2139095040 by omega) (by omega)
  have h2 : divB f b ≤ 1115684864 := by
    refine div_le (by omega) (by omega) (by omega) ?_
    have e1 : rv 23 f ≤ 2 ^ 149 := by have := rv_le (p := 23) (show f ≤ 1065353216 by omega); rwa [rv_one] at this
    have e2 : rv 23 1015021568 ≤ rv 23 b := rv_le hb.1
    have e3 : rv 23 1015021568 = 2 ^ 143 := by decide
    have e4 : rv 23 1115684864 = 2 ^ 155 := by decide
    rw [e3] at e2
    rw [e4]
    calc rv 23 f * 2 ^ 149 ≤ 2 ^ 149 * 2 ^ 149 := Nat.mul_le_mul_right _ e1
      _ = 2 ^ 155 * 2 ^ 143 := by decide
      _ ≤ 2 ^ 155 * rv 23 b := Nat.mul_le_mul_left _ e2
  exact ⟨h1.1, dif_eq (by omega) (by omega), dif_sgn (by omega) (by omega)⟩

def vStillShare (cs : List Nat) (p b l f : Nat) : Nat × Int := if flowC (okB cs p b l) f (mostW p b) = 0 then (holdB (divB f p), 0) else (0, flowC (okB cs p b l) f (mostW p b))

theorem vStillShare_good (cs : List Nat) (p b l f : Nat) : (vStillShare cs p b l f).1 < 4294967296 ∧ nanB (vStillShare cs p b l f).1 = false := by
  unfold vStillShare
  split
  · exact nan_le (holdB_le _) (by omega)
  · exact ⟨show 0 < 4294967296 by decide, show nanB 0 = false by decide⟩

theorem StillShare_any (cs : List Nat) (p b l : Nat) (hl : cs.length = 16) (hc : ∀ x ∈ cs, x < 4294967296) (hp : p < 4294967296) (hb : b < 4294967296) (hla : l < 4294967296) (f : Nat) (hf : f < 4294967296) (w : World) :
    Calls Try.prog 8 #[.agg (rd cs p b l), .float .f32 f] w fun e w' => e = .returned (.tuple #[.float .f32 (vStillShare cs p b l f).1, .int .i64 (vStillShare cs p b l f).2]) ∧ Below w.heap.size w w' := by
  have A0 := At.new w (rd cs p b l) 28
  have KR := refusalOfFlow_any cs p b l hl hc hp hb hla f hf (w.alloc (.cells (rd cs p b l) 28))
  by_cases h : flowC (okB cs p b l) f (mostW p b) = 0
  · have e : (vStillShare cs p b l f) = (holdB (divB f p), 0) := by unfold vStillShare; rw [if_pos h]
    have hz := flowC_zero h
    have ok := OkR.of hl hz.1
    have f1 : ∀ t w, (binOp .quo t (.float .f32 f) (.float .f32 p)).run Try.prog w = .ok (.float .f32 (divB f p)) w := fun t w => run_float_arith w .quo t .f32 _ _ _ (still_facts ok hz.2.1).1
    have SG := (still_facts ok hz.2.1).2
    rw [h] at KR
    rw [e]
    have HZ := Lib.hid hz
    clear e hz
    go_enter Try.func8, Try.ntmps8
    go_wp2_with (((with_reducible refine is_load 28 _ rfl ?_); refine wpList_load_at rfl 28 _ rfl _ rfl (rd cs p b l) _ (by assumption) 19 (rd_size hl p b l) _ Try.underlying28 rfl (by kernel_rfl) ?_))
    refine KR.mono ?_
    rintro e' w1 ⟨rfl, hb1⟩
    have A1 := A0.step hb1
    have B1 := Lib.hid (bthen (b0 w (.cells (rd cs p b l) 28)) hb1)
    clear KR A0 hb1
    go_wp2_with fail
    refine (holdBetween_any w1).mono ?_
    rintro e' w2 ⟨rfl, rfl⟩
    have A2 := A1.step (boundsW_below w1)
    have B2 := Lib.hid (bthen B1.out (boundsW_below w1))
    have c2 := A2.cell (rd_pace hl p b l)
    have K := hold_any w1.heap.size (w1.heap.size + 1) (divB f p) SG _ (boundsW_0 w1) (boundsW_1 w1)
    clear A1 B1 A2
    go_wp2_with fail
    refine K.mono ?_
    rintro e' w3 ⟨rfl, rfl⟩
    clear K
    go_wp2_with fail
    go_ret2
    exact ⟨rfl, B2.out⟩
  · have e : (vStillShare cs p b l f) = (0, flowC (okB cs p b l) f (mostW p b)) := by unfold vStillShare; rw [if_neg h]
    rw [e]
    generalize flowC (okB cs p b l) f (mostW p b) = c at KR h ⊢
    clear e
    go_enter Try.func8, Try.ntmps8
    go_wp2_with (((with_reducible refine is_load 28 _ rfl ?_); refine wpList_load_at rfl 28 _ rfl _ rfl (rd cs p b l) _ (by assumption) 19 (rd_size hl p b l) _ Try.underlying28 rfl (by kernel_rfl) ?_))
    refine KR.mono ?_
    rintro e' w1 ⟨rfl, hb1⟩
    clear KR
    go_wp2_with fail
    go_ret2
    exact ⟨rfl, bthen (b0 _ _) hb1⟩

def vJamShare (cs : List Nat) (p b l f : Nat) : Nat × Int := if flowC (okB cs p b l) f (mostW p b) = 0 then (holdB (difB 1065353216 (divB f b)), 0) else (0, flowC (okB cs p b l) f (mostW p b))

theorem vJamShare_good (cs : List Nat) (p b l f : Nat) : (vJamShare cs p b l f).1 < 4294967296 ∧ nanB (vJamShare cs p b l f).1 = false := by
  unfold vJamShare
  split
  · exact nan_le (holdB_le _) (by omega)
  · exact ⟨show 0 < 4294967296 by decide, show nanB 0 = false by decide⟩

theorem JamShare_any (cs : List Nat) (p b l : Nat) (hl : cs.length = 16) (hc : ∀ x ∈ cs, x < 4294967296) (hp : p < 4294967296) (hb : b < 4294967296) (hla : l < 4294967296) (f : Nat) (hf : f < 4294967296) (w : World) :
    Calls Try.prog 9 #[.agg (rd cs p b l), .float .f32 f] w fun e w' => e = .returned (.tuple #[.float .f32 (vJamShare cs p b l f).1, .int .i64 (vJamShare cs p b l f).2]) ∧ Below w.heap.size w w' := by
  have A0 := At.new w (rd cs p b l) 28
  have KR := refusalOfFlow_any cs p b l hl hc hp hb hla f hf (w.alloc (.cells (rd cs p b l) 28))
  by_cases h : flowC (okB cs p b l) f (mostW p b) = 0
  · have e : (vJamShare cs p b l f) = (holdB (difB 1065353216 (divB f b)), 0) := by unfold vJamShare; rw [if_pos h]
    have hz := flowC_zero h
    have ok := OkR.of hl hz.1
    have f1 : ∀ t w, (binOp .quo t (.float .f32 f) (.float .f32 b)).run Try.prog w = .ok (.float .f32 (divB f b)) w := fun t w => run_float_arith w .quo t .f32 _ _ _ (jam_facts ok hz.2.2).1
    have f2 : ∀ t w, (binOp .sub t (.float .f32 1065353216) (.float .f32 (divB f b))).run Try.prog w = .ok (.float .f32 (difB 1065353216 (divB f b))) w := fun t w => run_float_arith w .sub t .f32 _ _ _ (jam_facts ok hz.2.2).2.1
    have SG := (jam_facts ok hz.2.2).2.2
    rw [h] at KR
    rw [e]
    have HZ := Lib.hid hz
    clear e hz
    go_enter Try.func9, Try.ntmps9
    go_wp2_with (((with_reducible refine is_load 28 _ rfl ?_); refine wpList_load_at rfl 28 _ rfl _ rfl (rd cs p b l) _ (by assumption) 19 (rd_size hl p b l) _ Try.underlying28 rfl (by kernel_rfl) ?_))
    refine KR.mono ?_
    rintro e' w1 ⟨rfl, hb1⟩
    have A1 := A0.step hb1
    have B1 := Lib.hid (bthen (b0 w (.cells (rd cs p b l) 28)) hb1)
    clear KR A0 hb1
    go_wp2_with fail
    refine (holdBetween_any w1).mono ?_
    rintro e' w2 ⟨rfl, rfl⟩
    have A2 := A1.step (boundsW_below w1)
    have B2 := Lib.hid (bthen B1.out (boundsW_below w1))
    have c2 := A2.cell (rd_back hl p b l)
    have K := hold_any w1.heap.size (w1.heap.size + 1) (difB 1065353216 (divB f b)) SG _ (boundsW_0 w1) (boundsW_1 w1)
    clear A1 B1 A2
    go_wp2_with fail
    refine K.mono ?_
    rintro e' w3 ⟨rfl, rfl⟩
    clear K
    go_wp2_with fail
    go_ret2
    exact ⟨rfl, B2.out⟩
  · have e : (vJamShare cs p b l f) = (0, flowC (okB cs p b l) f (mostW p b)) := by unfold vJamShare; rw [if_neg h]
    rw [e]
    generalize flowC (okB cs p b l) f (mostW p b) = c at KR h ⊢
    clear e
    go_enter Try.func9, Try.ntmps9
    go_wp2_with (((with_reducible refine is_load 28 _ rfl ?_); refine wpList_load_at rfl 28 _ rfl _ rfl (rd cs p b l) _ (by assumption) 19 (rd_size hl p b l) _ Try.underlying28 rfl (by kernel_rfl) ?_))
    refine KR.mono ?_
    rintro e' w1 ⟨rfl, hb1⟩
    clear KR
    go_wp2_with fail
    go_ret2
    exact ⟨rfl, bthen (b0 _ _) hb1⟩

end Go.Proofs.Ytiaflomabgnmaaa

/-
  CONTRACTS: the program's and the model's functions from a road to a number and a code.
-/
namespace Go.Proofs.Ytiaflomabgnmaaa
open Go Go.RowKit

def vBestShare (cs : List Nat) (p b l : Nat) : Nat × Int := if okB cs p b l then (bestW p b, 0) else (0, 1)

theorem vBestShare_yes {cs : List Nat} {p b l : Nat} (h : okB cs p b l = true) : vBestShare cs p b l = (bestW p b, 0) := by unfold vBestShare; rw [if_pos h]

theorem vBestShare_no {cs : List Nat} {p b l : Nat} (h : okB cs p b l = false) : vBestShare cs p b l = (0, 1) := by unfold vBestShare; rw [h]; rfl

def vMostFlow (cs : List Nat) (p b l : Nat) : Nat × Int := if okB cs p b l then (mostW p b, 0) else (0, 1)

theorem vMostFlow_yes {cs : List Nat} {p b l : Nat} (h : okB cs p b l = true) : vMostFlow cs p b l = (mostW p b, 0) := by unfold vMostFlow; rw [if_pos h]

theorem vMostFlow_no {cs : List Nat} {p b l : Nat} (h : okB cs p b l = false) : vMostFlow cs p b l = (0, 1) := by unfold vMostFlow; rw [h]; rfl

theorem MostFlow_any (cs : List Nat) (p b l : Nat) (hl : cs.length = 16) (hc : ∀ x ∈ cs, x < 4294967296) (hp : p < 4294967296) (hb : b < 4294967296) (hla : l < 4294967296) (w : World) :
    Calls Try.prog 6 #[.agg (rd cs p b l)] w fun e w' => e = .returned (.tuple #[.float .f32 (vMostFlow cs p b l).1, .int .i64 (vMostFlow cs p b l).2]) ∧ Below w.heap.size w w' := by
  have A0 := At.new w (rd cs p b l) 28
  cases h : okB cs p b l
  · rw [vMostFlow_no h]
    go_enter Try.func6, Try.ntmps6
    go_wp2_with (((with_reducible refine is_load 28 _ rfl ?_); refine wpList_load_at rfl 28 _ rfl _ rfl (rd cs p b l) _ (by assumption) 19 (rd_size hl p b l) _ Try.underlying28 rfl (by kernel_rfl) ?_))
    refine (ValidRoad_any cs p b l hl hc hp hb hla _).mono ?_
    rintro e w1 ⟨rfl, hb1⟩
    go_wp2_with fail
    go_ret2
    exact ⟨rfl, bthen (b0 _ _) hb1⟩
  · rw [vMostFlow_yes h]
    have ok := OkR.of hl h
    go_enter Try.func6, Try.ntmps6
    go_wp2_with (((with_reducible refine is_load 28 _ rfl ?_); refine wpList_load_at rfl 28 _ rfl _ rfl (rd cs p b l) _ (by assumption) 19 (rd_size hl p b l) _ Try.underlying28 rfl (by kernel_rfl) ?_))
    refine (ValidRoad_any cs p b l hl hc hp hb hla _).mono ?_
    rintro e w1 ⟨rfl, hb1⟩
    have A1 := A0.step hb1
    go_wp2_with (((with_reducible refine is_load 28 _ rfl ?_); refine wpList_load_at rfl 28 _ rfl _ rfl (rd cs p b l) _ (by assumption) 19 (rd_size hl p b l) _ Try.underlying28 rfl (by kernel_rfl) ?_))
    refine (mostFlow_any cs p b l ok _).mono ?_
    rintro e w2 ⟨rfl, hb2⟩
    go_wp2_with fail
    go_ret2
    exact ⟨rfl, bthen (bthen (b0 _ _) hb1) hb2⟩

theorem vBestShare_good {cs : List Nat} (hl : cs.length = 16) (p b l : Nat) : (vBestShare cs p b l).1 < 4294967296 ∧ nanB (vBestShare cs p b l).1 = false := by
  cases h : okB cs p b l
  · rw [vBestShare_no h]; exact ⟨by decide, by decide⟩
  · rw [vBestShare_yes h]; have ok := OkR.of hl h; exact nan_le (bestW_le ok.pace ok.back) (by omega)

theorem vMostFlow_good {cs : List Nat} (hl : cs.length = 16) (p b l : Nat) : (vMostFlow cs p b l).1 < 4294967296 ∧ nanB (vMostFlow cs p b l).1 = false := by
  cases h : okB cs p b l
  · rw [vMostFlow_no h]; exact ⟨by decide, by decide⟩
  · rw [vMostFlow_yes h]; have ok := OkR.of hl h; exact nan_le (mostW_le ok.pace ok.back) (by omega)
end Go.Proofs.Ytiaflomabgnmaaa
