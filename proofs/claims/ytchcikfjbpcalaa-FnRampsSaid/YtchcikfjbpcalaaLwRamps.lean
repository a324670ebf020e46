/-
  FnRamps: what joins is at most what is offered and what fits; no joining steps as a road without a ramp; the program steps and smooths as the model; smoothed shares lie between their neighbours, nearly. No condition.
-/
import Derived.Test.YtchcikfjbpcalaaLawB
import Derived.Test.YtchcikfjbpcalaaDrawn
import Derived.Test.YtchcikfjbpcalaaA2
import Derived.Test.YtchcikfjbpcalaaG10
import Derived.Test.YtchcikfjbpcalaaG11
import Derived.Test.YtchcikfjbpcalaaG9
import Derived.Test.YtchcikfjbpcalaaFluxesOf
import Derived.Test.YtchcikfjbpcalaaSmoothRoad
import Derived.Test.YtchcikfjbpcalaaG12
namespace Go.Proofs.Ytchcikfjbpcalaa.lawFnRamps
open Go Go.ChangeShapes Go.WideShapes Go.ChangeAt Go.RowKit

set_option maxRecDepth 100000
theorem smooth_rows {cs : List Nat} {p b l : Nat} (ok : OkR cs p b l) : (∀ x ∈ smoothL cs, x ≤ 1065353216) ∧ ∀ j, j < 14 → nth (smoothL cs) (j + 1) ≤ 1065353216 ∧ rv 23 (min (min (nth cs j) (nth cs (j + 1))) (nth cs (j + 1 + 1))) ≤ rv 23 (nth (smoothL cs) (j + 1)) + 8 * gG ∧ rv 23 (nth (smoothL cs) (j + 1)) ≤ rv 23 (max (max (nth cs j) (nth cs (j + 1))) (nth cs (j + 1 + 1))) + 8 * gG := by
  have hm : ∀ j, smoothC cs j ≤ 1065353216 ∧ rv 23 (min (min (nth cs j) (nth cs (j + 1))) (nth cs (j + 1 + 1))) ≤ rv 23 (smoothC cs j) + 8 * gG ∧ rv 23 (smoothC cs j) ≤ rv 23 (max (max (nth cs j) (nth cs (j + 1))) (nth cs (j + 1 + 1))) + 8 * gG := fun j => smooth_near (ok.car j) (ok.car (j + 1)) (ok.car (j + 1 + 1)) rfl
  refine ⟨fun x hx => ?_, fun j hj => by rw [smoothL_mid cs (by omega)]; exact hm j⟩
  unfold smoothL at hx
  obtain ⟨k, hk, rfl⟩ := rowOf_mem hx
  split
  · exact ok.car 0
  · split
    · exact ok.car 15
    · exact (hm (k - 1)).1

theorem ne_self {x : Nat} (h : x < 2139095040) : (FloatKind.f32.format.order x x != some .eq) = false := by
  have := eq_amt (x := x) (y := x) (by omega) (by omega)
  rw [decide_eq_true rfl] at this
  exact congrArg not this

theorem nth_left {a b : List Nat} {k : Nat} (h : k < a.length) : nth (a ++ b) k = nth a k := by
  unfold nth; simp only [List.getD]; rw [List.getElem?_append_left h]

theorem hold {p : Prop} (h : Hid p) : p := h.out

theorem is_dst {P : Program} {ops : Array Oper} {rest : List Oper} {o : Oper} {a : Act} {w : World} {Q : Exit → Act → World → Prop} (n : Nat) (_ho : o.dst = some n) (h : wpList P ops Q (o :: rest) a w) : wpList P ops Q (o :: rest) a w := h

theorem wpList_quiet {P : Program} {ops : Array Oper} {C : World → Prop} {Q : Exit → Act → World → Prop} : ∀ (l : List Oper) (a : Act) (w : World), C w → wpQuiet P ops C (fun a' => ∀ w', C w' → Q .normal a' w') l a → wpList P ops Q l a w
  | [], _, w, hC, h => h w hC
  | o :: rest, a, w, hC, h => by
    unfold wpList
    unfold wpQuiet at h
    by_cases hw : Region.wanted o (yielded ops a.tmps) = true
    · rw [if_pos hw] at h ⊢
      obtain ⟨v, h1, h2⟩ := h
      refine Or.inl ?_
      have k := h1 w hC
      unfold Oper.quietAt at k
      show o.upon P a _ Q ((execOp a.eval o).run P w)
      generalize (execOp a.eval o).run P w = r at k ⊢
      unfold Oper.quietUpon at k
      split at k
      · obtain ⟨rfl, rfl⟩ := k
        exact wpList_quiet rest _ _ hC h2
      · obtain ⟨rfl, rfl⟩ := k
        exact wpList_quiet rest _ _ hC h2
      · obtain ⟨rfl, k⟩ := k
        refine Calls.mono k ?_
        rintro e w'' ⟨rfl, hc⟩
        exact wpList_quiet rest _ _ hc h2
      · exact k.elim
    · rw [if_neg hw] at h ⊢
      exact wpList_quiet rest _ _ hC h

theorem run_rowR {W : World} {g : Nat} {c : Array Value} {T : TypeId} (h : At W g c T) (hs : c.size = 19) : (Instr.loadAt 28 (.pointer (some ⟨g, 0, none⟩))).run Try.prog W = .ok (.agg c) W := by
  have := run_loadAt_part (P := Try.prog) W g 0 19 28 c T (0, 0) _ h Try.underlying28 rfl (by kernel_rfl) (by omega)
  rwa [Nat.zero_add, Array.extract_eq_self_of_le (by omega)] at this

theorem lit19 {xs : List Nat} (h : xs.length = 19) : (#[.float .f32 (nth xs 0), .float .f32 (nth xs 1), .float .f32 (nth xs 2), .float .f32 (nth xs 3), .float .f32 (nth xs 4), .float .f32 (nth xs 5), .float .f32 (nth xs 6), .float .f32 (nth xs 7), .float .f32 (nth xs 8), .float .f32 (nth xs 9), .float .f32 (nth xs 10), .float .f32 (nth xs 11), .float .f32 (nth xs 12), .float .f32 (nth xs 13), .float .f32 (nth xs 14), .float .f32 (nth xs 15), .float .f32 (nth xs 16), .float .f32 (nth xs 17), .float .f32 (nth xs 18)] : Array Value) = fl xs := by
  match xs, h with
  | [a0, a1, a2, a3, a4, a5, a6, a7, a8, a9, a10, a11, a12, a13, a14, a15, a16, a17, a18], _ => rfl

set_option maxHeartbeats 8000000 in
theorem walk (W : World) (a0 : Option Addr) (c0 : Nat) (x0 : List Nat) (h0 : BSl W a0 x0) (a1 : Option Addr) (c1 : Nat) (x1 : List Nat) (h1 : BSl W a1 x1) :
    Calls Try.prog 3 #[.slice a0 x0.length c0, .slice a1 x1.length c1] W (True? W) := by
  have KL := a2Long_any a0 a1 x0.length c0 x1.length c1 W
  have BW := Lib.hid (Below.refl W.heap.size W)
  go_enter Try.func3, Try.ntmps3
  go_wp2_with fail
  refine KL.mono ?_
  rintro e w0 ⟨B, rfl, rfl⟩
  clear KL
  cases B
  case true =>
    go_wp2_with fail
    go_ret
    exact ⟨rfl, Below.refl _ _⟩
  go_wp2_with fail
  refine (A2Road_e a0 c0 x0 _ h0).mono ?_
  rintro e w1 ⟨cs, p, b, l, rfl, hl, hok, hb⟩
  have ok := OkR.of hl hok
  clear h0
  replace BW := Lib.hid (BW.out.trans (hb.mono BW.out.size))
  clear hb
  have L := At.new w1 (rd (zeros 16) 0 0 0) 28
  have A5 := L.setRow (rd cs p b l)
  replace BW := Lib.hid (bset (BW.out.alloc BW.out.size (.cells (rd (zeros 16) 0 0 0) 28)) (g := w1.heap.size) BW.out.size (rd cs p b l))
  have hone : (rd cs p b l).all (·.oneCell') = true := rd_one cs p b l
  go_wp2_with (first | fail | ((with_reducible refine is_store 28 (.tmp 5) (.tmp 43) rfl ?_); refine wpList_store_at rfl 28 (.tmp 5) (.tmp 43) rfl _ rfl (rd cs p b l) rfl (rd (zeros 16) 0 0 0) _ L 19 (rd_size hl p b l) (rd_size (zeros_len 16) 0 0 0) (by kernel_rfl) hone ?_))
  rw [show (#[.float .f32 0, .float .f32 0, .float .f32 0, .float .f32 0, .float .f32 0, .float .f32 0, .float .f32 0, .float .f32 0, .float .f32 0, .float .f32 0, .float .f32 0, .float .f32 0, .float .f32 0, .float .f32 0, .float .f32 0, .float .f32 0, .float .f32 0, .float .f32 0, .float .f32 0] : Array Value) = rd (zeros 16) 0 0 0 from by kernel_rfl]
  clear L hone
  generalize World.setRow _ _ _ = w2 at A5 BW ⊢
  have H2 := h1.step BW.out (Nat.le_refl _)
  refine (A2Share_e a1 c1 x1 _ H2).mono ?_
  rintro e w3 ⟨o, rfl, ho, hb⟩
  clear H2
  replace A5 := A5.step hb
  replace BW := Lib.hid (BW.out.trans (hb.mono BW.out.size))
  clear hb
  go_wp2_with fail
  have H3 := h1.step BW.out (Nat.le_refl _)
  refine (a2At_any H3 1 16 (by omega) (by omega) (by omega)).mono ?_
  rintro e w4 ⟨k, rfl, hk, rfl⟩
  go_wp2_with fail
  refine (a2At_any H3 2 17 (by omega) (by omega) (by omega)).mono ?_
  rintro e w5 ⟨m, rfl, hm, rfl⟩
  clear H3
  obtain ⟨j, hq, hj⟩ := q32_facts ⟨m, by omega⟩
  have hcv := run_conv64 (m : Int)
  have hqr : ∀ t W, (binOp .quo t (.float .f32 (FloatKind.f32.nearest (m : Int))) (.float .f32 1107296256)).run Try.prog W = .ok (.float .f32 j) W := fun t W => run_float_arith W .quo t .f32 _ _ _ hq
  clear hq
  go_wp2_with ((with_reducible refine is_load 28 _ rfl ?_); refine wpList_load_at rfl 28 _ rfl _ rfl (rd cs p b l) _ A5 19 (rd_size hl p b l) _ Try.underlying28 rfl (by kernel_rfl) ?_)
  clear hcv hqr
  have hcs16 := ok.cars
  have hc : ∀ x ∈ cs, x < 4294967296 := fun x hx => by have := hcs16 x hx; omega
  have hp := ok.pace
  have hb := ok.back
  have hla := ok.lanes
  have VR := ramp_val ok hok o j ho hj hk
  have VZ := ramp_val ok hok o 0 ho (by omega) hk
  rw [ramp_zero ok o 1065353216 hk, join_zero] at VZ
  have VS := step_val ok hok o ho
  have VF := flux_val ok hok o ho
  have VT := vTakesAt_yes (k := k) hok hk
  have VM := vSmooth_val (cs := cs) (p := p) (b := b) (l := l) hok
  have KR := fun w => RampStep_any cs p b l hl hc (by omega) (by omega) (by omega) (k : Int) (by omega) o 1065353216 j (by omega) (by omega) (by omega) w
  have KRs := fun w => sRampStep_any cs p b l hl hc (by omega) (by omega) (by omega) (k : Int) (by omega) o 1065353216 j (by omega) (by omega) (by omega) w
  have KZ := fun w => RampStep_any cs p b l hl hc (by omega) (by omega) (by omega) (k : Int) (by omega) o 1065353216 0 (by omega) (by omega) (by omega) w
  have KP := fun w => StepRoad_any cs p b l hl hc (by omega) (by omega) (by omega) o (by omega) 1065353216 (by omega) w
  have KT := fun w => TakesAt_any cs p b l hl hc (by omega) (by omega) (by omega) (k : Int) (by omega) w
  have KF := fun w => FluxesOf_any cs p b l hl hc (by omega) (by omega) (by omega) o 1065353216 (by omega) (by omega) w
  have KM := fun w => SmoothRoad_any cs p b l hl hc (by omega) (by omega) (by omega) w
  have KMs := fun w => sSmoothRoad_any cs p b l hl hc (by omega) (by omega) (by omega) w
  rw [VR] at KR KRs
  rw [VZ] at KZ
  rw [VS] at KP
  rw [VT] at KT
  rw [VF] at KF
  rw [VM] at KM KMs
  clear VR VZ VS VF VT VM
  have hJ := join_near ok o 1065353216 j hk
  have hJle := join_le p b cs o 1065353216 j k
  have hF := fluxL_le ok o 1065353216
  have hFl := fluxL_len p b cs o 1065353216
  have hF0 := hF _ (nth_mem (k := 0) (show 0 < (fluxL p b cs o 1065353216).length by omega))
  have hF16 := hF _ (nth_mem (k := 16) (show 16 < (fluxL p b cs o 1065353216).length by omega))
  have hS1 := stepL_len cs (rampIn p b cs o 1065353216 j k) (outL (fluxL p b cs o 1065353216))
  have hS2 := stepL_le cs (rampIn p b cs o 1065353216 j k) (outL (fluxL p b cs o 1065353216))
  have hN1 := nextL_len p b cs o 1065353216
  have hN2 : ∀ x ∈ nextL p b cs o 1065353216, x ≤ 1065353216 := stepL_le _ _ _
  rw [show stepL cs (intoL (fluxL p b cs o 1065353216)) (outL (fluxL p b cs o 1065353216)) = nextL p b cs o 1065353216 from rfl] at KZ
  generalize nextL p b cs o 1065353216 = SN at *
  generalize stepL cs (rampIn p b cs o 1065353216 j k) (outL (fluxL p b cs o 1065353216)) = SR at *
  generalize joinW p b cs o 1065353216 j k = jn at *
  generalize takesW p b (nth cs k) = tk at *
  generalize fluxL p b cs o 1065353216 = FX at *
  have hSc : ∀ x ∈ SR, x < 4294967296 := fun x hx => by have := hS2 x hx; omega
  have hNc : ∀ x ∈ SN, x < 4294967296 := fun x hx => by have := hN2 x hx; omega
  have KQ := fun w => sSameRoad_any SR p b l hS1 hSc (by omega) (by omega) (by omega) SR p b l hS1 hSc (by omega) (by omega) (by omega) w
  have KQN := fun w => sSameRoad_any SN p b l hN1 hNc (by omega) (by omega) (by omega) SN p b l hN1 hNc (by omega) (by omega) (by omega) w
  rw [sameR_self] at KQ KQN
  have q0 : (FloatKind.f32.format.order (nth FX 0) (nth FX 0) == some .eq) = true := by rw [eq_amt (by omega) (by omega)]; exact decide_eq_true rfl
  have q16 : (FloatKind.f32.format.order (nth FX 16) (nth FX 16) == some .eq) = true := by rw [eq_amt (by omega) (by omega)]; exact decide_eq_true rfl
  have qj : (FloatKind.f32.format.order jn jn == some .eq) = true := by rw [eq_amt (by omega) (by omega)]; exact decide_eq_true rfl
  have qz : (FloatKind.f32.format.order 0 0 == some .eq) = true := by decide
  have qg : (FloatKind.f32.format.order jn j == some .gt) = false := by rw [gt_amt (by omega) (by omega)]; exact decide_eq_false (by omega)
  have ql : (FloatKind.f32.format.order jn 0 == some .lt) = false := by rw [lt_amt (by omega) (by omega)]; exact decide_eq_false (by omega)
  have sR := rd_size hS1 p b l
  have sN := rd_size hN1 p b l
  obtain ⟨j1, j2, j3⟩ := hJ
  have HB := Lib.hid (And.intro hp (And.intro hb hla))
  have HL := Lib.hid (And.intro hS1 (And.intro hS2 (And.intro hN1 hN2)))
  clear hp hb hla hS1 hS2 hN1 hN2 hSc hNc hF0 hF16 hJle hj hm ho
  have HC := Lib.hid (And.intro hc hcs16)
  clear hc hcs16
  refine (KR _).mono ?_
  rintro e w6 ⟨rfl, hb⟩
  replace A5 := A5.step hb
  replace BW := Lib.hid (BW.out.trans (hb.mono BW.out.size))
  clear hb
  have L := At.new w6 (rd (zeros 16) 0 0 0) 28
  have A9 := L.setRow (rd SR p b l)
  replace A5 := (A5.alloc (.cells (rd (zeros 16) 0 0 0) 28)).setRow_other (k := w6.heap.size) (Nat.ne_of_lt A5.lt) (rd SR p b l)
  replace BW := Lib.hid (bset (BW.out.alloc BW.out.size (.cells (rd (zeros 16) 0 0 0) 28)) (g := w6.heap.size) BW.out.size (rd SR p b l))
  have hone : (rd SR p b l).all (·.oneCell') = true := rd_one SR p b l
  go_wp2_with (first | ((with_reducible refine is_load 28 _ rfl ?_); refine wpList_load_at rfl 28 _ rfl _ rfl (rd cs p b l) _ A5 19 (rd_size hl p b l) _ Try.underlying28 rfl (by kernel_rfl) ?_) | ((with_reducible refine is_store 28 (.tmp 9) (.tmp 58) rfl ?_); refine wpList_store_at rfl 28 (.tmp 9) (.tmp 58) rfl _ rfl (rd SR p b l) rfl (rd (zeros 16) 0 0 0) _ L 19 sR (rd_size (zeros_len 16) 0 0 0) (by kernel_rfl) hone ?_))
  rw [show (#[.float .f32 0, .float .f32 0, .float .f32 0, .float .f32 0, .float .f32 0, .float .f32 0, .float .f32 0, .float .f32 0, .float .f32 0, .float .f32 0, .float .f32 0, .float .f32 0, .float .f32 0, .float .f32 0, .float .f32 0, .float .f32 0, .float .f32 0, .float .f32 0, .float .f32 0] : Array Value) = rd (zeros 16) 0 0 0 from by kernel_rfl]
  clear L hone
  generalize World.setRow _ _ _ = w7 at A5 A9 BW ⊢
  refine (KRs _).mono ?_
  rintro e w8 ⟨rfl, hb⟩
  replace A5 := A5.step hb
  replace A9 := A9.step hb
  replace BW := Lib.hid (BW.out.trans (hb.mono BW.out.size))
  clear hb
  have L := At.new w8 (rd (zeros 16) 0 0 0) 28
  have A14 := L.setRow (rd SR p b l)
  replace A5 := (A5.alloc (.cells (rd (zeros 16) 0 0 0) 28)).setRow_other (k := w8.heap.size) (Nat.ne_of_lt A5.lt) (rd SR p b l)
  replace A9 := (A9.alloc (.cells (rd (zeros 16) 0 0 0) 28)).setRow_other (k := w8.heap.size) (Nat.ne_of_lt A9.lt) (rd SR p b l)
  replace BW := Lib.hid (bset (BW.out.alloc BW.out.size (.cells (rd (zeros 16) 0 0 0) 28)) (g := w8.heap.size) BW.out.size (rd SR p b l))
  have hone : (rd SR p b l).all (·.oneCell') = true := rd_one SR p b l
  go_wp2_with (first | ((with_reducible refine is_load 28 _ rfl ?_); refine wpList_load_at rfl 28 _ rfl _ rfl (rd cs p b l) _ A5 19 (rd_size hl p b l) _ Try.underlying28 rfl (by kernel_rfl) ?_) | ((with_reducible refine is_store 28 (.tmp 14) (.tmp 69) rfl ?_); refine wpList_store_at rfl 28 (.tmp 14) (.tmp 69) rfl _ rfl (rd SR p b l) rfl (rd (zeros 16) 0 0 0) _ L 19 sR (rd_size (zeros_len 16) 0 0 0) (by kernel_rfl) hone ?_))
  rw [show (#[.float .f32 0, .float .f32 0, .float .f32 0, .float .f32 0, .float .f32 0, .float .f32 0, .float .f32 0, .float .f32 0, .float .f32 0, .float .f32 0, .float .f32 0, .float .f32 0, .float .f32 0, .float .f32 0, .float .f32 0, .float .f32 0, .float .f32 0, .float .f32 0, .float .f32 0] : Array Value) = rd (zeros 16) 0 0 0 from by kernel_rfl]
  clear L hone
  generalize World.setRow _ _ _ = w9 at A5 A9 A14 BW ⊢
  refine (KP _).mono ?_
  rintro e w10 ⟨rfl, hb⟩
  replace A5 := A5.step hb
  replace A9 := A9.step hb
  replace A14 := A14.step hb
  replace BW := Lib.hid (BW.out.trans (hb.mono BW.out.size))
  clear hb
  have L := At.new w10 (rd (zeros 16) 0 0 0) 28
  have A19 := L.setRow (rd SN p b l)
  replace A5 := (A5.alloc (.cells (rd (zeros 16) 0 0 0) 28)).setRow_other (k := w10.heap.size) (Nat.ne_of_lt A5.lt) (rd SN p b l)
  replace A9 := (A9.alloc (.cells (rd (zeros 16) 0 0 0) 28)).setRow_other (k := w10.heap.size) (Nat.ne_of_lt A9.lt) (rd SN p b l)
  replace A14 := (A14.alloc (.cells (rd (zeros 16) 0 0 0) 28)).setRow_other (k := w10.heap.size) (Nat.ne_of_lt A14.lt) (rd SN p b l)
  replace BW := Lib.hid (bset (BW.out.alloc BW.out.size (.cells (rd (zeros 16) 0 0 0) 28)) (g := w10.heap.size) BW.out.size (rd SN p b l))
  have hone : (rd SN p b l).all (·.oneCell') = true := rd_one SN p b l
  go_wp2_with (first | ((with_reducible refine is_load 28 _ rfl ?_); refine wpList_load_at rfl 28 _ rfl _ rfl (rd cs p b l) _ A5 19 (rd_size hl p b l) _ Try.underlying28 rfl (by kernel_rfl) ?_) | ((with_reducible refine is_store 28 (.tmp 19) (.tmp 78) rfl ?_); refine wpList_store_at rfl 28 (.tmp 19) (.tmp 78) rfl _ rfl (rd SN p b l) rfl (rd (zeros 16) 0 0 0) _ L 19 sN (rd_size (zeros_len 16) 0 0 0) (by kernel_rfl) hone ?_))
  rw [show (#[.float .f32 0, .float .f32 0, .float .f32 0, .float .f32 0, .float .f32 0, .float .f32 0, .float .f32 0, .float .f32 0, .float .f32 0, .float .f32 0, .float .f32 0, .float .f32 0, .float .f32 0, .float .f32 0, .float .f32 0, .float .f32 0, .float .f32 0, .float .f32 0, .float .f32 0] : Array Value) = rd (zeros 16) 0 0 0 from by kernel_rfl]
  clear L hone
  generalize World.setRow _ _ _ = w11 at A5 A9 A14 A19 BW ⊢
  refine (KZ _).mono ?_
  rintro e w12 ⟨rfl, hb⟩
  replace A5 := A5.step hb
  replace A9 := A9.step hb
  replace A14 := A14.step hb
  replace A19 := A19.step hb
  replace BW := Lib.hid (BW.out.trans (hb.mono BW.out.size))
  clear hb
  have L := At.new w12 (rd (zeros 16) 0 0 0) 28
  have A23 := L.setRow (rd SN p b l)
  replace A5 := (A5.alloc (.cells (rd (zeros 16) 0 0 0) 28)).setRow_other (k := w12.heap.size) (Nat.ne_of_lt A5.lt) (rd SN p b l)
  replace A9 := (A9.alloc (.cells (rd (zeros 16) 0 0 0) 28)).setRow_other (k := w12.heap.size) (Nat.ne_of_lt A9.lt) (rd SN p b l)
  replace A14 := (A14.alloc (.cells (rd (zeros 16) 0 0 0) 28)).setRow_other (k := w12.heap.size) (Nat.ne_of_lt A14.lt) (rd SN p b l)
  replace A19 := (A19.alloc (.cells (rd (zeros 16) 0 0 0) 28)).setRow_other (k := w12.heap.size) (Nat.ne_of_lt A19.lt) (rd SN p b l)
  replace BW := Lib.hid (bset (BW.out.alloc BW.out.size (.cells (rd (zeros 16) 0 0 0) 28)) (g := w12.heap.size) BW.out.size (rd SN p b l))
  have hone : (rd SN p b l).all (·.oneCell') = true := rd_one SN p b l
  go_wp2_with (first | ((with_reducible refine is_load 28 _ rfl ?_); refine wpList_load_at rfl 28 _ rfl _ rfl (rd cs p b l) _ A5 19 (rd_size hl p b l) _ Try.underlying28 rfl (by kernel_rfl) ?_) | ((with_reducible refine is_store 28 (.tmp 23) (.tmp 87) rfl ?_); refine wpList_store_at rfl 28 (.tmp 23) (.tmp 87) rfl _ rfl (rd SN p b l) rfl (rd (zeros 16) 0 0 0) _ L 19 sN (rd_size (zeros_len 16) 0 0 0) (by kernel_rfl) hone ?_))
  rw [show (#[.float .f32 0, .float .f32 0, .float .f32 0, .float .f32 0, .float .f32 0, .float .f32 0, .float .f32 0, .float .f32 0, .float .f32 0, .float .f32 0, .float .f32 0, .float .f32 0, .float .f32 0, .float .f32 0, .float .f32 0, .float .f32 0, .float .f32 0, .float .f32 0, .float .f32 0] : Array Value) = rd (zeros 16) 0 0 0 from by kernel_rfl]
  clear L hone
  generalize World.setRow _ _ _ = w13 at A5 A9 A14 A19 A23 BW ⊢
  refine (KT _).mono ?_
  rintro e w14 ⟨rfl, hb⟩
  replace A5 := A5.step hb
  replace A9 := A9.step hb
  replace A14 := A14.step hb
  replace A19 := A19.step hb
  replace A23 := A23.step hb
  replace BW := Lib.hid (BW.out.trans (hb.mono BW.out.size))
  clear hb
  go_wp2_with ((with_reducible refine is_load 28 _ rfl ?_); refine wpList_load_at rfl 28 _ rfl _ rfl (rd cs p b l) _ A5 19 (rd_size hl p b l) _ Try.underlying28 rfl (by kernel_rfl) ?_)
  refine (KF _).mono ?_
  rintro e w15 ⟨rfl, hb⟩
  replace A5 := A5.step hb
  replace A9 := A9.step hb
  replace A14 := A14.step hb
  replace A19 := A19.step hb
  replace A23 := A23.step hb
  replace BW := Lib.hid (BW.out.trans (hb.mono BW.out.size))
  clear hb
  have L := At.new w15 (fl (zeros 17)) 38
  have A30 := L.setRow (fl FX)
  replace A5 := (A5.alloc (.cells (fl (zeros 17)) 38)).setRow_other (k := w15.heap.size) (Nat.ne_of_lt A5.lt) (fl FX)
  replace A9 := (A9.alloc (.cells (fl (zeros 17)) 38)).setRow_other (k := w15.heap.size) (Nat.ne_of_lt A9.lt) (fl FX)
  replace A14 := (A14.alloc (.cells (fl (zeros 17)) 38)).setRow_other (k := w15.heap.size) (Nat.ne_of_lt A14.lt) (fl FX)
  replace A19 := (A19.alloc (.cells (fl (zeros 17)) 38)).setRow_other (k := w15.heap.size) (Nat.ne_of_lt A19.lt) (fl FX)
  replace A23 := (A23.alloc (.cells (fl (zeros 17)) 38)).setRow_other (k := w15.heap.size) (Nat.ne_of_lt A23.lt) (fl FX)
  replace BW := Lib.hid (bset (BW.out.alloc BW.out.size (.cells (fl (zeros 17)) 38)) (g := w15.heap.size) BW.out.size (fl FX))
  have hone : (fl FX).all (·.oneCell') = true := fl_one FX
  go_wp2_with (first | fail | ((with_reducible refine is_store 38 (.tmp 30) (.tmp 102) rfl ?_); refine wpList_store_at rfl 38 (.tmp 30) (.tmp 102) rfl _ rfl (fl FX) rfl (fl (zeros 17)) _ L 17 (by rw [fl_size, hFl]) (by rw [fl_size]; rfl) (by kernel_rfl) hone ?_; refine hold ?_))
  rw [show (#[.float .f32 0, .float .f32 0, .float .f32 0, .float .f32 0, .float .f32 0, .float .f32 0, .float .f32 0, .float .f32 0, .float .f32 0, .float .f32 0, .float .f32 0, .float .f32 0, .float .f32 0, .float .f32 0, .float .f32 0, .float .f32 0, .float .f32 0] : Array Value) = fl (zeros 17) from by kernel_rfl]
  clear L hone
  generalize World.setRow _ _ _ = w16 at A5 A9 A14 A19 A23 A30 BW ⊢
  refine Lib.hid ?_
  clear KR KRs KZ KP KT KF
  have n0 : (FloatKind.f32.format.order (nth FX 0) (nth FX 0) != some .eq) = false := congrArg not q0
  have n16 : (FloatKind.f32.format.order (nth FX 16) (nth FX 16) != some .eq) = false := congrArg not q16
  have nj : (FloatKind.f32.format.order jn jn != some .eq) = false := congrArg not qj
  have nz : (FloatKind.f32.format.order 0 0 != some .eq) = false := congrArg not qz
  have s1 := fun t w => run_float_arith (P := Try.prog) w .add t .f32 _ _ _ j1
  have s2 := fun t w => run_float_arith (P := Try.prog) w .add t .f32 _ _ _ j2
  have kd : (k : Int) < 17 := by omega
  clear q0 q16 qj qz j1 j2
  refine wpList_quiet (C := Cb w16) _ _ _ ⟨rfl, rfl, rfl, Nat.le_refl _, fun _ _ => rfl⟩ ?_
  repeat (first | go_big_quiet_skip | (go_big_quiet_want; go_big_quiet_op; go_big_quiet_on))
  refine wpQuiet_nil ?_
  intro w17 hb
  replace A5 := A5.step hb
  replace A9 := A9.step hb
  replace A14 := A14.step hb
  replace A19 := A19.step hb
  replace A23 := A23.step hb
  replace A30 := A30.step hb
  replace BW := Lib.hid (BW.out.trans (hb.mono BW.out.size))
  clear hb
  rename_i K0 hK0
  change K0 _ _
  refine hK0 _ _ ?_
  apply wp_seq_k; intro K1 hK1
  apply wp_seq_k; intro K2 hK2
  first | refine wp_region_lit ?_ | refine wp_region_list ?_
  try dsimp only [List.append]
  have dF := fl_get (xs := FX) (k := k) (by omega)
  have hC := Cb.const w17
  refine wpList_quiet (C := Cb w17) _ _ _ ⟨rfl, rfl, rfl, Nat.le_refl _, fun _ _ => rfl⟩ ?_
  repeat (first
    | go_big_quiet_skip
    | (go_big_quiet_want; first
      | (refine q_row 28 _ rfl rfl A9 19 sR _ Try.underlying28 rfl (by kernel_rfl) ?_; go_simp; go_big_quiet_on)
      | (refine q_row 28 _ rfl rfl A14 19 sR _ Try.underlying28 rfl (by kernel_rfl) ?_; go_simp; go_big_quiet_on)
      | (refine q_row 28 _ rfl rfl A23 19 sN _ Try.underlying28 rfl (by kernel_rfl) ?_; go_simp; go_big_quiet_on)
      | (refine q_row 28 _ rfl rfl A19 19 sN _ Try.underlying28 rfl (by kernel_rfl) ?_; go_simp; go_big_quiet_on)
      | (refine q_cell 24 _ rfl _ Try.underlying24 _ rfl A30 _ dF ?_; go_simp; go_big_quiet_on)
      | (go_big_quiet_op; go_big_quiet_on)
      | (go_big_quiet_op; apply Exists.intro; refine ⟨fun w' hw' => ?_, ?_⟩; (go_at_call 13; first | exact (KQ _).mono fun _ _ h => ⟨h.1, hw'.step h.2⟩ | exact (KQN _).mono fun _ _ h => ⟨h.1, hw'.step h.2⟩); go_big_quiet_on)))
  refine wpQuiet_nil ?_
  intro w18 hb
  replace A5 := A5.step hb
  replace BW := Lib.hid (BW.out.trans (hb.mono BW.out.size))
  clear hb hC dF A9 A14 A19 A23 A30 KQ KQN sR sN
  change K2 _ _
  refine hK2 _ _ ?_
  have hSM := smooth_rows ok
  have hEn := smooth_end cs
  have hM1 := smoothL_len cs
  generalize smoothL cs = SM at KM KMs hSM hEn hM1
  obtain ⟨hM2, hMid⟩ := hSM
  have hMc : ∀ x ∈ SM, x < 4294967296 := fun x hx => by have := hM2 x hx; omega
  have KQ := fun w => sSameRoad_any SM p b l hM1 hMc (by have := HB.out; omega) (by have := HB.out; omega) (by have := HB.out; omega) SM p b l hM1 hMc (by have := HB.out; omega) (by have := HB.out; omega) (by have := HB.out; omega) w
  rw [sameR_self] at KQ
  have HMid := Lib.hid hMid
  have HEn := Lib.hid hEn
  clear hEn
  have sM := rd_size hM1 p b l
  clear hMid hMc hM2
  go_wp2_with ((with_reducible refine is_load 28 _ rfl ?_); refine wpList_load_at rfl 28 _ rfl _ rfl (rd cs p b l) _ A5 19 (rd_size hl p b l) _ Try.underlying28 rfl (by kernel_rfl) ?_)
  clear n0 n16 nj nz s1 s2 kd qg ql j3
  refine (KM _).mono ?_
  rintro e w19 ⟨rfl, hb⟩
  replace A5 := A5.step hb
  replace BW := Lib.hid (BW.out.trans (hb.mono BW.out.size))
  clear hb
  have L := At.new w19 (rd (zeros 16) 0 0 0) 28
  have A32 := L.setRow (rd SM p b l)
  replace A5 := (A5.alloc (.cells (rd (zeros 16) 0 0 0) 28)).setRow_other (k := w19.heap.size) (Nat.ne_of_lt A5.lt) (rd SM p b l)
  replace BW := Lib.hid (bset (BW.out.alloc BW.out.size (.cells (rd (zeros 16) 0 0 0) 28)) (g := w19.heap.size) BW.out.size (rd SM p b l))
  have hone : (rd SM p b l).all (·.oneCell') = true := rd_one SM p b l
  go_wp2_with (first | ((with_reducible refine is_load 28 _ rfl ?_); refine wpList_load_at rfl 28 _ rfl _ rfl (rd cs p b l) _ A5 19 (rd_size hl p b l) _ Try.underlying28 rfl (by kernel_rfl) ?_) | ((with_reducible refine is_store 28 (.tmp 32) (.tmp 190) rfl ?_); refine wpList_store_at rfl 28 (.tmp 32) (.tmp 190) rfl _ rfl (rd SM p b l) rfl (rd (zeros 16) 0 0 0) _ L 19 sM (rd_size (zeros_len 16) 0 0 0) (by kernel_rfl) hone ?_))
  rw [show (#[.float .f32 0, .float .f32 0, .float .f32 0, .float .f32 0, .float .f32 0, .float .f32 0, .float .f32 0, .float .f32 0, .float .f32 0, .float .f32 0, .float .f32 0, .float .f32 0, .float .f32 0, .float .f32 0, .float .f32 0, .float .f32 0, .float .f32 0, .float .f32 0, .float .f32 0] : Array Value) = rd (zeros 16) 0 0 0 from by kernel_rfl]
  clear L hone
  generalize World.setRow _ _ _ = w20 at A5 A32 BW ⊢
  refine (KMs _).mono ?_
  rintro e w21 ⟨rfl, hb⟩
  replace A5 := A5.step hb
  replace A32 := A32.step hb
  replace BW := Lib.hid (BW.out.trans (hb.mono BW.out.size))
  clear hb
  have L := At.new w21 (rd (zeros 16) 0 0 0) 28
  have A34 := L.setRow (rd SM p b l)
  replace A5 := (A5.alloc (.cells (rd (zeros 16) 0 0 0) 28)).setRow_other (k := w21.heap.size) (Nat.ne_of_lt A5.lt) (rd SM p b l)
  replace A32 := (A32.alloc (.cells (rd (zeros 16) 0 0 0) 28)).setRow_other (k := w21.heap.size) (Nat.ne_of_lt A32.lt) (rd SM p b l)
  replace BW := Lib.hid (bset (BW.out.alloc BW.out.size (.cells (rd (zeros 16) 0 0 0) 28)) (g := w21.heap.size) BW.out.size (rd SM p b l))
  have hone : (rd SM p b l).all (·.oneCell') = true := rd_one SM p b l
  go_wp2_with (first | fail | ((with_reducible refine is_store 28 (.tmp 34) (.tmp 195) rfl ?_); refine wpList_store_at rfl 28 (.tmp 34) (.tmp 195) rfl _ rfl (rd SM p b l) rfl (rd (zeros 16) 0 0 0) _ L 19 sM (rd_size (zeros_len 16) 0 0 0) (by kernel_rfl) hone ?_; refine hold ?_))
  rw [show (#[.float .f32 0, .float .f32 0, .float .f32 0, .float .f32 0, .float .f32 0, .float .f32 0, .float .f32 0, .float .f32 0, .float .f32 0, .float .f32 0, .float .f32 0, .float .f32 0, .float .f32 0, .float .f32 0, .float .f32 0, .float .f32 0, .float .f32 0, .float .f32 0, .float .f32 0] : Array Value) = rd (zeros 16) 0 0 0 from by kernel_rfl]
  clear L hone
  generalize World.setRow _ _ _ = w22 at A5 A32 A34 BW ⊢
  refine Lib.hid ?_
  clear KM KMs
  refine wpList_quiet (C := Cb w22) _ _ _ ⟨rfl, rfl, rfl, Nat.le_refl _, fun _ _ => rfl⟩ ?_
  repeat (first | go_big_quiet_skip | (go_big_quiet_want; go_big_quiet_op; go_big_quiet_on))
  refine wpQuiet_nil ?_
  intro w23 hb
  replace A5 := A5.step hb
  replace A32 := A32.step hb
  replace A34 := A34.step hb
  replace BW := Lib.hid (BW.out.trans (hb.mono BW.out.size))
  clear hb
  rename_i K0 hK0
  change K0 _ _
  refine hK0 _ _ ?_
  apply wp_seq_k; intro K1 hK1
  apply wp_seq_k; intro K2 hK2
  first | refine wp_region_lit ?_ | refine wp_region_list ?_
  try dsimp only [List.append]
  have e0 : (FloatKind.f32.format.order (nth SM 0) (nth cs 0) != some .eq) = false := by rw [HEn.out.1, ne_self (by have := ok.car 0; omega)]
  have e15 : (FloatKind.f32.format.order (nth SM 15) (nth cs 15) != some .eq) = false := by rw [HEn.out.2, ne_self (by have := ok.car 15; omega)]
  have da := rd_cell hM1 p b l (k := 0) (by omega)
  have db := rd_cell hM1 p b l (k := 15) (by omega)
  have dc := rd_cell hl p b l (k := 0) (by omega)
  have dd := rd_cell hl p b l (k := 15) (by omega)
  have hC := Cb.const w23
  refine wpList_quiet (C := Cb w23) _ _ _ ⟨rfl, rfl, rfl, Nat.le_refl _, fun _ _ => rfl⟩ ?_
  repeat (first
    | go_big_quiet_skip
    | (go_big_quiet_want; first
      | (refine q_row 28 _ rfl rfl A32 19 sM _ Try.underlying28 rfl (by kernel_rfl) ?_; go_simp; go_big_quiet_on)
      | (refine q_row 28 _ rfl rfl A34 19 sM _ Try.underlying28 rfl (by kernel_rfl) ?_; go_simp; go_big_quiet_on)
      | (refine q_cell 24 _ rfl _ Try.underlying24 _ rfl A34 _ da ?_; go_simp; go_big_quiet_on)
      | (refine q_cell 24 _ rfl _ Try.underlying24 _ rfl A34 _ db ?_; go_simp; go_big_quiet_on)
      | (refine q_cell 24 _ rfl _ Try.underlying24 _ rfl A5 _ dc ?_; go_simp; go_big_quiet_on)
      | (refine q_cell 24 _ rfl _ Try.underlying24 _ rfl A5 _ dd ?_; go_simp; go_big_quiet_on)
      | (go_big_quiet_op; go_big_quiet_on)
      | (go_big_quiet_op; apply Exists.intro; refine ⟨fun w' hw' => ?_, ?_⟩; (go_at_call 13; exact (KQ _).mono fun _ _ h => ⟨h.1, hw'.step h.2⟩); go_big_quiet_on)))
  refine wpQuiet_nil ?_
  intro w24 hb
  replace A5 := A5.step hb
  replace A34 := A34.step hb
  replace BW := Lib.hid (BW.out.trans (hb.mono BW.out.size))
  clear hb hC da db dc dd A32 KQ
  change K2 _ _
  refine hK2 _ _ ?_
  go_wp2_with fail
  clear e0 e15
  go_loopw [36] (fun iv wr => ∃ n : Nat, n ≤ 14 ∧ iv = .int .i64 ((n : Int) + 1) ∧ At wr w1.heap.size (rd cs p b l) 28 ∧ At wr w21.heap.size (rd SM p b l) 28 ∧ Hid (Below w0.heap.size w0 wr)) (fun iv _ => 15 - (intOf iv).toNat)
  case atStart => exact ⟨0, by omega, rfl, A5, A34, BW⟩
  case round =>
    clear A5 A34 BW
    obtain ⟨n, hn, rfl, A5, A34, BW⟩ := hrel
    by_cases hlt : n < 14
    · have s1 : IntKind.i64.wrap (n : Int) = (n : Int) := IntWalk.i64_in _ (by omega)
      have s2 : IntKind.i64.wrap ((n : Int) + 1 + 1) = (n : Int) + 1 + 1 := IntWalk.i64_in _ (by omega)
      have d0 := rd_cell hl p b l (k := n) (by omega)
      have d1 := rd_cell hl p b l (k := n + 1) (by omega)
      have d2 := rd_cell hl p b l (k := n + 1 + 1) (by omega)
      have dm := rd_cell hM1 p b l (k := n + 1) (by omega)
      have e0 := ok.car n
      have e1 := ok.car (n + 1)
      have e2 := ok.car (n + 1 + 1)
      have m0 := fun ts t w => run_min3 (P := Try.prog) w ts t (x := nth cs n) (y := nth cs (n + 1)) (z := nth cs (n + 1 + 1)) (by omega) (by omega) (by omega)
      have m1 := fun ts t w => run_max3 (P := Try.prog) w ts t (x := nth cs n) (y := nth cs (n + 1)) (z := nth cs (n + 1 + 1)) (by omega) (by omega) (by omega)
      obtain ⟨h1, h2, h3⟩ := HMid.out n hlt
      have hmin : min (min (nth cs n) (nth cs (n + 1))) (nth cs (n + 1 + 1)) ≤ 1065353216 := by omega
      have hmax : max (max (nth cs n) (nth cs (n + 1))) (nth cs (n + 1 + 1)) ≤ 1065353216 := by omega
      obtain ⟨dl, hd, hlo⟩ := near_lo h1 hmin h2
      obtain ⟨hu, hgt⟩ := near_up h1 hmax h3
      generalize min (min (nth cs n) (nth cs (n + 1))) (nth cs (n + 1 + 1)) = lo at m0 hd hlo h2 hmin
      generalize max (max (nth cs n) (nth cs (n + 1))) (nth cs (n + 1 + 1)) = hi at m1 hu hgt h3 hmax
      have s3 := fun t w => run_float_arith (P := Try.prog) w .sub t .f32 _ _ _ hd
      have s4 := fun t w => run_float_arith (P := Try.prog) w .add t .f32 _ _ _ hu
      clear e0 e1 e2 h1 h2 h3 hmin hmax hd hu
      go_wp2_with fail
      have hC := Cb.const wr
      refine wp_region_cb (by kernel_rfl) (by kernel_rfl) ?_
      repeat (first
        | go_big_quiet_skip
        | (go_big_quiet_want; first
          | (refine q_cell 24 _ rfl _ Try.underlying24 _ rfl A5 _ d0 ?_; go_simp; go_big_quiet_on)
          | (refine q_cell 24 _ rfl _ Try.underlying24 _ rfl A5 _ d1 ?_; go_simp; go_big_quiet_on)
          | (refine q_cell 24 _ rfl _ Try.underlying24 _ rfl A5 _ d2 ?_; go_simp; go_big_quiet_on)
          | (go_big_quiet_op; go_big_quiet_on)))
      refine wpQuiet_nil ?_
      intro w25 hb
      replace A5 := A5.step hb
      replace A34 := A34.step hb
      replace BW := Lib.hid (BW.out.trans (hb.mono BW.out.size))
      clear hb hC
      go_wp2_with fail
      have hC := Cb.const w25
      refine wp_region_cb (by kernel_rfl) (by kernel_rfl) ?_
      repeat (first
        | go_big_quiet_skip
        | (go_big_quiet_want; first
          | (refine q_cell 24 _ rfl _ Try.underlying24 _ rfl A5 _ d0 ?_; go_simp; go_big_quiet_on)
          | (refine q_cell 24 _ rfl _ Try.underlying24 _ rfl A5 _ d1 ?_; go_simp; go_big_quiet_on)
          | (refine q_cell 24 _ rfl _ Try.underlying24 _ rfl A5 _ d2 ?_; go_simp; go_big_quiet_on)
          | (go_big_quiet_op; go_big_quiet_on)))
      refine wpQuiet_nil ?_
      intro w26 hb
      replace A5 := A5.step hb
      replace A34 := A34.step hb
      replace BW := Lib.hid (BW.out.trans (hb.mono BW.out.size))
      clear hb hC
      have cm := A34.cell dm
      go_wp2_with fail
      exact ⟨⟨n + 1, by omega, by go_num, A5, A34, BW⟩, by simp [intOf]; omega⟩
    · obtain rfl : n = 14 := by omega
      rw [show (((14 : Nat) : Int) + 1) = 15 from rfl]
      go_wp2_with fail
      go_ret
      exact ⟨rfl, BW.out⟩

set_option maxRecDepth 100000 in
theorem lifted (os : Os) (started : os.Started) (H : Type) (enc : TypeId × Value → H) :
    ReturnsInHanded {} Try.checked os 3 .any (Rows.fnRampsSpec.pre6 enc Try.prog Try.f3 Rows.fnRampsRow.domain false) (Rows.fnRampsSpec.post enc Try.prog Try.f3 false true false false) := by
  refine law_liftedS enc os started (by kernel_rfl) Try.func3
    (ChangeSpec.witness6 (enc := enc) (C := Try.checked) false ⟨#[], #[.slice none 0 0, .slice none 0 0], []⟩ 24 (by kernel_rfl) (by kernel_rfl) (by kernel_rfl) (by kernel_rfl)) rfl (by kernel_rfl) ?_ ?_ ?_
  · rw [Try.params3]
    intro t ht
    have hall : (#[22, 22].toList.all fun u => Try.prog.readableRec u && decide (u < Try.prog.types.size)) = true := by kernel_rfl
    have := List.all_eq_true.1 hall t ht
    simpa using this
  · intro ds h
    rw [Try.params3] at h
    match ds, h with
    | [d0, d1], _ => rfl
  · intro W base args ds ps hl hval hA
    rw [Try.params3] at hl hval hA
    obtain ⟨v0, v1, rfl⟩ : ∃ v0 v1, args = #[v0, v1] := by
      obtain ⟨l⟩ := args
      match l, hl with
      | [v0, v1], _ => exact ⟨v0, v1, rfl⟩
    obtain ⟨vx0, vy0, dd0, de0, pp0, pq0, ee0, -, -, tr0, rr0⟩ := trodAll_cons hA
    obtain ⟨rfl, rfl⟩ := List.cons.inj ee0
    obtain ⟨vx1, vy1, dd1, de1, pp1, pq1, ee1, -, -, tr1, rr1⟩ := trodAll_cons rr0
    obtain ⟨rfl, rfl⟩ := List.cons.inj ee1
    obtain ⟨a0, c0, x0, rfl, h0⟩ := shape_bytes Try.underlying22 Try.underlying5 (by kernel_rfl) (okWide_slice Try.underlying22 (hval 0 _ _ rfl rfl)) tr0
    obtain ⟨a1, c1, x1, rfl, h1⟩ := shape_bytes Try.underlying22 Try.underlying5 (by kernel_rfl) (okWide_slice Try.underlying22 (hval 1 _ _ rfl rfl)) tr1
    exact walk W a0 c0 x0 h0 a1 c1 x1 h1

/-- THE STATEMENT -/
theorem proved : Rows.FnRampsSaid := by
  first
    | (refine OpenClaim.holds_of_wide 3 Try.f3 rfl rfl rfl rfl rfl rfl rfl ⟨rfl, rfl, rfl, rfl, rfl⟩ rfl rfl rfl rfl rfl (by kernel_rfl) Try.func3 (by kernel_rfl) (of_decide_eq_true (by kernel_rfl)) ?_ (fun os started H enc _ => lifted os started H enc))
    | (refine OpenClaim.holds_of_wide_leaving 3 Try.f3 rfl rfl rfl rfl rfl rfl rfl ⟨rfl, rfl, rfl, rfl, rfl⟩ rfl rfl rfl rfl rfl (by kernel_rfl) Try.func3 (by kernel_rfl) (of_decide_eq_true (by kernel_rfl)) ?_ (fun os started H enc _ => leaving_of_handed (lifted os started H enc)))
  unfold Func.isWrapper
  first | (rw [if_pos (by decide +kernel)]; kernel_rfl) | (rw [if_neg (by decide +kernel)]; exact ⟨rfl, rfl⟩)
#print axioms proved
end Go.Proofs.Ytchcikfjbpcalaa.lawFnRamps
