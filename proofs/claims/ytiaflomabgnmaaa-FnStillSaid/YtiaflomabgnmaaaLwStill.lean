/-
  FnStill: a road at the still share of a flow stays as it is, nearly; waves between two shares. No condition.
-/
import Derived.Test.YtiaflomabgnmaaaLawB
import Derived.Test.YtiaflomabgnmaaaDrawnR
import Derived.Test.YtiaflomabgnmaaaG8
import Derived.Test.YtiaflomabgnmaaaStlA
import Derived.Test.YtiaflomabgnmaaaG19
import Derived.Test.YtiaflomabgnmaaaG20
import Derived.Test.YtiaflomabgnmaaaWaveSpeed
import Derived.Test.YtiaflomabgnmaaaG5
import Derived.Test.YtiaflomabgnmaaaG13
namespace Go.Proofs.Ytiaflomabgnmaaa.lawFnStill
open Go Go.ChangeShapes Go.WideShapes Go.ChangeAt Go.RowKit

set_option maxRecDepth 100000
theorem near_amt : ∀ k, k < 17 → FloatKind.f32.nearest ((k : Nat) : Int) ≤ 1098907648 := by decide +kernel

theorem nth_const {o n k : Nat} (h : k < n) : nth (List.replicate n o) k = o := by
  unfold nth
  simp [h]

theorem okR_b {cs : List Nat} {p b l : Nat} (h : OkR cs p b l) : okB cs p b l = true := by
  have h1 : cs.all shrB = true := List.all_eq_true.2 fun x hx => decide_eq_true (h.cars x hx)
  have h2 : paceB p = true := decide_eq_true h.pace
  have h3 : paceB b = true := decide_eq_true h.back
  have h4 : lanesB l = true := decide_eq_true h.lanes
  unfold okB
  rw [h1, h2, h3, h4]; rfl

theorem flowC_yes {f most : Nat} (h : f ≤ most) (hm : most < 2139095040) : flowC true f most = 0 := by
  unfold flowC amtB
  rw [if_pos rfl, decide_eq_true h, if_pos]
  simp
  omega

theorem vStill_yes {cs : List Nat} {p b l F : Nat} (hok : okB cs p b l = true) (h : F ≤ mostW p b) (hm : mostW p b < 2139095040) : vStillShare cs p b l F = (loW p F, 0) := by
  unfold vStillShare
  rw [hok, flowC_yes h hm, if_pos rfl]
  rfl

theorem vJam_yes {cs : List Nat} {p b l F : Nat} (hok : okB cs p b l = true) (h : F ≤ mostW p b) (hm : mostW p b < 2139095040) : vJamShare cs p b l F = (hiW b F, 0) := by
  unfold vJamShare
  rw [hok, flowC_yes h hm, if_pos rfl]
  rfl

theorem vThree {cs : List Nat} {p b l o : Nat} (hok : okB cs p b l = true) (ho : o ≤ 1065353216) : vStepRoads cs p b l o 1065353216 3 = (itL p b cs (fun _ => o) (fun _ => 1065353216) 3, p, b, l, itS p b cs (fun _ => o) (fun _ => 1065353216) 0 3, itS p b cs (fun _ => o) (fun _ => 1065353216) 16 3, 0) := by
  have h : stepsC true o 1065353216 3 = 0 := by
    unfold stepsC givenC amtB
    simp
    omega
  unfold vStepRoads
  rw [hok, h, if_pos rfl]
  rfl

theorem thou : 468 * gG ≤ rv 23 981668463 := by decide +kernel

/-- all that three steps at one share come to -/
theorem three_all {p b l F lo : Nat} {cs0 : List Nat} (ok0 : OkR cs0 p b l) (Q : RdQ p b) (hF : F ≤ mostW p b) (L : LoOk p b F lo) (hN : NearC cs0 lo 0) :
    (∀ i, i < 16 → ∀ w, Calls Try.prog 12 #[.float .f32 (nth (itL p b cs0 (fun _ => F) (fun _ => 1065353216) 3) i), .float .f32 lo, .float .f32 981668463] w fun e w' => e = .returned (.bool true) ∧ w' = w) ∧
    (∀ i, i < 17 → ∀ w, Calls Try.prog 12 #[.float .f32 (itS p b cs0 (fun _ => F) (fun _ => 1065353216) i 3), .float .f32 (mulB 1077936128 F), .float .f32 981668463] w fun e w' => e = .returned (.bool true) ∧ w' = w) := by
  have hm := mostW_le ok0.pace ok0.back
  have ht := thou
  have h3 := it_still ok0 Q hF L hN 3
  rw [eE_3] at h3
  have ok3 := itL_ok ok0 (fun _ => F) (fun _ => 1065353216) 3
  obtain ⟨-, t1, t2, t3⟩ := three_near (Nat.le_trans hF hm)
  constructor
  · intro i hi w
    obtain ⟨a1, a2⟩ := h3 i hi
    have c1 := ok3.car i
    exact a2Near_gap _ _ _ (by omega) (by have := L.one; omega) (by omega) (by omega) (by omega) w
  · intro i hi w
    obtain ⟨a1, a2, a3⟩ := sum_still ok0 Q hF L hN hi
    exact a2Near_gap _ _ _ (by omega) (by omega) (by omega) (by omega) (by omega) w

/-- two drawn shares and the waves between them -/
theorem two_all {cs : List Nat} {p b l x y : Nat} (ok : OkR cs p b l) (hp : QP p) (hb : QP b) (hx : ∃ j, j ≤ 32 ∧ x = q32 j) (hy : ∃ j, j ≤ 32 ∧ y = q32 j) (hne : x ≠ y) :
    ∃ S T a c, vWaveSpeed cs p b l x y = (S, 0) ∧ vWaveSpeed cs p b l y x = (T, 0) ∧ S < 4294967296 ∧ T < 4294967296 ∧ FloatKind.f32.format.order S T = some .eq ∧ floatBits .add .f32 p 981668463 = some a ∧ (FloatKind.f32.format.order S a == some .lt || FloatKind.f32.format.order S a == some .eq) = true ∧ floatBits .sub .f32 (2147483648 + b) 981668463 = some c ∧ (FloatKind.f32.format.order S c == some .gt || FloatKind.f32.format.order S c == some .eq) = true := by
  have hok := okR_b ok
  have h1 := ok.pace
  have h2 := ok.back
  obtain ⟨m, hm, rfl⟩ := hp
  obtain ⟨n, hn, rfl⟩ := hb
  obtain ⟨i, hi, rfl⟩ := hx
  obtain ⟨j, hj, rfl⟩ := hy
  obtain ⟨s, t, r, e1, e2, e3, e4, e5⟩ := wave_two (i := i) (j := j) hok (show m + 1 ≤ 16 by omega) (show n + 1 ≤ 16 by omega) hi hj hne
  generalize qs (m + 1) = p at *
  generalize qs (n + 1) = b at *
  have a1 : p ≤ addB p 981668463 := le_add (by omega) (by omega) (by omega) (Nat.le_add_right _ _)
  have c1 : b ≤ addB b 981668463 := le_add (by omega) (by omega) (by omega) (Nat.le_add_right _ _)
  have two : ∀ {z : Nat}, z ≤ 1065353216 → addB z 981668463 ≤ 1073741824 := fun {z} hz => add_le (by omega) (by omega) (by
    have q1 := rv_share hz
    have q2 : rv 23 981668463 ≤ uV := by decide +kernel
    rw [rv_two]
    omega)
  have a2 := two h1.2
  have c2 := two h2.2
  have hr : r ≤ 1065353216 := by cases s; exact Nat.le_trans (e4 rfl) h1.2; exact Nat.le_trans (e5 rfl) h2.2
  exact ⟨_, _, _, _, e1, e2, (word_lt s (by omega)).1, (word_lt t (by omega)).1, word_same (by omega) e3, (add_eq (by omega) (by omega)).1, word_le (by omega) (by omega) (fun h => Nat.le_trans (e4 h) a1), sub_negF (by omega) (by omega) (by omega), word_ge (by omega) (by omega) (fun h => Nat.le_trans (e5 h) c1)⟩

set_option maxHeartbeats 8000000 in
theorem walk (W : World) (a0 : Option Addr) (c0 : Nat) (x0 : List Nat) (h0 : BSl W a0 x0) (a1 : Option Addr) (c1 : Nat) (x1 : List Nat) (h1 : BSl W a1 x1) :
    Calls Try.prog 3 #[.slice a0 x0.length c0, .slice a1 x1.length c1] W (True? W) := by
  have KL := a2Long_any a0 a1 x0.length c0 x1.length c1 W
  have BW := Lib.hid (Below.refl W.heap.size W)
  go_enter Try.func3, Try.ntmps3
  go_wp2_with fail
  refine KL.mono ?_
  rintro e w0 ⟨B, rfl, rfl⟩
  clear KL
  cases B
  case true =>
    go_wp2_with fail
    go_ret
    exact ⟨rfl, Below.refl _ _⟩
  go_wp2_with fail
  refine (A2RoadQ_e a0 c0 x0 _ h0).mono ?_
  rintro e w1 ⟨cs, p, b, l, rfl, hl, hok, hQp, hQb, hb⟩
  have ok := OkR.of hl hok
  replace BW := Lib.hid (BW.out.trans (hb.mono BW.out.size))
  clear hb
  have hcs16 := ok.cars
  have hc : ∀ x ∈ cs, x < 4294967296 := fun x hx => by have := hcs16 x hx; omega
  have HC := Lib.hid hc
  have HB := Lib.hid (And.intro ok.pace (And.intro ok.back ok.lanes))
  have hmo := mostW_le ok.pace ok.back
  clear hcs16 hc
  have KM := fun w => MostFlow_any cs p b l hl HC.out (by have := HB.out; omega) (by have := HB.out; omega) (by have := HB.out; omega) w
  rw [vMostFlow_yes hok] at KM
  have Qd := Lib.hid (And.intro (RdQ.of hQp hQb) (And.intro hQp hQb))
  clear hQp hQb
  have L := At.new w1 (rd (zeros 16) 0 0 0) 28
  have A5 := L.setRow (rd cs p b l)
  replace BW := Lib.hid (bset (BW.out.alloc BW.out.size (.cells (rd (zeros 16) 0 0 0) 28)) (g := w1.heap.size) BW.out.size (rd cs p b l))
  go_wp2_with (first | ((with_reducible refine is_store 28 _ _ rfl ?_); refine wpList_store_at rfl 28 _ _ rfl _ rfl (rd cs p b l) rfl (rd (zeros 16) 0 0 0) _ L 19 (rd_size hl p b l) (rd_size (zeros_len 16) 0 0 0) (by kernel_rfl) (rd_one cs p b l) ?_) | ((with_reducible refine is_load 28 _ rfl ?_); refine wpList_load_at rfl 28 _ rfl _ rfl (rd cs p b l) _ A5 19 (rd_size hl p b l) _ Try.underlying28 rfl (by kernel_rfl) ?_))
  rw [show (#[.float .f32 0, .float .f32 0, .float .f32 0, .float .f32 0, .float .f32 0, .float .f32 0, .float .f32 0, .float .f32 0, .float .f32 0, .float .f32 0, .float .f32 0, .float .f32 0, .float .f32 0, .float .f32 0, .float .f32 0, .float .f32 0, .float .f32 0, .float .f32 0, .float .f32 0] : Array Value) = rd (zeros 16) 0 0 0 from by kernel_rfl]
  clear L
  generalize World.setRow _ _ _ = w2 at A5 BW ⊢
  refine (KM _).mono ?_
  rintro e w3 ⟨rfl, hb⟩
  replace A5 := A5.step hb
  replace BW := Lib.hid (BW.out.trans (hb.mono BW.out.size))
  clear hb
  clear KM
  go_wp2_with fail
  have H2 := h1.step BW.out (Nat.le_refl _)
  refine (a2At_any H2 0 17 (by omega) (by omega) (by omega)).mono ?_
  rintro e w4 ⟨k, rfl, hk, rfl⟩
  clear H2
  have hcv := run_conv64 (k : Int)
  have hnk2 := near_amt k hk
  generalize FloatKind.f32.nearest (k : Int) = X at hcv hnk2
  have f1 := (mul_eq (x := mostW p b) (y := X) (by omega) (by omega)).1
  have f2 := mul_share (x := mostW p b) (y := X) hmo (by omega)
  have f3 := div_some (x := mulB (mostW p b) X) (y := 1098907648) (by omega) (by omega) (by omega)
  generalize mulB (mostW p b) X = Y at f1 f2 f3
  obtain ⟨f4, f5⟩ := f3
  generalize divB Y 1098907648 = F at f4 f5
  have s1 := fun t w => run_float_arith (P := Try.prog) w .mul t .f32 _ _ _ f1
  have s2 := fun t w => run_float_arith (P := Try.prog) w .quo t .f32 _ _ _ f4
  clear f1 f2 f4 hnk2
  have gt0 := gt_amt (x := F) (y := mostW p b) f5 (by omega)
  by_cases hFm : mostW p b < F
  · rw [decide_eq_true hFm] at gt0
    go_wp2_with fail
    go_ret
    exact ⟨rfl, BW.out⟩
  rw [decide_eq_false hFm] at gt0
  have hF : F ≤ mostW p b := by omega
  clear hFm f5
  have HO := Lib.hid hok
  have KS := fun w => StillShare_any cs p b l hl HC.out (by have := HB.out; omega) (by have := HB.out; omega) (by have := HB.out; omega) F (by omega) w
  rw [vStill_yes hok hF (by omega)] at KS
  have KJ := fun w => JamShare_any cs p b l hl HC.out (by have := HB.out; omega) (by have := HB.out; omega) (by have := HB.out; omega) F (by omega) w
  rw [vJam_yes hok hF (by omega)] at KJ
  have hL := lo_ok ok.pace ok.back hF
  obtain ⟨hi, hhi⟩ : ∃ hi, hi = hiW b F := ⟨_, rfl⟩
  generalize loW p F = lo at KS hL
  rw [← hhi] at KJ
  obtain ⟨f6, f7, f8⟩ := lo_hi ok.back Qd.out.1 hF hL hhi
  have s3 := fun t w => run_float_arith (P := Try.prog) w .add t .f32 _ _ _ f6
  have gt1 := gt_amt (x := lo) (y := addB hi 953267991) (by have := hL.one; omega) f8
  rw [decide_eq_false (by omega)] at gt1
  clear f6 f7 f8
  have hl1 := hL.one
  have KF := fun w => FillRoad_any cs p b l hl HC.out (by have := HB.out; omega) (by have := HB.out; omega) (by have := HB.out; omega) lo (by omega) w
  rw [vFillRoad_yes hok (by unfold shrB; exact decide_eq_true hl1)] at KF
  obtain ⟨Z0, hZ0⟩ : ∃ Z, Z = List.replicate 16 lo := ⟨_, rfl⟩
  rw [← hZ0] at KF
  have okZ : OkR Z0 p b l := by
    rw [hZ0]
    exact ⟨List.length_replicate, fun x hx => by rw [List.eq_of_mem_replicate hx]; exact hl1, ok.pace, ok.back, ok.lanes⟩
  have hNZ : NearC Z0 lo 0 := fun i hi => by
    have e : nth Z0 i = lo := by rw [hZ0]; exact nth_const hi
    rw [e]
    exact ⟨Nat.le_refl _, Nat.le_refl _⟩
  have hlz := okZ.len
  have hcz : ∀ x ∈ Z0, x < 4294967296 := fun x hx => by have := okZ.cars x hx; omega
  have KR := fun w => StepRoads_any Z0 p b l hlz hcz (by have := HB.out; omega) (by have := HB.out; omega) (by have := HB.out; omega) F (by omega) 1065353216 (by omega) 3 w
  rw [vThree (okR_b okZ) (by omega)] at KR
  obtain ⟨KC, KA⟩ := three_all okZ Qd.out.1 hF hL hNZ
  have KA0 := KA 0 (by omega)
  have KA16 := KA 16 (by omega)
  have s4 := fun t w => run_float_arith (P := Try.prog) w .mul t .f32 _ _ _ (three_near (F := F) (by omega)).1
  obtain ⟨L3, hL3⟩ : ∃ L, L = itL p b Z0 (fun _ => F) (fun _ => 1065353216) 3 := ⟨_, rfl⟩
  have ok3 : OkR L3 p b l := by rw [hL3]; exact itL_ok okZ _ _ _
  have hl3 := ok3.len
  rw [← hL3] at KR KC
  generalize itS p b Z0 (fun _ => F) (fun _ => 1065353216) 0 3 = z0 at KR KA0
  generalize itS p b Z0 (fun _ => F) (fun _ => 1065353216) 16 3 = z16 at KR KA16
  generalize mulB 1077936128 F = T3 at KA0 KA16 s4
  have HH := Lib.hid (And.intro hF (And.intro hL hhi))
  have hh1 : hi ≤ 1065353216 := by obtain ⟨d, -, -, h3, -, -⟩ := hi_ok ok.back Qd.out.1 hF; rw [hhi]; exact h3
  clear KA hL3 hNZ hZ0 hhi hcz okZ ok3
  go_wp2_with (first | ((with_reducible refine is_load 28 _ rfl ?_); refine wpList_load_at rfl 28 _ rfl _ rfl (rd cs p b l) _ A5 19 (rd_size hl p b l) _ Try.underlying28 rfl (by kernel_rfl) ?_))
  refine (KS _).mono ?_
  rintro e w5 ⟨rfl, hb⟩
  replace A5 := A5.step hb
  replace BW := Lib.hid (BW.out.trans (hb.mono BW.out.size))
  clear hb
  go_wp2_with (first | ((with_reducible refine is_load 28 _ rfl ?_); refine wpList_load_at rfl 28 _ rfl _ rfl (rd cs p b l) _ A5 19 (rd_size hl p b l) _ Try.underlying28 rfl (by kernel_rfl) ?_))
  refine (KJ _).mono ?_
  rintro e w6 ⟨rfl, hb⟩
  replace A5 := A5.step hb
  replace BW := Lib.hid (BW.out.trans (hb.mono BW.out.size))
  clear hb
  clear KS KJ
  go_wp2_with (first | ((with_reducible refine is_load 28 _ rfl ?_); refine wpList_load_at rfl 28 _ rfl _ rfl (rd cs p b l) _ A5 19 (rd_size hl p b l) _ Try.underlying28 rfl (by kernel_rfl) ?_))
  refine (KF _).mono ?_
  rintro e w7 ⟨rfl, hb⟩
  replace A5 := A5.step hb
  replace BW := Lib.hid (BW.out.trans (hb.mono BW.out.size))
  clear hb
  clear KF
  have L := At.new w7 (rd (zeros 16) 0 0 0) 28
  have A13 := L.setRow (rd Z0 p b l)
  replace A5 := (A5.alloc (.cells (rd (zeros 16) 0 0 0) 28)).setRow_other (k := w7.heap.size) (Nat.ne_of_lt A5.lt) (rd Z0 p b l)
  replace BW := Lib.hid (bset (BW.out.alloc BW.out.size (.cells (rd (zeros 16) 0 0 0) 28)) (g := w7.heap.size) BW.out.size (rd Z0 p b l))
  go_wp2_with (first | ((with_reducible refine is_store 28 _ _ rfl ?_); refine wpList_store_at rfl 28 _ _ rfl _ rfl (rd Z0 p b l) rfl (rd (zeros 16) 0 0 0) _ L 19 (rd_size hlz p b l) (rd_size (zeros_len 16) 0 0 0) (by kernel_rfl) (rd_one Z0 p b l) ?_) | ((with_reducible refine is_load 28 _ rfl ?_); refine wpList_load_at rfl 28 _ rfl _ rfl (rd Z0 p b l) _ A13 19 (rd_size hlz p b l) _ Try.underlying28 rfl (by kernel_rfl) ?_))
  rw [show (#[.float .f32 0, .float .f32 0, .float .f32 0, .float .f32 0, .float .f32 0, .float .f32 0, .float .f32 0, .float .f32 0, .float .f32 0, .float .f32 0, .float .f32 0, .float .f32 0, .float .f32 0, .float .f32 0, .float .f32 0, .float .f32 0, .float .f32 0, .float .f32 0, .float .f32 0] : Array Value) = rd (zeros 16) 0 0 0 from by kernel_rfl]
  clear L
  generalize World.setRow _ _ _ = w8 at A5 A13 BW ⊢
  refine (KR _).mono ?_
  rintro e w9 ⟨rfl, hb⟩
  replace A5 := A5.step hb
  replace A13 := A13.step hb
  replace BW := Lib.hid (BW.out.trans (hb.mono BW.out.size))
  clear hb
  clear KR
  clear A13
  have L := At.new w9 (rd (zeros 16) 0 0 0) 28
  have A15 := L.setRow (rd L3 p b l)
  replace A5 := (A5.alloc (.cells (rd (zeros 16) 0 0 0) 28)).setRow_other (k := w9.heap.size) (Nat.ne_of_lt A5.lt) (rd L3 p b l)
  replace BW := Lib.hid (bset (BW.out.alloc BW.out.size (.cells (rd (zeros 16) 0 0 0) 28)) (g := w9.heap.size) BW.out.size (rd L3 p b l))
  go_wp2_with (first | ((with_reducible refine is_store 28 _ _ rfl ?_); refine wpList_store_at rfl 28 _ _ rfl _ rfl (rd L3 p b l) rfl (rd (zeros 16) 0 0 0) _ L 19 (rd_size hl3 p b l) (rd_size (zeros_len 16) 0 0 0) (by kernel_rfl) (rd_one L3 p b l) ?_))
  rw [show (#[.float .f32 0, .float .f32 0, .float .f32 0, .float .f32 0, .float .f32 0, .float .f32 0, .float .f32 0, .float .f32 0, .float .f32 0, .float .f32 0, .float .f32 0, .float .f32 0, .float .f32 0, .float .f32 0, .float .f32 0, .float .f32 0, .float .f32 0, .float .f32 0, .float .f32 0] : Array Value) = rd (zeros 16) 0 0 0 from by kernel_rfl]
  clear L
  generalize World.setRow _ _ _ = w10 at A5 A15 BW ⊢
  refine (KA0 _).mono ?_
  rintro e w11 ⟨rfl, rfl⟩
  go_wp2_with fail
  refine (KA16 _).mono ?_
  rintro e w12 ⟨rfl, rfl⟩
  clear KA0 KA16 s4 s3 gt1 gt0 s1 s2 hcv
  go_wp2_with fail
  go_loopw [19] (fun iv wr => ∃ i : Nat, i ≤ 16 ∧ iv = .int .i64 (i : Int) ∧ At wr w1.heap.size (rd cs p b l) 28 ∧ At wr w9.heap.size (rd L3 p b l) 28 ∧ Hid (Below w0.heap.size w0 wr)) (fun iv _ => 16 - (intOf iv).toNat)
  case atStart => exact ⟨0, by omega, rfl, A5, A15, BW⟩
  case round =>
    clear A5 A15 BW
    obtain ⟨i, hin, rfl, A5, A15, BW⟩ := hrel
    by_cases hlt : i < 16
    · have kd : (i : Int) < 16 := by omega
      have s2 : IntKind.i64.wrap ((i : Int) + 1) = (i : Int) + 1 := IntWalk.i64_in _ (by omega)
      have cm := A15.cell (rd_cell hl3 p b l (k := i) hlt)
      have KC1 := KC i hlt
      go_wp2_with fail
      refine (KC1 _).mono ?_
      rintro e w13 ⟨rfl, rfl⟩
      go_wp2_with fail
      exact ⟨⟨i + 1, by omega, by go_num, A5, A15, BW⟩, by simp [intOf]; omega⟩
    · obtain rfl : i = 16 := by omega
      clear A15 KC
      have f6 := dif_eq (x := hi) (y := lo) (by omega) (by omega)
      have s3 := fun t w => run_float_arith (P := Try.prog) w .sub t .f32 _ _ _ f6
      by_cases hd : lo ≤ hi ∧ 1040187392 < subB hi lo
      · obtain ⟨s, r, v1, hr⟩ := wave_still ok HO.out Qd.out.1 HH.out.1 HH.out.2.1 HH.out.2.2 hd.1 hd.2
        have gd : (FloatKind.f32.format.order (difB hi lo) 1040187392 == some .gt) = true := by
          unfold difB
          rw [if_pos hd.1, gt_amt (Nat.le_trans (sub_le (by omega) hd.1) (by omega)) (by omega)]
          exact decide_eq_true hd.2
        have KW := fun w => WaveSpeed_any cs p b l hl HC.out (by have := HB.out; omega) (by have := HB.out; omega) (by have := HB.out; omega) lo hi (by omega) (by omega) w
        rw [v1] at KW
        have KN := fun w => a2Near_word s r 981668463 hr (by omega) w
        generalize S32.word s r = S0 at KW KN
        clear v1 hd hr f6
        go_wp2_with (first | ((with_reducible refine is_load 28 _ rfl ?_); refine wpList_load_at rfl 28 _ rfl _ rfl (rd cs p b l) _ A5 19 (rd_size hl p b l) _ Try.underlying28 rfl (by kernel_rfl) ?_))
        refine (KW _).mono ?_
        rintro e w14 ⟨rfl, hb⟩
        replace A5 := A5.step hb
        replace BW := Lib.hid (BW.out.trans (hb.mono BW.out.size))
        clear hb
        go_wp2_with fail
        refine (KN _).mono ?_
        rintro e w15 ⟨rfl, rfl⟩
        clear KW KN gd s3
        go_wp2_with fail
        have H2 := h0.step BW.out (Nat.le_refl _)
        refine (A2ShareQ_e a0 c0 x0 _ H2).mono ?_
        rintro e w20 ⟨x, rfl, hx, hQx, hb⟩
        clear H2
        replace A5 := A5.step hb
        replace BW := Lib.hid (BW.out.trans (hb.mono BW.out.size))
        clear hb
        go_wp2_with fail
        have H2 := h1.step BW.out (Nat.le_refl _)
        refine (A2ShareQ_e a1 c1 x1 _ H2).mono ?_
        rintro e w21 ⟨y, rfl, hy, hQy, hb⟩
        clear H2
        replace A5 := A5.step hb
        replace BW := Lib.hid (BW.out.trans (hb.mono BW.out.size))
        clear hb
        have KX := fun w => WaveSpeed_any cs p b l hl HC.out (by have := HB.out; omega) (by have := HB.out; omega) (by have := HB.out; omega) x y (by omega) (by omega) w
        have KY := fun w => WaveSpeed_any cs p b l hl HC.out (by have := HB.out; omega) (by have := HB.out; omega) (by have := HB.out; omega) y x (by omega) (by omega) w
        have ex := eq_amt (x := x) (y := y) (by omega) (by omega)
        by_cases hxy : x = y
        · subst hxy
          have hv : vWaveSpeed cs p b l x x = (0, 4) := by
            have hw : waveC (okB cs p b l) x x = 4 := by unfold waveC shrB; rw [HO.out, decide_eq_true hx, if_pos rfl]; simp
            unfold vWaveSpeed
            rw [hw, if_neg (by decide)]
          rw [hv] at KX
          rw [decide_eq_true rfl] at ex
          clear KY hv hQx hQy
          go_wp2_with (first | ((with_reducible refine is_load 28 _ rfl ?_); refine wpList_load_at rfl 28 _ rfl _ rfl (rd cs p b l) _ A5 19 (rd_size hl p b l) _ Try.underlying28 rfl (by kernel_rfl) ?_))
          refine (KX _).mono ?_
          rintro e w22 ⟨rfl, hb⟩
          replace A5 := A5.step hb
          replace BW := Lib.hid (BW.out.trans (hb.mono BW.out.size))
          clear hb
          go_wp2_with (first | ((with_reducible refine is_load 28 _ rfl ?_); refine wpList_load_at rfl 28 _ rfl _ rfl (rd cs p b l) _ A5 19 (rd_size hl p b l) _ Try.underlying28 rfl (by kernel_rfl) ?_))
          refine (KX _).mono ?_
          rintro e w23 ⟨rfl, hb⟩
          replace A5 := A5.step hb
          replace BW := Lib.hid (BW.out.trans (hb.mono BW.out.size))
          clear hb
          go_wp2_with fail
          go_ret
          exact ⟨rfl, BW.out⟩
        · obtain ⟨S, T, a, c, v1, v2, -, -, k1, k2, k3, k4, k5⟩ := two_all ok Qd.out.2.1 Qd.out.2.2 hQx hQy hxy
          rw [v1] at KX
          rw [v2] at KY
          rw [decide_eq_false hxy] at ex
          have s5 := fun t w => run_float_arith (P := Try.prog) w .add t .f32 _ _ _ k2
          have s6 := fun t w => run_float_arith (P := Try.prog) w .sub t .f32 _ _ _ k4
          have s7 := fun w => run_negF (P := Try.prog) (r := b) (by have := HB.out; omega) w
          clear v1 v2 k2 k4 hQx hQy hxy
          go_wp2_with (first | ((with_reducible refine is_load 28 _ rfl ?_); refine wpList_load_at rfl 28 _ rfl _ rfl (rd cs p b l) _ A5 19 (rd_size hl p b l) _ Try.underlying28 rfl (by kernel_rfl) ?_))
          refine (KX _).mono ?_
          rintro e w22 ⟨rfl, hb⟩
          replace A5 := A5.step hb
          replace BW := Lib.hid (BW.out.trans (hb.mono BW.out.size))
          clear hb
          go_wp2_with (first | ((with_reducible refine is_load 28 _ rfl ?_); refine wpList_load_at rfl 28 _ rfl _ rfl (rd cs p b l) _ A5 19 (rd_size hl p b l) _ Try.underlying28 rfl (by kernel_rfl) ?_))
          refine (KY _).mono ?_
          rintro e w23 ⟨rfl, hb⟩
          replace A5 := A5.step hb
          replace BW := Lib.hid (BW.out.trans (hb.mono BW.out.size))
          clear hb
          clear KX KY
          have cp := A5.cell (rd_pace hl p b l)
          have cb := A5.cell (rd_back hl p b l)
          go_wp2_with (first | ((with_reducible refine is_load 24 _ rfl ?_); refine wpList_load_cell_g rfl 24 _ rfl _ 16 rfl (rd cs p b l) _ A5 _ Try.underlying24 rfl (.float .f32 p) (rd_pace hl p b l) ?_) | ((with_reducible refine is_load 24 _ rfl ?_); refine wpList_load_cell_g rfl 24 _ rfl _ 17 rfl (rd cs p b l) _ A5 _ Try.underlying24 rfl (.float .f32 b) (rd_back hl p b l) ?_))
          go_ret
          exact ⟨rfl, BW.out⟩
      · have gd : (FloatKind.f32.format.order (difB hi lo) 1040187392 == some .gt) = false := by
          unfold difB
          by_cases c : lo ≤ hi
          · rw [if_pos c, gt_amt (Nat.le_trans (sub_le (by omega) c) (by omega)) (by omega)]
            exact decide_eq_false (fun h => hd ⟨c, h⟩)
          · have h1 := sub_pos (show lo < 2139095040 by omega) (show hi < lo by omega)
            have h2 := sub_le (show lo < 2139095040 by omega) (show hi ≤ lo by omega)
            rw [if_neg c, order_neg (by omega) h1 (by omega)]; rfl
        clear hd f6
        go_wp2_with fail
        clear gd s3
        have H2 := h0.step BW.out (Nat.le_refl _)
        refine (A2ShareQ_e a0 c0 x0 _ H2).mono ?_
        rintro e w20 ⟨x, rfl, hx, hQx, hb⟩
        clear H2
        replace A5 := A5.step hb
        replace BW := Lib.hid (BW.out.trans (hb.mono BW.out.size))
        clear hb
        go_wp2_with fail
        have H2 := h1.step BW.out (Nat.le_refl _)
        refine (A2ShareQ_e a1 c1 x1 _ H2).mono ?_
        rintro e w21 ⟨y, rfl, hy, hQy, hb⟩
        clear H2
        replace A5 := A5.step hb
        replace BW := Lib.hid (BW.out.trans (hb.mono BW.out.size))
        clear hb
        have KX := fun w => WaveSpeed_any cs p b l hl HC.out (by have := HB.out; omega) (by have := HB.out; omega) (by have := HB.out; omega) x y (by omega) (by omega) w
        have KY := fun w => WaveSpeed_any cs p b l hl HC.out (by have := HB.out; omega) (by have := HB.out; omega) (by have := HB.out; omega) y x (by omega) (by omega) w
        have ex := eq_amt (x := x) (y := y) (by omega) (by omega)
        by_cases hxy : x = y
        · subst hxy
          have hv : vWaveSpeed cs p b l x x = (0, 4) := by
            have hw : waveC (okB cs p b l) x x = 4 := by unfold waveC shrB; rw [HO.out, decide_eq_true hx, if_pos rfl]; simp
            unfold vWaveSpeed
            rw [hw, if_neg (by decide)]
          rw [hv] at KX
          rw [decide_eq_true rfl] at ex
          clear KY hv hQx hQy
          go_wp2_with (first | ((with_reducible refine is_load 28 _ rfl ?_); refine wpList_load_at rfl 28 _ rfl _ rfl (rd cs p b l) _ A5 19 (rd_size hl p b l) _ Try.underlying28 rfl (by kernel_rfl) ?_))
          refine (KX _).mono ?_
          rintro e w22 ⟨rfl, hb⟩
          replace A5 := A5.step hb
          replace BW := Lib.hid (BW.out.trans (hb.mono BW.out.size))
          clear hb
          go_wp2_with (first | ((with_reducible refine is_load 28 _ rfl ?_); refine wpList_load_at rfl 28 _ rfl _ rfl (rd cs p b l) _ A5 19 (rd_size hl p b l) _ Try.underlying28 rfl (by kernel_rfl) ?_))
          refine (KX _).mono ?_
          rintro e w23 ⟨rfl, hb⟩
          replace A5 := A5.step hb
          replace BW := Lib.hid (BW.out.trans (hb.mono BW.out.size))
          clear hb
          go_wp2_with fail
          go_ret
          exact ⟨rfl, BW.out⟩
        · obtain ⟨S, T, a, c, v1, v2, -, -, k1, k2, k3, k4, k5⟩ := two_all ok Qd.out.2.1 Qd.out.2.2 hQx hQy hxy
          rw [v1] at KX
          rw [v2] at KY
          rw [decide_eq_false hxy] at ex
          have s5 := fun t w => run_float_arith (P := Try.prog) w .add t .f32 _ _ _ k2
          have s6 := fun t w => run_float_arith (P := Try.prog) w .sub t .f32 _ _ _ k4
          have s7 := fun w => run_negF (P := Try.prog) (r := b) (by have := HB.out; omega) w
          clear v1 v2 k2 k4 hQx hQy hxy
          go_wp2_with (first | ((with_reducible refine is_load 28 _ rfl ?_); refine wpList_load_at rfl 28 _ rfl _ rfl (rd cs p b l) _ A5 19 (rd_size hl p b l) _ Try.underlying28 rfl (by kernel_rfl) ?_))
          refine (KX _).mono ?_
          rintro e w22 ⟨rfl, hb⟩
          replace A5 := A5.step hb
          replace BW := Lib.hid (BW.out.trans (hb.mono BW.out.size))
          clear hb
          go_wp2_with (first | ((with_reducible refine is_load 28 _ rfl ?_); refine wpList_load_at rfl 28 _ rfl _ rfl (rd cs p b l) _ A5 19 (rd_size hl p b l) _ Try.underlying28 rfl (by kernel_rfl) ?_))
          refine (KY _).mono ?_
          rintro e w23 ⟨rfl, hb⟩
          replace A5 := A5.step hb
          replace BW := Lib.hid (BW.out.trans (hb.mono BW.out.size))
          clear hb
          clear KX KY
          have cp := A5.cell (rd_pace hl p b l)
          have cb := A5.cell (rd_back hl p b l)
          go_wp2_with (first | ((with_reducible refine is_load 24 _ rfl ?_); refine wpList_load_cell_g rfl 24 _ rfl _ 16 rfl (rd cs p b l) _ A5 _ Try.underlying24 rfl (.float .f32 p) (rd_pace hl p b l) ?_) | ((with_reducible refine is_load 24 _ rfl ?_); refine wpList_load_cell_g rfl 24 _ rfl _ 17 rfl (rd cs p b l) _ A5 _ Try.underlying24 rfl (.float .f32 b) (rd_back hl p b l) ?_))
          go_ret
          exact ⟨rfl, BW.out⟩

set_option maxRecDepth 100000 in
theorem lifted (os : Os) (started : os.Started) (H : Type) (enc : TypeId × Value → H) :
    ReturnsInHanded {} Try.checked os 3 .any (Rows.fnStillSpec.pre6 enc Try.prog Try.f3 Rows.fnStillRow.domain false) (Rows.fnStillSpec.post enc Try.prog Try.f3 false true false false) := by
  refine law_liftedS enc os started (by kernel_rfl) Try.func3
    (ChangeSpec.witness6 (enc := enc) (C := Try.checked) false ⟨#[], #[.slice none 0 0, .slice none 0 0], []⟩ 24 (by kernel_rfl) (by kernel_rfl) (by kernel_rfl) (by kernel_rfl)) rfl (by kernel_rfl) ?_ ?_ ?_
  · rw [Try.params3]
    intro t ht
    have hall : (#[22, 22].toList.all fun u => Try.prog.readableRec u && decide (u < Try.prog.types.size)) = true := by kernel_rfl
    have := List.all_eq_true.1 hall t ht
    simpa using this
  · intro ds h
    rw [Try.params3] at h
    match ds, h with
    | [d0, d1], _ => rfl
  · intro W base args ds ps hl hval hA
    rw [Try.params3] at hl hval hA
    obtain ⟨v0, v1, rfl⟩ : ∃ v0 v1, args = #[v0, v1] := by
      obtain ⟨l⟩ := args
      match l, hl with
      | [v0, v1], _ => exact ⟨v0, v1, rfl⟩
    obtain ⟨vx0, vy0, dd0, de0, pp0, pq0, ee0, -, -, tr0, rr0⟩ := trodAll_cons hA
    obtain ⟨rfl, rfl⟩ := List.cons.inj ee0
    obtain ⟨vx1, vy1, dd1, de1, pp1, pq1, ee1, -, -, tr1, rr1⟩ := trodAll_cons rr0
    obtain ⟨rfl, rfl⟩ := List.cons.inj ee1
    obtain ⟨a0, c0, x0, rfl, h0⟩ := shape_bytes Try.underlying22 Try.underlying5 (by kernel_rfl) (okWide_slice Try.underlying22 (hval 0 _ _ rfl rfl)) tr0
    obtain ⟨a1, c1, x1, rfl, h1⟩ := shape_bytes Try.underlying22 Try.underlying5 (by kernel_rfl) (okWide_slice Try.underlying22 (hval 1 _ _ rfl rfl)) tr1
    exact walk W a0 c0 x0 h0 a1 c1 x1 h1

/-- THE STATEMENT -/
theorem proved : Rows.FnStillSaid := by
  first
    | (refine OpenClaim.holds_of_wide 3 Try.f3 rfl rfl rfl rfl rfl rfl rfl ⟨rfl, rfl, rfl, rfl, rfl⟩ rfl rfl rfl rfl rfl (by kernel_rfl) Try.func3 (by kernel_rfl) (of_decide_eq_true (by kernel_rfl)) ?_ (fun os started H enc _ => lifted os started H enc))
    | (refine OpenClaim.holds_of_wide_leaving 3 Try.f3 rfl rfl rfl rfl rfl rfl rfl ⟨rfl, rfl, rfl, rfl, rfl⟩ rfl rfl rfl rfl rfl (by kernel_rfl) Try.func3 (by kernel_rfl) (of_decide_eq_true (by kernel_rfl)) ?_ (fun os started H enc _ => leaving_of_handed (lifted os started H enc)))
  unfold Func.isWrapper
  first | (rw [if_pos (by decide +kernel)]; kernel_rfl) | (rw [if_neg (by decide +kernel)]; exact ⟨rfl, rfl⟩)
#print axioms proved
end Go.Proofs.Ytiaflomabgnmaaa.lawFnStill
