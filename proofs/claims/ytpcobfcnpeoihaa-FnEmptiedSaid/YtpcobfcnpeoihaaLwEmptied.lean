/-
  FnEmptied: roads are emptied and filled at the step that is told; nothing is late on an empty road; no delay is below 0, nearly. No condition.
-/
import Derived.Test.YtpcobfcnpeoihaaLawB
import Derived.Test.YtpcobfcnpeoihaaDrawn
import Derived.Test.YtpcobfcnpeoihaaG9
import Derived.Test.YtpcobfcnpeoihaaG19
import Derived.Test.YtpcobfcnpeoihaaDelayOfS
import Derived.Test.YtpcobfcnpeoihaaG20
namespace Go.Proofs.Ytpcobfcnpeoihaa.lawFnEmptied
open Go Go.ChangeShapes Go.WideShapes Go.ChangeAt Go.RowKit

set_option maxRecDepth 100000
theorem okR_b {cs : List Nat} {p b l : Nat} (h : OkR cs p b l) : okB cs p b l = true := by
  have h1 : cs.all shrB = true := List.all_eq_true.2 fun x hx => decide_eq_true (h.cars x hx)
  have h2 : paceB p = true := decide_eq_true h.pace
  have h3 : paceB b = true := decide_eq_true h.back
  have h4 : lanesB l = true := decide_eq_true h.lanes
  unfold okB
  rw [h1, h2, h3, h4]; rfl

theorem low_eq2 {x c : Nat} (h : LowW x c) : FloatKind.f32.format.order x x = some .eq := by
  obtain ⟨s, m, rfl, hm, -⟩ := h
  have k := order_fin S32 s s (r := m) (q := m) (by rw [s_inf]; omega) (by rw [s_inf]; omega)
  show S32.order (S32.word s m) (S32.word s m) = _
  rw [k, Int.compare_eq_eq.2 rfl]

theorem ge_low2 {x : Nat} (hx : LowW x 981668462) : FloatKind.f32.format.order x 3129152111 = some .gt := by
  obtain ⟨s, m, rfl, hm, h1⟩ := hx
  have k := order_fin S32 s true (r := m) (q := 981668463) (by rw [s_inf]; omega) (by rw [s_inf]; omega)
  rw [word_true S32 981668463, s_sw, s_fb] at k
  show S32.order (S32.word s m) 3129152111 = _
  rw [k]
  have hp : 0 < rv 23 981668463 := by decide +kernel
  have hc : compare (sg s (rv 23 m)) (sg true (rv 23 981668463)) = .gt := by
    rw [Int.compare_eq_gt]
    cases s
    · show -((rv 23 981668463 : Nat) : Int) < ((rv 23 m : Nat) : Int); omega
    · show -((rv 23 981668463 : Nat) : Int) < -((rv 23 m : Nat) : Int)
      have := rv_lt (p := 23) (show m < 981668463 by have := h1 rfl; omega)
      omega
  rw [hc]

theorem zero_okB {cs : List Nat} {p b l : Nat} (h : OkR cs p b l) : okB (List.replicate 16 0) p b l = true :=
  okR_b ⟨by decide, fun x hx => by obtain rfl := List.eq_of_mem_replicate hx; omega, h.pace, h.back, h.lanes⟩

set_option maxHeartbeats 8000000 in
theorem walk (W : World) (a0 : Option Addr) (c0 : Nat) (x0 : List Nat) (h0 : BSl W a0 x0) (a1 : Option Addr) (c1 : Nat) (x1 : List Nat) (h1 : BSl W a1 x1) :
    Calls Try.prog 3 #[.slice a0 x0.length c0, .slice a1 x1.length c1] W (True? W) := by
  have KL := a2Long_any a0 a1 x0.length c0 x1.length c1 W
  have BW := Lib.hid (Below.refl W.heap.size W)
  go_enter Try.func3, Try.ntmps3
  go_wp2_with fail
  refine KL.mono ?_
  rintro e w0 ⟨B, rfl, rfl⟩
  clear KL
  cases B
  case true =>
    go_wp2_with fail
    go_ret
    exact ⟨rfl, Below.refl _ _⟩
  go_wp2_with fail
  refine (A2Road_e a0 c0 x0 _ h0).mono ?_
  rintro e w1 ⟨cs, p, b, l, rfl, hl, hok, hb⟩
  have ok := OkR.of hl hok
  clear h0
  replace BW := Lib.hid (BW.out.trans (hb.mono BW.out.size))
  clear hb
  have hcs16 := ok.cars
  have hc : ∀ x ∈ cs, x < 4294967296 := fun x hx => by have := hcs16 x hx; omega
  have HC := Lib.hid hc
  have HB := Lib.hid (And.intro ok.pace (And.intro ok.back ok.lanes))
  clear hcs16 hc
  have KE := fun w => StepsToEmpty_any cs p b l hl HC.out (by have := HB.out; omega) (by have := HB.out; omega) (by have := HB.out; omega) 400 (by omega) w
  have KEs := fun w => sStepsToEmpty_any cs p b l hl HC.out (by have := HB.out; omega) (by have := HB.out; omega) (by have := HB.out; omega) 400 (by omega) w
  rw [vEmpty_yes hok] at KE KEs
  have HU := until_cases (fun k => emptyW l (itL p b cs (fun _ => 0) (fun _ => 1065353216) k)) 400
  generalize untilF (fun k => emptyW l (itL p b cs (fun _ => 0) (fun _ => 1065353216) k)) 0 400 = q at KE KEs HU
  have L := At.new w1 (rd (zeros 16) 0 0 0) 28
  have A5 := L.setRow (rd cs p b l)
  replace BW := Lib.hid (bset (BW.out.alloc BW.out.size (.cells (rd (zeros 16) 0 0 0) 28)) (g := w1.heap.size) BW.out.size (rd cs p b l))
  go_wp2_with (first | ((with_reducible refine is_store 28 _ _ rfl ?_); refine wpList_store_at rfl 28 _ _ rfl _ rfl (rd cs p b l) rfl (rd (zeros 16) 0 0 0) _ L 19 (rd_size hl p b l) (rd_size (zeros_len 16) 0 0 0) (by kernel_rfl) (rd_one cs p b l) ?_) | ((with_reducible refine is_load 28 _ rfl ?_); refine wpList_load_at rfl 28 _ rfl _ rfl (rd cs p b l) _ A5 19 (rd_size hl p b l) _ Try.underlying28 rfl (by kernel_rfl) ?_))
  rw [show (#[.float .f32 0, .float .f32 0, .float .f32 0, .float .f32 0, .float .f32 0, .float .f32 0, .float .f32 0, .float .f32 0, .float .f32 0, .float .f32 0, .float .f32 0, .float .f32 0, .float .f32 0, .float .f32 0, .float .f32 0, .float .f32 0, .float .f32 0, .float .f32 0, .float .f32 0] : Array Value) = rd (zeros 16) 0 0 0 from by kernel_rfl]
  clear L
  generalize World.setRow _ _ _ = w2 at A5 BW ⊢
  rcases HU with ⟨m, hm, rfl, hw, hf⟩ | rfl
  · have KR1 := fun w => StepRoads_any cs p b l hl HC.out (by have := HB.out; omega) (by have := HB.out; omega) (by have := HB.out; omega) 0 (by omega) 1065353216 (by omega) ((m : Nat) : Int) w
    rw [vSteps_yes hok (by omega) (by omega) (by omega)] at KR1
    obtain ⟨L1, hL1⟩ : ∃ L, L = itL p b cs (fun _ => 0) (fun _ => 1065353216) (m) := ⟨_, rfl⟩
    have ok1 : OkR L1 p b l := by rw [hL1]; exact itL_ok ok _ _ _
    have hl1 := ok1.len
    have kb1 : okB L1 p b l = true := okR_b ok1
    have hc1 : ∀ x ∈ L1, x < 4294967296 := fun x hx => by have := ok1.cars x hx; omega
    rw [← hL1] at KR1
    generalize itS p b cs (fun _ => 0) (fun _ => 1065353216) 0 (m) = s01 at KR1
    generalize itS p b cs (fun _ => 0) (fun _ => 1065353216) 16 (m) = s11 at KR1
    have KC1 := fun w => CarsOn_any L1 p b l hl1 hc1 (by have := HB.out; omega) (by have := HB.out; omega) (by have := HB.out; omega) w
    rw [vCarsOn_yes kb1] at KC1
    have cf1 := (cars_facts ok1).2
    have gc1 : (FloatKind.f32.format.order (carsW L1 l) 981467136 == some .gt || FloatKind.f32.format.order (carsW L1 l) 981467136 == some .eq) = false := by
      have hw1 : carsW L1 l < 981467136 := by rw [hL1]; exact of_decide_eq_true hw
      rw [ge_amt cf1 (by omega)]; exact decide_eq_false (by omega)
    clear hL1 cf1
    refine (KE _).mono ?_
    rintro e w3 ⟨rfl, hb⟩
    replace A5 := A5.step hb
    replace BW := Lib.hid (BW.out.trans (hb.mono BW.out.size))
    clear hb
    go_wp2_with (first | ((with_reducible refine is_load 28 _ rfl ?_); refine wpList_load_at rfl 28 _ rfl _ rfl (rd cs p b l) _ A5 19 (rd_size hl p b l) _ Try.underlying28 rfl (by kernel_rfl) ?_))
    refine (KEs _).mono ?_
    rintro e w4 ⟨rfl, hb⟩
    replace A5 := A5.step hb
    replace BW := Lib.hid (BW.out.trans (hb.mono BW.out.size))
    clear hb
    clear KE KEs
    go_wp2_with (first | ((with_reducible refine is_load 28 _ rfl ?_); refine wpList_load_at rfl 28 _ rfl _ rfl (rd cs p b l) _ A5 19 (rd_size hl p b l) _ Try.underlying28 rfl (by kernel_rfl) ?_))
    refine (KR1 _).mono ?_
    rintro e w5 ⟨rfl, hb⟩
    replace A5 := A5.step hb
    replace BW := Lib.hid (BW.out.trans (hb.mono BW.out.size))
    clear hb
    clear KR1
    have L := At.new w5 (rd (zeros 16) 0 0 0) 28
    have A10 := L.setRow (rd L1 p b l)
    replace A5 := (A5.alloc (.cells (rd (zeros 16) 0 0 0) 28)).setRow_other (k := w5.heap.size) (Nat.ne_of_lt A5.lt) (rd L1 p b l)
    replace BW := Lib.hid (bset (BW.out.alloc BW.out.size (.cells (rd (zeros 16) 0 0 0) 28)) (g := w5.heap.size) BW.out.size (rd L1 p b l))
    go_wp2_with (first | ((with_reducible refine is_store 28 _ _ rfl ?_); refine wpList_store_at rfl 28 _ _ rfl _ rfl (rd L1 p b l) rfl (rd (zeros 16) 0 0 0) _ L 19 (rd_size hl1 p b l) (rd_size (zeros_len 16) 0 0 0) (by kernel_rfl) (rd_one L1 p b l) ?_) | ((with_reducible refine is_load 28 _ rfl ?_); refine wpList_load_at rfl 28 _ rfl _ rfl (rd L1 p b l) _ A10 19 (rd_size hl1 p b l) _ Try.underlying28 rfl (by kernel_rfl) ?_))
    rw [show (#[.float .f32 0, .float .f32 0, .float .f32 0, .float .f32 0, .float .f32 0, .float .f32 0, .float .f32 0, .float .f32 0, .float .f32 0, .float .f32 0, .float .f32 0, .float .f32 0, .float .f32 0, .float .f32 0, .float .f32 0, .float .f32 0, .float .f32 0, .float .f32 0, .float .f32 0] : Array Value) = rd (zeros 16) 0 0 0 from by kernel_rfl]
    clear L
    generalize World.setRow _ _ _ = w6 at A5 A10 BW ⊢
    refine (KC1 _).mono ?_
    rintro e w7 ⟨rfl, hb⟩
    replace A5 := A5.step hb
    replace A10 := A10.step hb
    replace BW := Lib.hid (BW.out.trans (hb.mono BW.out.size))
    clear hb
    clear KC1
    by_cases hm0 : m = 0
    · obtain rfl : m = 0 := by omega
      go_wp2_with fail
      have H2 := h1.step BW.out (Nat.le_refl _)
      refine (A2Share_e a1 c1 x1 _ H2).mono ?_
      rintro e v1 ⟨o, rfl, ho, hb⟩
      clear H2
      replace A5 := A5.step hb
      replace BW := Lib.hid (BW.out.trans (hb.mono BW.out.size))
      clear hb
      have KU := fun w => StepsToFull_any cs p b l hl HC.out (by have := HB.out; omega) (by have := HB.out; omega) (by have := HB.out; omega) o (by omega) 300 (by omega) w
      have KUs := fun w => sStepsToFull_any cs p b l hl HC.out (by have := HB.out; omega) (by have := HB.out; omega) (by have := HB.out; omega) o (by omega) 300 (by omega) w
      rw [vFull_yes hok ho] at KU KUs
      have HU := until_cases (fun k => fullW p b (itL p b cs (fun _ => o) (fun _ => 0) k)) 300
      generalize untilF (fun k => fullW p b (itL p b cs (fun _ => o) (fun _ => 0) k)) 0 300 = q at KU KUs HU
      rcases HU with ⟨m2, hm2, rfl, hw2, -⟩ | rfl
      · have KR3 := fun w => StepRoads_any cs p b l hl HC.out (by have := HB.out; omega) (by have := HB.out; omega) (by have := HB.out; omega) o (by omega) 0 (by omega) ((m2 : Nat) : Int) w
        rw [vSteps_yes hok (by omega) (by omega) (by omega)] at KR3
        obtain ⟨L3, hL3⟩ : ∃ L, L = itL p b cs (fun _ => o) (fun _ => 0) (m2) := ⟨_, rfl⟩
        have ok3 : OkR L3 p b l := by rw [hL3]; exact itL_ok ok _ _ _
        have hl3 := ok3.len
        have kb3 : okB L3 p b l = true := okR_b ok3
        have hc3 : ∀ x ∈ L3, x < 4294967296 := fun x hx => by have := ok3.cars x hx; omega
        rw [← hL3] at KR3
        generalize itS p b cs (fun _ => o) (fun _ => 0) 0 (m2) = s03 at KR3
        generalize itS p b cs (fun _ => o) (fun _ => 0) 16 (m2) = s13 at KR3
        replace hw2 : fullW p b L3 = true := by rw [hL3]; exact hw2
        clear hL3
        go_wp2_with (first | ((with_reducible refine is_load 28 _ rfl ?_); refine wpList_load_at rfl 28 _ rfl _ rfl (rd cs p b l) _ A5 19 (rd_size hl p b l) _ Try.underlying28 rfl (by kernel_rfl) ?_))
        refine (KU _).mono ?_
        rintro e v2 ⟨rfl, hb⟩
        replace A5 := A5.step hb
        replace BW := Lib.hid (BW.out.trans (hb.mono BW.out.size))
        clear hb
        go_wp2_with (first | ((with_reducible refine is_load 28 _ rfl ?_); refine wpList_load_at rfl 28 _ rfl _ rfl (rd cs p b l) _ A5 19 (rd_size hl p b l) _ Try.underlying28 rfl (by kernel_rfl) ?_))
        refine (KUs _).mono ?_
        rintro e v3 ⟨rfl, hb⟩
        replace A5 := A5.step hb
        replace BW := Lib.hid (BW.out.trans (hb.mono BW.out.size))
        clear hb
        clear KU KUs
        go_wp2_with (first | ((with_reducible refine is_load 28 _ rfl ?_); refine wpList_load_at rfl 28 _ rfl _ rfl (rd cs p b l) _ A5 19 (rd_size hl p b l) _ Try.underlying28 rfl (by kernel_rfl) ?_))
        refine (KR3 _).mono ?_
        rintro e v4 ⟨rfl, hb⟩
        replace A5 := A5.step hb
        replace BW := Lib.hid (BW.out.trans (hb.mono BW.out.size))
        clear hb
        clear KR3
        have L := At.new v4 (rd (zeros 16) 0 0 0) 28
        have A27 := L.setRow (rd L3 p b l)
        replace A5 := (A5.alloc (.cells (rd (zeros 16) 0 0 0) 28)).setRow_other (k := v4.heap.size) (Nat.ne_of_lt A5.lt) (rd L3 p b l)
        replace BW := Lib.hid (bset (BW.out.alloc BW.out.size (.cells (rd (zeros 16) 0 0 0) 28)) (g := v4.heap.size) BW.out.size (rd L3 p b l))
        go_wp2_with (first | ((with_reducible refine is_store 28 _ _ rfl ?_); refine wpList_store_at rfl 28 _ _ rfl _ rfl (rd L3 p b l) rfl (rd (zeros 16) 0 0 0) _ L 19 (rd_size hl3 p b l) (rd_size (zeros_len 16) 0 0 0) (by kernel_rfl) (rd_one L3 p b l) ?_))
        rw [show (#[.float .f32 0, .float .f32 0, .float .f32 0, .float .f32 0, .float .f32 0, .float .f32 0, .float .f32 0, .float .f32 0, .float .f32 0, .float .f32 0, .float .f32 0, .float .f32 0, .float .f32 0, .float .f32 0, .float .f32 0, .float .f32 0, .float .f32 0, .float .f32 0, .float .f32 0] : Array Value) = rd (zeros 16) 0 0 0 from by kernel_rfl]
        clear L
        generalize World.setRow _ _ _ = v5 at A5 A27 BW ⊢
        go_loopw [31] (fun iv wr => ∃ i : Nat, i ≤ 16 ∧ iv = .int .i64 (i : Int) ∧ At wr w1.heap.size (rd cs p b l) 28 ∧ At wr v4.heap.size (rd L3 p b l) 28 ∧ Hid (Below w0.heap.size w0 wr)) (fun iv _ => 16 - (intOf iv).toNat)
        case atStart => exact ⟨0, by omega, rfl, A5, A27, BW⟩
        case round =>
          clear A5 A27 BW
          obtain ⟨i, hi, rfl, A5, A27, BW⟩ := hrel
          by_cases hlt : i < 16
          · have kd : (i : Int) < 16 := by omega
            have s2 : IntKind.i64.wrap ((i : Int) + 1) = (i : Int) + 1 := IntWalk.i64_in _ (by omega)
            have KT := fun w => TakesAt_any L3 p b l hl3 hc3 (by have := HB.out; omega) (by have := HB.out; omega) (by have := HB.out; omega) (i : Int) (by omega) w
            rw [vTakesAt_yes kb3 hlt] at KT
            have ht := full_all hw2 hlt
            have gt : (FloatKind.f32.format.order (takesW p b (nth L3 i)) 981467136 == some .gt) = false := by rw [gt_amt (by omega) (by omega)]; exact decide_eq_false (by omega)
            clear ht
            go_wp2_with (first | ((with_reducible refine is_load 28 _ rfl ?_); refine wpList_load_at rfl 28 _ rfl _ rfl (rd L3 p b l) _ A27 19 (rd_size hl3 p b l) _ Try.underlying28 rfl (by kernel_rfl) ?_))
            refine (KT _).mono ?_
            rintro e y1 ⟨rfl, hb⟩
            replace A5 := A5.step hb
            replace A27 := A27.step hb
            replace BW := Lib.hid (BW.out.trans (hb.mono BW.out.size))
            clear hb
            go_wp2_with fail
            exact ⟨⟨i + 1, by omega, by go_num, A5, A27, BW⟩, by simp [intOf]; omega⟩
          · obtain rfl : i = 16 := by omega
            have KZ := fun w => FillRoad_any cs p b l hl HC.out (by have := HB.out; omega) (by have := HB.out; omega) (by have := HB.out; omega) 0 (by omega) w
            rw [vFillRoad_yes hok (by decide)] at KZ
            obtain ⟨Z0, hZ0⟩ : ∃ Z, Z = List.replicate 16 0 := ⟨_, rfl⟩
            rw [← hZ0] at KZ
            have hlz : Z0.length = 16 := by rw [hZ0]; decide
            have hcz : ∀ x ∈ Z0, x < 4294967296 := fun x hx => by rw [hZ0] at hx; obtain rfl := List.eq_of_mem_replicate hx; omega
            have okz : okB Z0 p b l = true := by rw [hZ0]; exact zero_okB ok
            have KD0 := fun w => DelayOf_any Z0 p b l hlz hcz (by have := HB.out; omega) (by have := HB.out; omega) (by have := HB.out; omega) 0 1065353216 (by omega) (by omega) 5 w
            rw [show vDelayOf Z0 p b l 0 1065353216 5 = (0, 0) from by rw [hZ0] at okz ⊢; exact delay_zero (by have := HB.out; omega) (by have := HB.out; omega) (by have := HB.out; omega) (by rw [okz]; exact steps_ok (by omega) (by omega) (by omega))] at KD0
            clear hZ0
            have KD := fun w => DelayOf_any cs p b l hl HC.out (by have := HB.out; omega) (by have := HB.out; omega) (by have := HB.out; omega) o 1065353216 (by omega) (by omega) 5 w
            have KDs := fun w => sDelayOf_any cs p b l hl HC.out (by have := HB.out; omega) (by have := HB.out; omega) (by have := HB.out; omega) o 1065353216 (by omega) (by omega) 5 w
            rw [vDelay_yes hok ho] at KD KDs
            have hD := delay_low (o := o) (m := 1065353216) ok
            generalize mulB (dAll p b cs (fun _ => o) (fun _ => 1065353216) 5) l = D at KD KDs hD
            have q1 := low_eq2 hD
            have q2 := ge_low2 hD
            have q3 : FloatKind.f32.format.order 0 0 = some .eq := by decide +kernel
            clear hD
            go_wp2_with (first | ((with_reducible refine is_load 28 _ rfl ?_); refine wpList_load_at rfl 28 _ rfl _ rfl (rd cs p b l) _ A5 19 (rd_size hl p b l) _ Try.underlying28 rfl (by kernel_rfl) ?_))
            refine (KZ _).mono ?_
            rintro e z1 ⟨rfl, hb⟩
            replace A5 := A5.step hb
            replace BW := Lib.hid (BW.out.trans (hb.mono BW.out.size))
            clear hb
            have L := At.new z1 (rd (zeros 16) 0 0 0) 28
            have A34 := L.setRow (rd Z0 p b l)
            replace A5 := (A5.alloc (.cells (rd (zeros 16) 0 0 0) 28)).setRow_other (k := z1.heap.size) (Nat.ne_of_lt A5.lt) (rd Z0 p b l)
            replace BW := Lib.hid (bset (BW.out.alloc BW.out.size (.cells (rd (zeros 16) 0 0 0) 28)) (g := z1.heap.size) BW.out.size (rd Z0 p b l))
            go_wp2_with (first | ((with_reducible refine is_store 28 _ _ rfl ?_); refine wpList_store_at rfl 28 _ _ rfl _ rfl (rd Z0 p b l) rfl (rd (zeros 16) 0 0 0) _ L 19 (rd_size hlz p b l) (rd_size (zeros_len 16) 0 0 0) (by kernel_rfl) (rd_one Z0 p b l) ?_) | ((with_reducible refine is_load 28 _ rfl ?_); refine wpList_load_at rfl 28 _ rfl _ rfl (rd Z0 p b l) _ A34 19 (rd_size hlz p b l) _ Try.underlying28 rfl (by kernel_rfl) ?_))
            rw [show (#[.float .f32 0, .float .f32 0, .float .f32 0, .float .f32 0, .float .f32 0, .float .f32 0, .float .f32 0, .float .f32 0, .float .f32 0, .float .f32 0, .float .f32 0, .float .f32 0, .float .f32 0, .float .f32 0, .float .f32 0, .float .f32 0, .float .f32 0, .float .f32 0, .float .f32 0] : Array Value) = rd (zeros 16) 0 0 0 from by kernel_rfl]
            clear L
            generalize World.setRow _ _ _ = z2 at A5 A34 BW ⊢
            refine (KD0 _).mono ?_
            rintro e z3 ⟨rfl, hb⟩
            replace A5 := A5.step hb
            replace A34 := A34.step hb
            replace BW := Lib.hid (BW.out.trans (hb.mono BW.out.size))
            clear hb
            go_wp2_with (first | ((with_reducible refine is_load 28 _ rfl ?_); refine wpList_load_at rfl 28 _ rfl _ rfl (rd cs p b l) _ A5 19 (rd_size hl p b l) _ Try.underlying28 rfl (by kernel_rfl) ?_))
            refine (KD _).mono ?_
            rintro e z4 ⟨rfl, hb⟩
            replace A5 := A5.step hb
            replace A34 := A34.step hb
            replace BW := Lib.hid (BW.out.trans (hb.mono BW.out.size))
            clear hb
            go_wp2_with (first | ((with_reducible refine is_load 28 _ rfl ?_); refine wpList_load_at rfl 28 _ rfl _ rfl (rd cs p b l) _ A5 19 (rd_size hl p b l) _ Try.underlying28 rfl (by kernel_rfl) ?_))
            refine (KDs _).mono ?_
            rintro e z5 ⟨rfl, hb⟩
            replace A5 := A5.step hb
            replace A34 := A34.step hb
            replace BW := Lib.hid (BW.out.trans (hb.mono BW.out.size))
            clear hb
            go_wp2_with fail
            go_ret
            exact ⟨rfl, BW.out⟩
      · go_wp2_with (first | ((with_reducible refine is_load 28 _ rfl ?_); refine wpList_load_at rfl 28 _ rfl _ rfl (rd cs p b l) _ A5 19 (rd_size hl p b l) _ Try.underlying28 rfl (by kernel_rfl) ?_))
        refine (KU _).mono ?_
        rintro e v2 ⟨rfl, hb⟩
        replace A5 := A5.step hb
        replace BW := Lib.hid (BW.out.trans (hb.mono BW.out.size))
        clear hb
        go_wp2_with (first | ((with_reducible refine is_load 28 _ rfl ?_); refine wpList_load_at rfl 28 _ rfl _ rfl (rd cs p b l) _ A5 19 (rd_size hl p b l) _ Try.underlying28 rfl (by kernel_rfl) ?_))
        refine (KUs _).mono ?_
        rintro e v3 ⟨rfl, hb⟩
        replace A5 := A5.step hb
        replace BW := Lib.hid (BW.out.trans (hb.mono BW.out.size))
        clear hb
        clear KU KUs
        have KZ := fun w => FillRoad_any cs p b l hl HC.out (by have := HB.out; omega) (by have := HB.out; omega) (by have := HB.out; omega) 0 (by omega) w
        rw [vFillRoad_yes hok (by decide)] at KZ
        obtain ⟨Z0, hZ0⟩ : ∃ Z, Z = List.replicate 16 0 := ⟨_, rfl⟩
        rw [← hZ0] at KZ
        have hlz : Z0.length = 16 := by rw [hZ0]; decide
        have hcz : ∀ x ∈ Z0, x < 4294967296 := fun x hx => by rw [hZ0] at hx; obtain rfl := List.eq_of_mem_replicate hx; omega
        have okz : okB Z0 p b l = true := by rw [hZ0]; exact zero_okB ok
        have KD0 := fun w => DelayOf_any Z0 p b l hlz hcz (by have := HB.out; omega) (by have := HB.out; omega) (by have := HB.out; omega) 0 1065353216 (by omega) (by omega) 5 w
        rw [show vDelayOf Z0 p b l 0 1065353216 5 = (0, 0) from by rw [hZ0] at okz ⊢; exact delay_zero (by have := HB.out; omega) (by have := HB.out; omega) (by have := HB.out; omega) (by rw [okz]; exact steps_ok (by omega) (by omega) (by omega))] at KD0
        clear hZ0
        have KD := fun w => DelayOf_any cs p b l hl HC.out (by have := HB.out; omega) (by have := HB.out; omega) (by have := HB.out; omega) o 1065353216 (by omega) (by omega) 5 w
        have KDs := fun w => sDelayOf_any cs p b l hl HC.out (by have := HB.out; omega) (by have := HB.out; omega) (by have := HB.out; omega) o 1065353216 (by omega) (by omega) 5 w
        rw [vDelay_yes hok ho] at KD KDs
        have hD := delay_low (o := o) (m := 1065353216) ok
        generalize mulB (dAll p b cs (fun _ => o) (fun _ => 1065353216) 5) l = D at KD KDs hD
        have q1 := low_eq2 hD
        have q2 := ge_low2 hD
        have q3 : FloatKind.f32.format.order 0 0 = some .eq := by decide +kernel
        clear hD
        go_wp2_with (first | ((with_reducible refine is_load 28 _ rfl ?_); refine wpList_load_at rfl 28 _ rfl _ rfl (rd cs p b l) _ A5 19 (rd_size hl p b l) _ Try.underlying28 rfl (by kernel_rfl) ?_))
        refine (KZ _).mono ?_
        rintro e z1 ⟨rfl, hb⟩
        replace A5 := A5.step hb
        replace BW := Lib.hid (BW.out.trans (hb.mono BW.out.size))
        clear hb
        have L := At.new z1 (rd (zeros 16) 0 0 0) 28
        have A34 := L.setRow (rd Z0 p b l)
        replace A5 := (A5.alloc (.cells (rd (zeros 16) 0 0 0) 28)).setRow_other (k := z1.heap.size) (Nat.ne_of_lt A5.lt) (rd Z0 p b l)
        replace BW := Lib.hid (bset (BW.out.alloc BW.out.size (.cells (rd (zeros 16) 0 0 0) 28)) (g := z1.heap.size) BW.out.size (rd Z0 p b l))
        go_wp2_with (first | ((with_reducible refine is_store 28 _ _ rfl ?_); refine wpList_store_at rfl 28 _ _ rfl _ rfl (rd Z0 p b l) rfl (rd (zeros 16) 0 0 0) _ L 19 (rd_size hlz p b l) (rd_size (zeros_len 16) 0 0 0) (by kernel_rfl) (rd_one Z0 p b l) ?_) | ((with_reducible refine is_load 28 _ rfl ?_); refine wpList_load_at rfl 28 _ rfl _ rfl (rd Z0 p b l) _ A34 19 (rd_size hlz p b l) _ Try.underlying28 rfl (by kernel_rfl) ?_))
        rw [show (#[.float .f32 0, .float .f32 0, .float .f32 0, .float .f32 0, .float .f32 0, .float .f32 0, .float .f32 0, .float .f32 0, .float .f32 0, .float .f32 0, .float .f32 0, .float .f32 0, .float .f32 0, .float .f32 0, .float .f32 0, .float .f32 0, .float .f32 0, .float .f32 0, .float .f32 0] : Array Value) = rd (zeros 16) 0 0 0 from by kernel_rfl]
        clear L
        generalize World.setRow _ _ _ = z2 at A5 A34 BW ⊢
        refine (KD0 _).mono ?_
        rintro e z3 ⟨rfl, hb⟩
        replace A5 := A5.step hb
        replace A34 := A34.step hb
        replace BW := Lib.hid (BW.out.trans (hb.mono BW.out.size))
        clear hb
        go_wp2_with (first | ((with_reducible refine is_load 28 _ rfl ?_); refine wpList_load_at rfl 28 _ rfl _ rfl (rd cs p b l) _ A5 19 (rd_size hl p b l) _ Try.underlying28 rfl (by kernel_rfl) ?_))
        refine (KD _).mono ?_
        rintro e z4 ⟨rfl, hb⟩
        replace A5 := A5.step hb
        replace A34 := A34.step hb
        replace BW := Lib.hid (BW.out.trans (hb.mono BW.out.size))
        clear hb
        go_wp2_with (first | ((with_reducible refine is_load 28 _ rfl ?_); refine wpList_load_at rfl 28 _ rfl _ rfl (rd cs p b l) _ A5 19 (rd_size hl p b l) _ Try.underlying28 rfl (by kernel_rfl) ?_))
        refine (KDs _).mono ?_
        rintro e z5 ⟨rfl, hb⟩
        replace A5 := A5.step hb
        replace A34 := A34.step hb
        replace BW := Lib.hid (BW.out.trans (hb.mono BW.out.size))
        clear hb
        go_wp2_with fail
        go_ret
        exact ⟨rfl, BW.out⟩
    · obtain ⟨k, rfl⟩ : ∃ k, m = k + 1 := ⟨m - 1, by omega⟩
      have s3 : IntKind.i64.wrap (((k + 1 : Nat) : Int) - 1) = (k : Int) := by rw [IntWalk.i64_in _ (by omega)]; omega
      have s4 : IntKind.i64.wrap ((k : Int) + 1 - 1) = (k : Int) := by rw [IntWalk.i64_in _ (by omega)]; omega
      have s5 : (0 : Int) < ((k + 1 : Nat) : Int) := by omega
      have KR2 := fun w => StepRoads_any cs p b l hl HC.out (by have := HB.out; omega) (by have := HB.out; omega) (by have := HB.out; omega) 0 (by omega) 1065353216 (by omega) ((k : Nat) : Int) w
      rw [vSteps_yes hok (by omega) (by omega) (by omega)] at KR2
      obtain ⟨L2, hL2⟩ : ∃ L, L = itL p b cs (fun _ => 0) (fun _ => 1065353216) (k) := ⟨_, rfl⟩
      have ok2 : OkR L2 p b l := by rw [hL2]; exact itL_ok ok _ _ _
      have hl2 := ok2.len
      have kb2 : okB L2 p b l = true := okR_b ok2
      have hc2 : ∀ x ∈ L2, x < 4294967296 := fun x hx => by have := ok2.cars x hx; omega
      rw [← hL2] at KR2
      generalize itS p b cs (fun _ => 0) (fun _ => 1065353216) 0 (k) = s02 at KR2
      generalize itS p b cs (fun _ => 0) (fun _ => 1065353216) 16 (k) = s12 at KR2
      have KC2 := fun w => CarsOn_any L2 p b l hl2 hc2 (by have := HB.out; omega) (by have := HB.out; omega) (by have := HB.out; omega) w
      rw [vCarsOn_yes kb2] at KC2
      have cf2 := (cars_facts ok2).2
      have gc2 : (FloatKind.f32.format.order (carsW L2 l) 981467136 == some .lt) = false := by
        have hw1 : ¬ carsW L2 l < 981467136 := by rw [hL2]; exact of_decide_eq_false (hf k (by omega))
        rw [lt_amt cf2 (by omega)]; exact decide_eq_false hw1
      clear hL2 cf2
      go_wp2_with (first | ((with_reducible refine is_load 28 _ rfl ?_); refine wpList_load_at rfl 28 _ rfl _ rfl (rd cs p b l) _ A5 19 (rd_size hl p b l) _ Try.underlying28 rfl (by kernel_rfl) ?_))
      refine (KR2 _).mono ?_
      rintro e w8 ⟨rfl, hb⟩
      replace A5 := A5.step hb
      replace BW := Lib.hid (BW.out.trans (hb.mono BW.out.size))
      clear hb
      clear KR2
      have L := At.new w8 (rd (zeros 16) 0 0 0) 28
      have A16 := L.setRow (rd L2 p b l)
      replace A5 := (A5.alloc (.cells (rd (zeros 16) 0 0 0) 28)).setRow_other (k := w8.heap.size) (Nat.ne_of_lt A5.lt) (rd L2 p b l)
      replace BW := Lib.hid (bset (BW.out.alloc BW.out.size (.cells (rd (zeros 16) 0 0 0) 28)) (g := w8.heap.size) BW.out.size (rd L2 p b l))
      go_wp2_with (first | ((with_reducible refine is_store 28 _ _ rfl ?_); refine wpList_store_at rfl 28 _ _ rfl _ rfl (rd L2 p b l) rfl (rd (zeros 16) 0 0 0) _ L 19 (rd_size hl2 p b l) (rd_size (zeros_len 16) 0 0 0) (by kernel_rfl) (rd_one L2 p b l) ?_) | ((with_reducible refine is_load 28 _ rfl ?_); refine wpList_load_at rfl 28 _ rfl _ rfl (rd L2 p b l) _ A16 19 (rd_size hl2 p b l) _ Try.underlying28 rfl (by kernel_rfl) ?_))
      rw [show (#[.float .f32 0, .float .f32 0, .float .f32 0, .float .f32 0, .float .f32 0, .float .f32 0, .float .f32 0, .float .f32 0, .float .f32 0, .float .f32 0, .float .f32 0, .float .f32 0, .float .f32 0, .float .f32 0, .float .f32 0, .float .f32 0, .float .f32 0, .float .f32 0, .float .f32 0] : Array Value) = rd (zeros 16) 0 0 0 from by kernel_rfl]
      clear L
      generalize World.setRow _ _ _ = w9 at A5 A16 BW ⊢
      refine (KC2 _).mono ?_
      rintro e w10 ⟨rfl, hb⟩
      replace A5 := A5.step hb
      replace A16 := A16.step hb
      replace BW := Lib.hid (BW.out.trans (hb.mono BW.out.size))
      clear hb
      clear KC2
      go_wp2_with fail
      have H2 := h1.step BW.out (Nat.le_refl _)
      refine (A2Share_e a1 c1 x1 _ H2).mono ?_
      rintro e v1 ⟨o, rfl, ho, hb⟩
      clear H2
      replace A5 := A5.step hb
      replace BW := Lib.hid (BW.out.trans (hb.mono BW.out.size))
      clear hb
      have KU := fun w => StepsToFull_any cs p b l hl HC.out (by have := HB.out; omega) (by have := HB.out; omega) (by have := HB.out; omega) o (by omega) 300 (by omega) w
      have KUs := fun w => sStepsToFull_any cs p b l hl HC.out (by have := HB.out; omega) (by have := HB.out; omega) (by have := HB.out; omega) o (by omega) 300 (by omega) w
      rw [vFull_yes hok ho] at KU KUs
      have HU := until_cases (fun k => fullW p b (itL p b cs (fun _ => o) (fun _ => 0) k)) 300
      generalize untilF (fun k => fullW p b (itL p b cs (fun _ => o) (fun _ => 0) k)) 0 300 = q at KU KUs HU
      rcases HU with ⟨m2, hm2, rfl, hw2, -⟩ | rfl
      · have KR3 := fun w => StepRoads_any cs p b l hl HC.out (by have := HB.out; omega) (by have := HB.out; omega) (by have := HB.out; omega) o (by omega) 0 (by omega) ((m2 : Nat) : Int) w
        rw [vSteps_yes hok (by omega) (by omega) (by omega)] at KR3
        obtain ⟨L3, hL3⟩ : ∃ L, L = itL p b cs (fun _ => o) (fun _ => 0) (m2) := ⟨_, rfl⟩
        have ok3 : OkR L3 p b l := by rw [hL3]; exact itL_ok ok _ _ _
        have hl3 := ok3.len
        have kb3 : okB L3 p b l = true := okR_b ok3
        have hc3 : ∀ x ∈ L3, x < 4294967296 := fun x hx => by have := ok3.cars x hx; omega
        rw [← hL3] at KR3
        generalize itS p b cs (fun _ => o) (fun _ => 0) 0 (m2) = s03 at KR3
        generalize itS p b cs (fun _ => o) (fun _ => 0) 16 (m2) = s13 at KR3
        replace hw2 : fullW p b L3 = true := by rw [hL3]; exact hw2
        clear hL3
        go_wp2_with (first | ((with_reducible refine is_load 28 _ rfl ?_); refine wpList_load_at rfl 28 _ rfl _ rfl (rd cs p b l) _ A5 19 (rd_size hl p b l) _ Try.underlying28 rfl (by kernel_rfl) ?_))
        refine (KU _).mono ?_
        rintro e v2 ⟨rfl, hb⟩
        replace A5 := A5.step hb
        replace BW := Lib.hid (BW.out.trans (hb.mono BW.out.size))
        clear hb
        go_wp2_with (first | ((with_reducible refine is_load 28 _ rfl ?_); refine wpList_load_at rfl 28 _ rfl _ rfl (rd cs p b l) _ A5 19 (rd_size hl p b l) _ Try.underlying28 rfl (by kernel_rfl) ?_))
        refine (KUs _).mono ?_
        rintro e v3 ⟨rfl, hb⟩
        replace A5 := A5.step hb
        replace BW := Lib.hid (BW.out.trans (hb.mono BW.out.size))
        clear hb
        clear KU KUs
        go_wp2_with (first | ((with_reducible refine is_load 28 _ rfl ?_); refine wpList_load_at rfl 28 _ rfl _ rfl (rd cs p b l) _ A5 19 (rd_size hl p b l) _ Try.underlying28 rfl (by kernel_rfl) ?_))
        refine (KR3 _).mono ?_
        rintro e v4 ⟨rfl, hb⟩
        replace A5 := A5.step hb
        replace BW := Lib.hid (BW.out.trans (hb.mono BW.out.size))
        clear hb
        clear KR3
        have L := At.new v4 (rd (zeros 16) 0 0 0) 28
        have A27 := L.setRow (rd L3 p b l)
        replace A5 := (A5.alloc (.cells (rd (zeros 16) 0 0 0) 28)).setRow_other (k := v4.heap.size) (Nat.ne_of_lt A5.lt) (rd L3 p b l)
        replace BW := Lib.hid (bset (BW.out.alloc BW.out.size (.cells (rd (zeros 16) 0 0 0) 28)) (g := v4.heap.size) BW.out.size (rd L3 p b l))
        go_wp2_with (first | ((with_reducible refine is_store 28 _ _ rfl ?_); refine wpList_store_at rfl 28 _ _ rfl _ rfl (rd L3 p b l) rfl (rd (zeros 16) 0 0 0) _ L 19 (rd_size hl3 p b l) (rd_size (zeros_len 16) 0 0 0) (by kernel_rfl) (rd_one L3 p b l) ?_))
        rw [show (#[.float .f32 0, .float .f32 0, .float .f32 0, .float .f32 0, .float .f32 0, .float .f32 0, .float .f32 0, .float .f32 0, .float .f32 0, .float .f32 0, .float .f32 0, .float .f32 0, .float .f32 0, .float .f32 0, .float .f32 0, .float .f32 0, .float .f32 0, .float .f32 0, .float .f32 0] : Array Value) = rd (zeros 16) 0 0 0 from by kernel_rfl]
        clear L
        generalize World.setRow _ _ _ = v5 at A5 A27 BW ⊢
        go_loopw [31] (fun iv wr => ∃ i : Nat, i ≤ 16 ∧ iv = .int .i64 (i : Int) ∧ At wr w1.heap.size (rd cs p b l) 28 ∧ At wr v4.heap.size (rd L3 p b l) 28 ∧ Hid (Below w0.heap.size w0 wr)) (fun iv _ => 16 - (intOf iv).toNat)
        case atStart => exact ⟨0, by omega, rfl, A5, A27, BW⟩
        case round =>
          clear A5 A27 BW
          obtain ⟨i, hi, rfl, A5, A27, BW⟩ := hrel
          by_cases hlt : i < 16
          · have kd : (i : Int) < 16 := by omega
            have s2 : IntKind.i64.wrap ((i : Int) + 1) = (i : Int) + 1 := IntWalk.i64_in _ (by omega)
            have KT := fun w => TakesAt_any L3 p b l hl3 hc3 (by have := HB.out; omega) (by have := HB.out; omega) (by have := HB.out; omega) (i : Int) (by omega) w
            rw [vTakesAt_yes kb3 hlt] at KT
            have ht := full_all hw2 hlt
            have gt : (FloatKind.f32.format.order (takesW p b (nth L3 i)) 981467136 == some .gt) = false := by rw [gt_amt (by omega) (by omega)]; exact decide_eq_false (by omega)
            clear ht
            go_wp2_with (first | ((with_reducible refine is_load 28 _ rfl ?_); refine wpList_load_at rfl 28 _ rfl _ rfl (rd L3 p b l) _ A27 19 (rd_size hl3 p b l) _ Try.underlying28 rfl (by kernel_rfl) ?_))
            refine (KT _).mono ?_
            rintro e y1 ⟨rfl, hb⟩
            replace A5 := A5.step hb
            replace A27 := A27.step hb
            replace BW := Lib.hid (BW.out.trans (hb.mono BW.out.size))
            clear hb
            go_wp2_with fail
            exact ⟨⟨i + 1, by omega, by go_num, A5, A27, BW⟩, by simp [intOf]; omega⟩
          · obtain rfl : i = 16 := by omega
            have KZ := fun w => FillRoad_any cs p b l hl HC.out (by have := HB.out; omega) (by have := HB.out; omega) (by have := HB.out; omega) 0 (by omega) w
            rw [vFillRoad_yes hok (by decide)] at KZ
            obtain ⟨Z0, hZ0⟩ : ∃ Z, Z = List.replicate 16 0 := ⟨_, rfl⟩
            rw [← hZ0] at KZ
            have hlz : Z0.length = 16 := by rw [hZ0]; decide
            have hcz : ∀ x ∈ Z0, x < 4294967296 := fun x hx => by rw [hZ0] at hx; obtain rfl := List.eq_of_mem_replicate hx; omega
            have okz : okB Z0 p b l = true := by rw [hZ0]; exact zero_okB ok
            have KD0 := fun w => DelayOf_any Z0 p b l hlz hcz (by have := HB.out; omega) (by have := HB.out; omega) (by have := HB.out; omega) 0 1065353216 (by omega) (by omega) 5 w
            rw [show vDelayOf Z0 p b l 0 1065353216 5 = (0, 0) from by rw [hZ0] at okz ⊢; exact delay_zero (by have := HB.out; omega) (by have := HB.out; omega) (by have := HB.out; omega) (by rw [okz]; exact steps_ok (by omega) (by omega) (by omega))] at KD0
            clear hZ0
            have KD := fun w => DelayOf_any cs p b l hl HC.out (by have := HB.out; omega) (by have := HB.out; omega) (by have := HB.out; omega) o 1065353216 (by omega) (by omega) 5 w
            have KDs := fun w => sDelayOf_any cs p b l hl HC.out (by have := HB.out; omega) (by have := HB.out; omega) (by have := HB.out; omega) o 1065353216 (by omega) (by omega) 5 w
            rw [vDelay_yes hok ho] at KD KDs
            have hD := delay_low (o := o) (m := 1065353216) ok
            generalize mulB (dAll p b cs (fun _ => o) (fun _ => 1065353216) 5) l = D at KD KDs hD
            have q1 := low_eq2 hD
            have q2 := ge_low2 hD
            have q3 : FloatKind.f32.format.order 0 0 = some .eq := by decide +kernel
            clear hD
            go_wp2_with (first | ((with_reducible refine is_load 28 _ rfl ?_); refine wpList_load_at rfl 28 _ rfl _ rfl (rd cs p b l) _ A5 19 (rd_size hl p b l) _ Try.underlying28 rfl (by kernel_rfl) ?_))
            refine (KZ _).mono ?_
            rintro e z1 ⟨rfl, hb⟩
            replace A5 := A5.step hb
            replace BW := Lib.hid (BW.out.trans (hb.mono BW.out.size))
            clear hb
            have L := At.new z1 (rd (zeros 16) 0 0 0) 28
            have A34 := L.setRow (rd Z0 p b l)
            replace A5 := (A5.alloc (.cells (rd (zeros 16) 0 0 0) 28)).setRow_other (k := z1.heap.size) (Nat.ne_of_lt A5.lt) (rd Z0 p b l)
            replace BW := Lib.hid (bset (BW.out.alloc BW.out.size (.cells (rd (zeros 16) 0 0 0) 28)) (g := z1.heap.size) BW.out.size (rd Z0 p b l))
            go_wp2_with (first | ((with_reducible refine is_store 28 _ _ rfl ?_); refine wpList_store_at rfl 28 _ _ rfl _ rfl (rd Z0 p b l) rfl (rd (zeros 16) 0 0 0) _ L 19 (rd_size hlz p b l) (rd_size (zeros_len 16) 0 0 0) (by kernel_rfl) (rd_one Z0 p b l) ?_) | ((with_reducible refine is_load 28 _ rfl ?_); refine wpList_load_at rfl 28 _ rfl _ rfl (rd Z0 p b l) _ A34 19 (rd_size hlz p b l) _ Try.underlying28 rfl (by kernel_rfl) ?_))
            rw [show (#[.float .f32 0, .float .f32 0, .float .f32 0, .float .f32 0, .float .f32 0, .float .f32 0, .float .f32 0, .float .f32 0, .float .f32 0, .float .f32 0, .float .f32 0, .float .f32 0, .float .f32 0, .float .f32 0, .float .f32 0, .float .f32 0, .float .f32 0, .float .f32 0, .float .f32 0] : Array Value) = rd (zeros 16) 0 0 0 from by kernel_rfl]
            clear L
            generalize World.setRow _ _ _ = z2 at A5 A34 BW ⊢
            refine (KD0 _).mono ?_
            rintro e z3 ⟨rfl, hb⟩
            replace A5 := A5.step hb
            replace A34 := A34.step hb
            replace BW := Lib.hid (BW.out.trans (hb.mono BW.out.size))
            clear hb
            go_wp2_with (first | ((with_reducible refine is_load 28 _ rfl ?_); refine wpList_load_at rfl 28 _ rfl _ rfl (rd cs p b l) _ A5 19 (rd_size hl p b l) _ Try.underlying28 rfl (by kernel_rfl) ?_))
            refine (KD _).mono ?_
            rintro e z4 ⟨rfl, hb⟩
            replace A5 := A5.step hb
            replace A34 := A34.step hb
            replace BW := Lib.hid (BW.out.trans (hb.mono BW.out.size))
            clear hb
            go_wp2_with (first | ((with_reducible refine is_load 28 _ rfl ?_); refine wpList_load_at rfl 28 _ rfl _ rfl (rd cs p b l) _ A5 19 (rd_size hl p b l) _ Try.underlying28 rfl (by kernel_rfl) ?_))
            refine (KDs _).mono ?_
            rintro e z5 ⟨rfl, hb⟩
            replace A5 := A5.step hb
            replace A34 := A34.step hb
            replace BW := Lib.hid (BW.out.trans (hb.mono BW.out.size))
            clear hb
            go_wp2_with fail
            go_ret
            exact ⟨rfl, BW.out⟩
      · go_wp2_with (first | ((with_reducible refine is_load 28 _ rfl ?_); refine wpList_load_at rfl 28 _ rfl _ rfl (rd cs p b l) _ A5 19 (rd_size hl p b l) _ Try.underlying28 rfl (by kernel_rfl) ?_))
        refine (KU _).mono ?_
        rintro e v2 ⟨rfl, hb⟩
        replace A5 := A5.step hb
        replace BW := Lib.hid (BW.out.trans (hb.mono BW.out.size))
        clear hb
        go_wp2_with (first | ((with_reducible refine is_load 28 _ rfl ?_); refine wpList_load_at rfl 28 _ rfl _ rfl (rd cs p b l) _ A5 19 (rd_size hl p b l) _ Try.underlying28 rfl (by kernel_rfl) ?_))
        refine (KUs _).mono ?_
        rintro e v3 ⟨rfl, hb⟩
        replace A5 := A5.step hb
        replace BW := Lib.hid (BW.out.trans (hb.mono BW.out.size))
        clear hb
        clear KU KUs
        have KZ := fun w => FillRoad_any cs p b l hl HC.out (by have := HB.out; omega) (by have := HB.out; omega) (by have := HB.out; omega) 0 (by omega) w
        rw [vFillRoad_yes hok (by decide)] at KZ
        obtain ⟨Z0, hZ0⟩ : ∃ Z, Z = List.replicate 16 0 := ⟨_, rfl⟩
        rw [← hZ0] at KZ
        have hlz : Z0.length = 16 := by rw [hZ0]; decide
        have hcz : ∀ x ∈ Z0, x < 4294967296 := fun x hx => by rw [hZ0] at hx; obtain rfl := List.eq_of_mem_replicate hx; omega
        have okz : okB Z0 p b l = true := by rw [hZ0]; exact zero_okB ok
        have KD0 := fun w => DelayOf_any Z0 p b l hlz hcz (by have := HB.out; omega) (by have := HB.out; omega) (by have := HB.out; omega) 0 1065353216 (by omega) (by omega) 5 w
        rw [show vDelayOf Z0 p b l 0 1065353216 5 = (0, 0) from by rw [hZ0] at okz ⊢; exact delay_zero (by have := HB.out; omega) (by have := HB.out; omega) (by have := HB.out; omega) (by rw [okz]; exact steps_ok (by omega) (by omega) (by omega))] at KD0
        clear hZ0
        have KD := fun w => DelayOf_any cs p b l hl HC.out (by have := HB.out; omega) (by have := HB.out; omega) (by have := HB.out; omega) o 1065353216 (by omega) (by omega) 5 w
        have KDs := fun w => sDelayOf_any cs p b l hl HC.out (by have := HB.out; omega) (by have := HB.out; omega) (by have := HB.out; omega) o 1065353216 (by omega) (by omega) 5 w
        rw [vDelay_yes hok ho] at KD KDs
        have hD := delay_low (o := o) (m := 1065353216) ok
        generalize mulB (dAll p b cs (fun _ => o) (fun _ => 1065353216) 5) l = D at KD KDs hD
        have q1 := low_eq2 hD
        have q2 := ge_low2 hD
        have q3 : FloatKind.f32.format.order 0 0 = some .eq := by decide +kernel
        clear hD
        go_wp2_with (first | ((with_reducible refine is_load 28 _ rfl ?_); refine wpList_load_at rfl 28 _ rfl _ rfl (rd cs p b l) _ A5 19 (rd_size hl p b l) _ Try.underlying28 rfl (by kernel_rfl) ?_))
        refine (KZ _).mono ?_
        rintro e z1 ⟨rfl, hb⟩
        replace A5 := A5.step hb
        replace BW := Lib.hid (BW.out.trans (hb.mono BW.out.size))
        clear hb
        have L := At.new z1 (rd (zeros 16) 0 0 0) 28
        have A34 := L.setRow (rd Z0 p b l)
        replace A5 := (A5.alloc (.cells (rd (zeros 16) 0 0 0) 28)).setRow_other (k := z1.heap.size) (Nat.ne_of_lt A5.lt) (rd Z0 p b l)
        replace BW := Lib.hid (bset (BW.out.alloc BW.out.size (.cells (rd (zeros 16) 0 0 0) 28)) (g := z1.heap.size) BW.out.size (rd Z0 p b l))
        go_wp2_with (first | ((with_reducible refine is_store 28 _ _ rfl ?_); refine wpList_store_at rfl 28 _ _ rfl _ rfl (rd Z0 p b l) rfl (rd (zeros 16) 0 0 0) _ L 19 (rd_size hlz p b l) (rd_size (zeros_len 16) 0 0 0) (by kernel_rfl) (rd_one Z0 p b l) ?_) | ((with_reducible refine is_load 28 _ rfl ?_); refine wpList_load_at rfl 28 _ rfl _ rfl (rd Z0 p b l) _ A34 19 (rd_size hlz p b l) _ Try.underlying28 rfl (by kernel_rfl) ?_))
        rw [show (#[.float .f32 0, .float .f32 0, .float .f32 0, .float .f32 0, .float .f32 0, .float .f32 0, .float .f32 0, .float .f32 0, .float .f32 0, .float .f32 0, .float .f32 0, .float .f32 0, .float .f32 0, .float .f32 0, .float .f32 0, .float .f32 0, .float .f32 0, .float .f32 0, .float .f32 0] : Array Value) = rd (zeros 16) 0 0 0 from by kernel_rfl]
        clear L
        generalize World.setRow _ _ _ = z2 at A5 A34 BW ⊢
        refine (KD0 _).mono ?_
        rintro e z3 ⟨rfl, hb⟩
        replace A5 := A5.step hb
        replace A34 := A34.step hb
        replace BW := Lib.hid (BW.out.trans (hb.mono BW.out.size))
        clear hb
        go_wp2_with (first | ((with_reducible refine is_load 28 _ rfl ?_); refine wpList_load_at rfl 28 _ rfl _ rfl (rd cs p b l) _ A5 19 (rd_size hl p b l) _ Try.underlying28 rfl (by kernel_rfl) ?_))
        refine (KD _).mono ?_
        rintro e z4 ⟨rfl, hb⟩
        replace A5 := A5.step hb
        replace A34 := A34.step hb
        replace BW := Lib.hid (BW.out.trans (hb.mono BW.out.size))
        clear hb
        go_wp2_with (first | ((with_reducible refine is_load 28 _ rfl ?_); refine wpList_load_at rfl 28 _ rfl _ rfl (rd cs p b l) _ A5 19 (rd_size hl p b l) _ Try.underlying28 rfl (by kernel_rfl) ?_))
        refine (KDs _).mono ?_
        rintro e z5 ⟨rfl, hb⟩
        replace A5 := A5.step hb
        replace A34 := A34.step hb
        replace BW := Lib.hid (BW.out.trans (hb.mono BW.out.size))
        clear hb
        go_wp2_with fail
        go_ret
        exact ⟨rfl, BW.out⟩
  · refine (KE _).mono ?_
    rintro e w3 ⟨rfl, hb⟩
    replace A5 := A5.step hb
    replace BW := Lib.hid (BW.out.trans (hb.mono BW.out.size))
    clear hb
    go_wp2_with (first | ((with_reducible refine is_load 28 _ rfl ?_); refine wpList_load_at rfl 28 _ rfl _ rfl (rd cs p b l) _ A5 19 (rd_size hl p b l) _ Try.underlying28 rfl (by kernel_rfl) ?_))
    refine (KEs _).mono ?_
    rintro e w4 ⟨rfl, hb⟩
    replace A5 := A5.step hb
    replace BW := Lib.hid (BW.out.trans (hb.mono BW.out.size))
    clear hb
    clear KE KEs
    go_wp2_with fail
    have H2 := h1.step BW.out (Nat.le_refl _)
    refine (A2Share_e a1 c1 x1 _ H2).mono ?_
    rintro e v1 ⟨o, rfl, ho, hb⟩
    clear H2
    replace A5 := A5.step hb
    replace BW := Lib.hid (BW.out.trans (hb.mono BW.out.size))
    clear hb
    have KU := fun w => StepsToFull_any cs p b l hl HC.out (by have := HB.out; omega) (by have := HB.out; omega) (by have := HB.out; omega) o (by omega) 300 (by omega) w
    have KUs := fun w => sStepsToFull_any cs p b l hl HC.out (by have := HB.out; omega) (by have := HB.out; omega) (by have := HB.out; omega) o (by omega) 300 (by omega) w
    rw [vFull_yes hok ho] at KU KUs
    have HU := until_cases (fun k => fullW p b (itL p b cs (fun _ => o) (fun _ => 0) k)) 300
    generalize untilF (fun k => fullW p b (itL p b cs (fun _ => o) (fun _ => 0) k)) 0 300 = q at KU KUs HU
    rcases HU with ⟨m2, hm2, rfl, hw2, -⟩ | rfl
    · have KR3 := fun w => StepRoads_any cs p b l hl HC.out (by have := HB.out; omega) (by have := HB.out; omega) (by have := HB.out; omega) o (by omega) 0 (by omega) ((m2 : Nat) : Int) w
      rw [vSteps_yes hok (by omega) (by omega) (by omega)] at KR3
      obtain ⟨L3, hL3⟩ : ∃ L, L = itL p b cs (fun _ => o) (fun _ => 0) (m2) := ⟨_, rfl⟩
      have ok3 : OkR L3 p b l := by rw [hL3]; exact itL_ok ok _ _ _
      have hl3 := ok3.len
      have kb3 : okB L3 p b l = true := okR_b ok3
      have hc3 : ∀ x ∈ L3, x < 4294967296 := fun x hx => by have := ok3.cars x hx; omega
      rw [← hL3] at KR3
      generalize itS p b cs (fun _ => o) (fun _ => 0) 0 (m2) = s03 at KR3
      generalize itS p b cs (fun _ => o) (fun _ => 0) 16 (m2) = s13 at KR3
      replace hw2 : fullW p b L3 = true := by rw [hL3]; exact hw2
      clear hL3
      go_wp2_with (first | ((with_reducible refine is_load 28 _ rfl ?_); refine wpList_load_at rfl 28 _ rfl _ rfl (rd cs p b l) _ A5 19 (rd_size hl p b l) _ Try.underlying28 rfl (by kernel_rfl) ?_))
      refine (KU _).mono ?_
      rintro e v2 ⟨rfl, hb⟩
      replace A5 := A5.step hb
      replace BW := Lib.hid (BW.out.trans (hb.mono BW.out.size))
      clear hb
      go_wp2_with (first | ((with_reducible refine is_load 28 _ rfl ?_); refine wpList_load_at rfl 28 _ rfl _ rfl (rd cs p b l) _ A5 19 (rd_size hl p b l) _ Try.underlying28 rfl (by kernel_rfl) ?_))
      refine (KUs _).mono ?_
      rintro e v3 ⟨rfl, hb⟩
      replace A5 := A5.step hb
      replace BW := Lib.hid (BW.out.trans (hb.mono BW.out.size))
      clear hb
      clear KU KUs
      go_wp2_with (first | ((with_reducible refine is_load 28 _ rfl ?_); refine wpList_load_at rfl 28 _ rfl _ rfl (rd cs p b l) _ A5 19 (rd_size hl p b l) _ Try.underlying28 rfl (by kernel_rfl) ?_))
      refine (KR3 _).mono ?_
      rintro e v4 ⟨rfl, hb⟩
      replace A5 := A5.step hb
      replace BW := Lib.hid (BW.out.trans (hb.mono BW.out.size))
      clear hb
      clear KR3
      have L := At.new v4 (rd (zeros 16) 0 0 0) 28
      have A27 := L.setRow (rd L3 p b l)
      replace A5 := (A5.alloc (.cells (rd (zeros 16) 0 0 0) 28)).setRow_other (k := v4.heap.size) (Nat.ne_of_lt A5.lt) (rd L3 p b l)
      replace BW := Lib.hid (bset (BW.out.alloc BW.out.size (.cells (rd (zeros 16) 0 0 0) 28)) (g := v4.heap.size) BW.out.size (rd L3 p b l))
      go_wp2_with (first | ((with_reducible refine is_store 28 _ _ rfl ?_); refine wpList_store_at rfl 28 _ _ rfl _ rfl (rd L3 p b l) rfl (rd (zeros 16) 0 0 0) _ L 19 (rd_size hl3 p b l) (rd_size (zeros_len 16) 0 0 0) (by kernel_rfl) (rd_one L3 p b l) ?_))
      rw [show (#[.float .f32 0, .float .f32 0, .float .f32 0, .float .f32 0, .float .f32 0, .float .f32 0, .float .f32 0, .float .f32 0, .float .f32 0, .float .f32 0, .float .f32 0, .float .f32 0, .float .f32 0, .float .f32 0, .float .f32 0, .float .f32 0, .float .f32 0, .float .f32 0, .float .f32 0] : Array Value) = rd (zeros 16) 0 0 0 from by kernel_rfl]
      clear L
      generalize World.setRow _ _ _ = v5 at A5 A27 BW ⊢
      go_loopw [31] (fun iv wr => ∃ i : Nat, i ≤ 16 ∧ iv = .int .i64 (i : Int) ∧ At wr w1.heap.size (rd cs p b l) 28 ∧ At wr v4.heap.size (rd L3 p b l) 28 ∧ Hid (Below w0.heap.size w0 wr)) (fun iv _ => 16 - (intOf iv).toNat)
      case atStart => exact ⟨0, by omega, rfl, A5, A27, BW⟩
      case round =>
        clear A5 A27 BW
        obtain ⟨i, hi, rfl, A5, A27, BW⟩ := hrel
        by_cases hlt : i < 16
        · have kd : (i : Int) < 16 := by omega
          have s2 : IntKind.i64.wrap ((i : Int) + 1) = (i : Int) + 1 := IntWalk.i64_in _ (by omega)
          have KT := fun w => TakesAt_any L3 p b l hl3 hc3 (by have := HB.out; omega) (by have := HB.out; omega) (by have := HB.out; omega) (i : Int) (by omega) w
          rw [vTakesAt_yes kb3 hlt] at KT
          have ht := full_all hw2 hlt
          have gt : (FloatKind.f32.format.order (takesW p b (nth L3 i)) 981467136 == some .gt) = false := by rw [gt_amt (by omega) (by omega)]; exact decide_eq_false (by omega)
          clear ht
          go_wp2_with (first | ((with_reducible refine is_load 28 _ rfl ?_); refine wpList_load_at rfl 28 _ rfl _ rfl (rd L3 p b l) _ A27 19 (rd_size hl3 p b l) _ Try.underlying28 rfl (by kernel_rfl) ?_))
          refine (KT _).mono ?_
          rintro e y1 ⟨rfl, hb⟩
          replace A5 := A5.step hb
          replace A27 := A27.step hb
          replace BW := Lib.hid (BW.out.trans (hb.mono BW.out.size))
          clear hb
          go_wp2_with fail
          exact ⟨⟨i + 1, by omega, by go_num, A5, A27, BW⟩, by simp [intOf]; omega⟩
        · obtain rfl : i = 16 := by omega
          have KZ := fun w => FillRoad_any cs p b l hl HC.out (by have := HB.out; omega) (by have := HB.out; omega) (by have := HB.out; omega) 0 (by omega) w
          rw [vFillRoad_yes hok (by decide)] at KZ
          obtain ⟨Z0, hZ0⟩ : ∃ Z, Z = List.replicate 16 0 := ⟨_, rfl⟩
          rw [← hZ0] at KZ
          have hlz : Z0.length = 16 := by rw [hZ0]; decide
          have hcz : ∀ x ∈ Z0, x < 4294967296 := fun x hx => by rw [hZ0] at hx; obtain rfl := List.eq_of_mem_replicate hx; omega
          have okz : okB Z0 p b l = true := by rw [hZ0]; exact zero_okB ok
          have KD0 := fun w => DelayOf_any Z0 p b l hlz hcz (by have := HB.out; omega) (by have := HB.out; omega) (by have := HB.out; omega) 0 1065353216 (by omega) (by omega) 5 w
          rw [show vDelayOf Z0 p b l 0 1065353216 5 = (0, 0) from by rw [hZ0] at okz ⊢; exact delay_zero (by have := HB.out; omega) (by have := HB.out; omega) (by have := HB.out; omega) (by rw [okz]; exact steps_ok (by omega) (by omega) (by omega))] at KD0
          clear hZ0
          have KD := fun w => DelayOf_any cs p b l hl HC.out (by have := HB.out; omega) (by have := HB.out; omega) (by have := HB.out; omega) o 1065353216 (by omega) (by omega) 5 w
          have KDs := fun w => sDelayOf_any cs p b l hl HC.out (by have := HB.out; omega) (by have := HB.out; omega) (by have := HB.out; omega) o 1065353216 (by omega) (by omega) 5 w
          rw [vDelay_yes hok ho] at KD KDs
          have hD := delay_low (o := o) (m := 1065353216) ok
          generalize mulB (dAll p b cs (fun _ => o) (fun _ => 1065353216) 5) l = D at KD KDs hD
          have q1 := low_eq2 hD
          have q2 := ge_low2 hD
          have q3 : FloatKind.f32.format.order 0 0 = some .eq := by decide +kernel
          clear hD
          go_wp2_with (first | ((with_reducible refine is_load 28 _ rfl ?_); refine wpList_load_at rfl 28 _ rfl _ rfl (rd cs p b l) _ A5 19 (rd_size hl p b l) _ Try.underlying28 rfl (by kernel_rfl) ?_))
          refine (KZ _).mono ?_
          rintro e z1 ⟨rfl, hb⟩
          replace A5 := A5.step hb
          replace BW := Lib.hid (BW.out.trans (hb.mono BW.out.size))
          clear hb
          have L := At.new z1 (rd (zeros 16) 0 0 0) 28
          have A34 := L.setRow (rd Z0 p b l)
          replace A5 := (A5.alloc (.cells (rd (zeros 16) 0 0 0) 28)).setRow_other (k := z1.heap.size) (Nat.ne_of_lt A5.lt) (rd Z0 p b l)
          replace BW := Lib.hid (bset (BW.out.alloc BW.out.size (.cells (rd (zeros 16) 0 0 0) 28)) (g := z1.heap.size) BW.out.size (rd Z0 p b l))
          go_wp2_with (first | ((with_reducible refine is_store 28 _ _ rfl ?_); refine wpList_store_at rfl 28 _ _ rfl _ rfl (rd Z0 p b l) rfl (rd (zeros 16) 0 0 0) _ L 19 (rd_size hlz p b l) (rd_size (zeros_len 16) 0 0 0) (by kernel_rfl) (rd_one Z0 p b l) ?_) | ((with_reducible refine is_load 28 _ rfl ?_); refine wpList_load_at rfl 28 _ rfl _ rfl (rd Z0 p b l) _ A34 19 (rd_size hlz p b l) _ Try.underlying28 rfl (by kernel_rfl) ?_))
          rw [show (#[.float .f32 0, .float .f32 0, .float .f32 0, .float .f32 0, .float .f32 0, .float .f32 0, .float .f32 0, .float .f32 0, .float .f32 0, .float .f32 0, .float .f32 0, .float .f32 0, .float .f32 0, .float .f32 0, .float .f32 0, .float .f32 0, .float .f32 0, .float .f32 0, .float .f32 0] : Array Value) = rd (zeros 16) 0 0 0 from by kernel_rfl]
          clear L
          generalize World.setRow _ _ _ = z2 at A5 A34 BW ⊢
          refine (KD0 _).mono ?_
          rintro e z3 ⟨rfl, hb⟩
          replace A5 := A5.step hb
          replace A34 := A34.step hb
          replace BW := Lib.hid (BW.out.trans (hb.mono BW.out.size))
          clear hb
          go_wp2_with (first | ((with_reducible refine is_load 28 _ rfl ?_); refine wpList_load_at rfl 28 _ rfl _ rfl (rd cs p b l) _ A5 19 (rd_size hl p b l) _ Try.underlying28 rfl (by kernel_rfl) ?_))
          refine (KD _).mono ?_
          rintro e z4 ⟨rfl, hb⟩
          replace A5 := A5.step hb
          replace A34 := A34.step hb
          replace BW := Lib.hid (BW.out.trans (hb.mono BW.out.size))
          clear hb
          go_wp2_with (first | ((with_reducible refine is_load 28 _ rfl ?_); refine wpList_load_at rfl 28 _ rfl _ rfl (rd cs p b l) _ A5 19 (rd_size hl p b l) _ Try.underlying28 rfl (by kernel_rfl) ?_))
          refine (KDs _).mono ?_
          rintro e z5 ⟨rfl, hb⟩
          replace A5 := A5.step hb
          replace A34 := A34.step hb
          replace BW := Lib.hid (BW.out.trans (hb.mono BW.out.size))
          clear hb
          go_wp2_with fail
          go_ret
          exact ⟨rfl, BW.out⟩
    · go_wp2_with (first | ((with_reducible refine is_load 28 _ rfl ?_); refine wpList_load_at rfl 28 _ rfl _ rfl (rd cs p b l) _ A5 19 (rd_size hl p b l) _ Try.underlying28 rfl (by kernel_rfl) ?_))
      refine (KU _).mono ?_
      rintro e v2 ⟨rfl, hb⟩
      replace A5 := A5.step hb
      replace BW := Lib.hid (BW.out.trans (hb.mono BW.out.size))
      clear hb
      go_wp2_with (first | ((with_reducible refine is_load 28 _ rfl ?_); refine wpList_load_at rfl 28 _ rfl _ rfl (rd cs p b l) _ A5 19 (rd_size hl p b l) _ Try.underlying28 rfl (by kernel_rfl) ?_))
      refine (KUs _).mono ?_
      rintro e v3 ⟨rfl, hb⟩
      replace A5 := A5.step hb
      replace BW := Lib.hid (BW.out.trans (hb.mono BW.out.size))
      clear hb
      clear KU KUs
      have KZ := fun w => FillRoad_any cs p b l hl HC.out (by have := HB.out; omega) (by have := HB.out; omega) (by have := HB.out; omega) 0 (by omega) w
      rw [vFillRoad_yes hok (by decide)] at KZ
      obtain ⟨Z0, hZ0⟩ : ∃ Z, Z = List.replicate 16 0 := ⟨_, rfl⟩
      rw [← hZ0] at KZ
      have hlz : Z0.length = 16 := by rw [hZ0]; decide
      have hcz : ∀ x ∈ Z0, x < 4294967296 := fun x hx => by rw [hZ0] at hx; obtain rfl := List.eq_of_mem_replicate hx; omega
      have okz : okB Z0 p b l = true := by rw [hZ0]; exact zero_okB ok
      have KD0 := fun w => DelayOf_any Z0 p b l hlz hcz (by have := HB.out; omega) (by have := HB.out; omega) (by have := HB.out; omega) 0 1065353216 (by omega) (by omega) 5 w
      rw [show vDelayOf Z0 p b l 0 1065353216 5 = (0, 0) from by rw [hZ0] at okz ⊢; exact delay_zero (by have := HB.out; omega) (by have := HB.out; omega) (by have := HB.out; omega) (by rw [okz]; exact steps_ok (by omega) (by omega) (by omega))] at KD0
      clear hZ0
      have KD := fun w => DelayOf_any cs p b l hl HC.out (by have := HB.out; omega) (by have := HB.out; omega) (by have := HB.out; omega) o 1065353216 (by omega) (by omega) 5 w
      have KDs := fun w => sDelayOf_any cs p b l hl HC.out (by have := HB.out; omega) (by have := HB.out; omega) (by have := HB.out; omega) o 1065353216 (by omega) (by omega) 5 w
      rw [vDelay_yes hok ho] at KD KDs
      have hD := delay_low (o := o) (m := 1065353216) ok
      generalize mulB (dAll p b cs (fun _ => o) (fun _ => 1065353216) 5) l = D at KD KDs hD
      have q1 := low_eq2 hD
      have q2 := ge_low2 hD
      have q3 : FloatKind.f32.format.order 0 0 = some .eq := by decide +kernel
      clear hD
      go_wp2_with (first | ((with_reducible refine is_load 28 _ rfl ?_); refine wpList_load_at rfl 28 _ rfl _ rfl (rd cs p b l) _ A5 19 (rd_size hl p b l) _ Try.underlying28 rfl (by kernel_rfl) ?_))
      refine (KZ _).mono ?_
      rintro e z1 ⟨rfl, hb⟩
      replace A5 := A5.step hb
      replace BW := Lib.hid (BW.out.trans (hb.mono BW.out.size))
      clear hb
      have L := At.new z1 (rd (zeros 16) 0 0 0) 28
      have A34 := L.setRow (rd Z0 p b l)
      replace A5 := (A5.alloc (.cells (rd (zeros 16) 0 0 0) 28)).setRow_other (k := z1.heap.size) (Nat.ne_of_lt A5.lt) (rd Z0 p b l)
      replace BW := Lib.hid (bset (BW.out.alloc BW.out.size (.cells (rd (zeros 16) 0 0 0) 28)) (g := z1.heap.size) BW.out.size (rd Z0 p b l))
      go_wp2_with (first | ((with_reducible refine is_store 28 _ _ rfl ?_); refine wpList_store_at rfl 28 _ _ rfl _ rfl (rd Z0 p b l) rfl (rd (zeros 16) 0 0 0) _ L 19 (rd_size hlz p b l) (rd_size (zeros_len 16) 0 0 0) (by kernel_rfl) (rd_one Z0 p b l) ?_) | ((with_reducible refine is_load 28 _ rfl ?_); refine wpList_load_at rfl 28 _ rfl _ rfl (rd Z0 p b l) _ A34 19 (rd_size hlz p b l) _ Try.underlying28 rfl (by kernel_rfl) ?_))
      rw [show (#[.float .f32 0, .float .f32 0, .float .f32 0, .float .f32 0, .float .f32 0, .float .f32 0, .float .f32 0, .float .f32 0, .float .f32 0, .float .f32 0, .float .f32 0, .float .f32 0, .float .f32 0, .float .f32 0, .float .f32 0, .float .f32 0, .float .f32 0, .float .f32 0, .float .f32 0] : Array Value) = rd (zeros 16) 0 0 0 from by kernel_rfl]
      clear L
      generalize World.setRow _ _ _ = z2 at A5 A34 BW ⊢
      refine (KD0 _).mono ?_
      rintro e z3 ⟨rfl, hb⟩
      replace A5 := A5.step hb
      replace A34 := A34.step hb
      replace BW := Lib.hid (BW.out.trans (hb.mono BW.out.size))
      clear hb
      go_wp2_with (first | ((with_reducible refine is_load 28 _ rfl ?_); refine wpList_load_at rfl 28 _ rfl _ rfl (rd cs p b l) _ A5 19 (rd_size hl p b l) _ Try.underlying28 rfl (by kernel_rfl) ?_))
      refine (KD _).mono ?_
      rintro e z4 ⟨rfl, hb⟩
      replace A5 := A5.step hb
      replace A34 := A34.step hb
      replace BW := Lib.hid (BW.out.trans (hb.mono BW.out.size))
      clear hb
      go_wp2_with (first | ((with_reducible refine is_load 28 _ rfl ?_); refine wpList_load_at rfl 28 _ rfl _ rfl (rd cs p b l) _ A5 19 (rd_size hl p b l) _ Try.underlying28 rfl (by kernel_rfl) ?_))
      refine (KDs _).mono ?_
      rintro e z5 ⟨rfl, hb⟩
      replace A5 := A5.step hb
      replace A34 := A34.step hb
      replace BW := Lib.hid (BW.out.trans (hb.mono BW.out.size))
      clear hb
      go_wp2_with fail
      go_ret
      exact ⟨rfl, BW.out⟩

set_option maxRecDepth 100000 in
theorem lifted (os : Os) (started : os.Started) (H : Type) (enc : TypeId × Value → H) :
    ReturnsInHanded {} Try.checked os 3 .any (Rows.fnEmptiedSpec.pre6 enc Try.prog Try.f3 Rows.fnEmptiedRow.domain false) (Rows.fnEmptiedSpec.post enc Try.prog Try.f3 false true false false) := by
  refine law_liftedS enc os started (by kernel_rfl) Try.func3
    (ChangeSpec.witness6 (enc := enc) (C := Try.checked) false ⟨#[], #[.slice none 0 0, .slice none 0 0], []⟩ 24 (by kernel_rfl) (by kernel_rfl) (by kernel_rfl) (by kernel_rfl)) rfl (by kernel_rfl) ?_ ?_ ?_
  · rw [Try.params3]
    intro t ht
    have hall : (#[22, 22].toList.all fun u => Try.prog.readableRec u && decide (u < Try.prog.types.size)) = true := by kernel_rfl
    have := List.all_eq_true.1 hall t ht
    simpa using this
  · intro ds h
    rw [Try.params3] at h
    match ds, h with
    | [d0, d1], _ => rfl
  · intro W base args ds ps hl hval hA
    rw [Try.params3] at hl hval hA
    obtain ⟨v0, v1, rfl⟩ : ∃ v0 v1, args = #[v0, v1] := by
      obtain ⟨l⟩ := args
      match l, hl with
      | [v0, v1], _ => exact ⟨v0, v1, rfl⟩
    obtain ⟨vx0, vy0, dd0, de0, pp0, pq0, ee0, -, -, tr0, rr0⟩ := trodAll_cons hA
    obtain ⟨rfl, rfl⟩ := List.cons.inj ee0
    obtain ⟨vx1, vy1, dd1, de1, pp1, pq1, ee1, -, -, tr1, rr1⟩ := trodAll_cons rr0
    obtain ⟨rfl, rfl⟩ := List.cons.inj ee1
    obtain ⟨a0, c0, x0, rfl, h0⟩ := shape_bytes Try.underlying22 Try.underlying5 (by kernel_rfl) (okWide_slice Try.underlying22 (hval 0 _ _ rfl rfl)) tr0
    obtain ⟨a1, c1, x1, rfl, h1⟩ := shape_bytes Try.underlying22 Try.underlying5 (by kernel_rfl) (okWide_slice Try.underlying22 (hval 1 _ _ rfl rfl)) tr1
    exact walk W a0 c0 x0 h0 a1 c1 x1 h1

/-- THE STATEMENT -/
theorem proved : Rows.FnEmptiedSaid := by
  first
    | (refine OpenClaim.holds_of_wide 3 Try.f3 rfl rfl rfl rfl rfl rfl rfl ⟨rfl, rfl, rfl, rfl, rfl⟩ rfl rfl rfl rfl rfl (by kernel_rfl) Try.func3 (by kernel_rfl) (of_decide_eq_true (by kernel_rfl)) ?_ (fun os started H enc _ => lifted os started H enc))
    | (refine OpenClaim.holds_of_wide_leaving 3 Try.f3 rfl rfl rfl rfl rfl rfl rfl ⟨rfl, rfl, rfl, rfl, rfl⟩ rfl rfl rfl rfl rfl (by kernel_rfl) Try.func3 (by kernel_rfl) (of_decide_eq_true (by kernel_rfl)) ?_ (fun os started H enc _ => leaving_of_handed (lifted os started H enc)))
  unfold Func.isWrapper
  first | (rw [if_pos (by decide +kernel)]; kernel_rfl) | (rw [if_neg (by decide +kernel)]; exact ⟨rfl, rfl⟩)
#print axioms proved
end Go.Proofs.Ytpcobfcnpeoihaa.lawFnEmptied
