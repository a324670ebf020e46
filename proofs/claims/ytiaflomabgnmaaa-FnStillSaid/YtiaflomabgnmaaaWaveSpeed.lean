/-
  CONTRACTS: WaveSpeed.
-/
import Derived.Test.YtiaflomabgnmaaaRefuse
import Derived.Test.YtiaflomabgnmaaaQuo
import Derived.Test.YtiaflomabgnmaaaG10
namespace Go.Proofs.Ytiaflomabgnmaaa
open Go Go.RowKit
set_option maxRecDepth 100000

/-- the code of a road and two shares -/
def waveC (ok : Bool) (x y : Nat) : Int := if ok then (if shrB x && shrB y then (if x = y then 4 else 0) else 2) else 1

theorem waveC_zero {ok : Bool} {x y : Nat} (h : waveC ok x y = 0) : ok = true ∧ x ≤ 1065353216 ∧ y ≤ 1065353216 ∧ x ≠ y := by
  unfold waveC at h
  cases ok
  · simp at h
  · cases c1 : shrB x
    · rw [c1] at h; simp at h
    · cases c2 : shrB y
      · rw [c1, c2] at h; simp at h
      · rw [c1, c2] at h
        unfold shrB at c1 c2
        simp at c1 c2
        refine ⟨rfl, c1, c2, fun e => ?_⟩
        simp [e] at h

/-- the flow of a share -/
def shareW (p b x : Nat) : Nat := min (mulB p x) (mulB b (subB 1065353216 x))

theorem share_facts {cs : List Nat} {p b l x : Nat} (ok : OkR cs p b l) (hx : x ≤ 1065353216) : floatBits .mul .f32 p x = some (mulB p x) ∧ floatBits .sub .f32 1065353216 x = some (subB 1065353216 x) ∧ floatBits .mul .f32 b (subB 1065353216 x) = some (mulB b (subB 1065353216 x)) ∧ mulB p x ≤ 1065353216 ∧ mulB b (subB 1065353216 x) ≤ 1065353216 ∧ shareW p b x ≤ x := by
  have hp := ok.pace
  have hb := ok.back
  have h1 := mul_one_le hp.2 hx
  have h2 := one_sub hx
  have h3 := mul_one_le hb.2 h2.2
  have h4 := mul_share (x := p) (y := x) hp.2 (by omega)
  refine ⟨h1.1, h2.1, h3.1, h1.2, h3.2, ?_⟩
  unfold shareW
  exact Nat.le_trans (Nat.min_le_left _ _) h4

theorem flowOfShare_any (cs : List Nat) (p b l : Nat) (ok : OkR cs p b l) (x : Nat) (hx : x ≤ 1065353216) (w : World) :
    Calls Try.prog 28 #[.agg (rd cs p b l), .float .f32 x] w fun e w' => e = .returned (.float .f32 (shareW p b x)) ∧ Below w.heap.size w w' := by
  have A1 := At.new w (rd cs p b l) 28
  have sf_x := share_facts ok hx
  have c1 := A1.cell (rd_pace ok.len p b l)
  have c2 := A1.cell (rd_back ok.len p b l)
  have m_x : ∀ t w, (binOp .mul t (.float .f32 p) (.float .f32 x)).run Try.prog w = .ok (.float .f32 (mulB p x)) w := fun t w => run_float_arith w .mul t .f32 _ _ _ (sf_x).1
  have s_x : ∀ t w, (binOp .sub t (.float .f32 1065353216) (.float .f32 x)).run Try.prog w = .ok (.float .f32 (subB 1065353216 x)) w := fun t w => run_float_arith w .sub t .f32 _ _ _ (sf_x).2.1
  have k_x : ∀ t w, (binOp .mul t (.float .f32 b) (.float .f32 (subB 1065353216 x))).run Try.prog w = .ok (.float .f32 (mulB b (subB 1065353216 x))) w := fun t w => run_float_arith w .mul t .f32 _ _ _ (sf_x).2.2.1
  have hm : ∀ ts t w, (Builtin.min_ ts t #[.float .f32 (mulB p x), .float .f32 (mulB b (subB 1065353216 x))]).run Try.prog w = .ok (.float .f32 (shareW p b x)) w := fun ts t w => run_min_amt w ts t (Nat.le_trans sf_x.2.2.2.1 (by omega)) (Nat.le_trans sf_x.2.2.2.2.1 (by omega))
  clear sf_x
  go_enter Try.func28, Try.ntmps28
  go_wp2
  go_ret
  exact ⟨rfl, b0 _ _⟩

theorem waveChk_any (gr gx gy : Nat) (cs : List Nat) (p b l : Nat) (hl : cs.length = 16) (hc : ∀ x ∈ cs, x < 4294967296) (hp : p < 4294967296) (hb : b < 4294967296) (hla : l < 4294967296) (x y : Nat) (hx : x < 4294967296) (hy : y < 4294967296) (w : World) (Ar : At w gr (rd cs p b l) 28) (Ax : At w gx #[.float .f32 x] 24) (Ay : At w gy #[.float .f32 y] 24) :
    Calls Try.prog 26 #[.pointer (some ⟨gr, 0, none⟩), .pointer (some ⟨gx, 0, none⟩), .pointer (some ⟨gy, 0, none⟩)] w fun e w' => Chk (waveC (okB cs p b l) x y) e ∧ Below w.heap.size w w' := by
  cases h : okB cs p b l
  · rw [show waveC false x y = 1 from rfl]
    go_enter Try.func26, Try.ntmps26
    go_wp2_with (((with_reducible refine is_load 28 _ rfl ?_); refine wpList_load_at rfl 28 _ rfl _ rfl (rd cs p b l) _ (by assumption) 19 (rd_size hl p b l) _ Try.underlying28 rfl (by kernel_rfl) ?_))
    have KV := ValidRoad_any cs p b l hl hc hp hb hla w
    rw [h] at KV
    refine KV.mono ?_
    rintro e w1 ⟨rfl, hb1⟩
    clear KV
    go_wp2_with fail
    refine (need_bad 1 w1).mono ?_
    rintro e w2 ⟨rfl, rfl⟩
    go_wp2
    exact ⟨rfl, .inr ⟨by decide, _, .inl rfl, rfl⟩, hb1⟩
  · cases c1 : shrB x
    · rw [show waveC true x y = 2 from by unfold waveC; rw [c1]; rfl]
      go_enter Try.func26, Try.ntmps26
      go_wp2_with (((with_reducible refine is_load 28 _ rfl ?_); refine wpList_load_at rfl 28 _ rfl _ rfl (rd cs p b l) _ (by assumption) 19 (rd_size hl p b l) _ Try.underlying28 rfl (by kernel_rfl) ?_))
      have KV := ValidRoad_any cs p b l hl hc hp hb hla w
      rw [h] at KV
      refine KV.mono ?_
      rintro e w1 ⟨rfl, hb1⟩
      clear KV
      have cx := (Ax.step hb1).cell (k := 0) (v := .float .f32 x) rfl
      have cy := (Ay.step hb1).cell (k := 0) (v := .float .f32 y) rfl
      go_wp2_with fail
      refine (need_ok 1 w1).mono ?_
      rintro e w2 ⟨rfl, rfl⟩
      have KX := IsShare_any x hx w2
      rw [c1] at KX
      go_wp2_with fail
      refine KX.mono ?_
      rintro e w3 ⟨rfl, n3, rfl⟩
      clear KX
      go_wp2_with fail
      refine (need_bad 2 (w2.drewN n3)).mono ?_
      rintro e w5 ⟨rfl, rfl⟩
      go_wp2
      exact ⟨rfl, .inr ⟨by decide, _, .inl rfl, rfl⟩, bdrew hb1 _⟩
    · cases c2 : shrB y
      · rw [show waveC true x y = 2 from by unfold waveC; rw [c1, c2]; rfl]
        go_enter Try.func26, Try.ntmps26
        go_wp2_with (((with_reducible refine is_load 28 _ rfl ?_); refine wpList_load_at rfl 28 _ rfl _ rfl (rd cs p b l) _ (by assumption) 19 (rd_size hl p b l) _ Try.underlying28 rfl (by kernel_rfl) ?_))
        have KV := ValidRoad_any cs p b l hl hc hp hb hla w
        rw [h] at KV
        refine KV.mono ?_
        rintro e w1 ⟨rfl, hb1⟩
        clear KV
        have cx := (Ax.step hb1).cell (k := 0) (v := .float .f32 x) rfl
        have cy := (Ay.step hb1).cell (k := 0) (v := .float .f32 y) rfl
        go_wp2_with fail
        refine (need_ok 1 w1).mono ?_
        rintro e w2 ⟨rfl, rfl⟩
        have KX := IsShare_any x hx w2
        rw [c1] at KX
        go_wp2_with fail
        refine KX.mono ?_
        rintro e w3 ⟨rfl, n3, rfl⟩
        clear KX
        have cy3 : (w2.drewN n3).cell? ⟨gy, 0, none⟩ = some (.float .f32 y) := cy
        have KY := IsShare_any y hy (w2.drewN n3)
        rw [c2] at KY
        go_wp2_with fail
        refine KY.mono ?_
        rintro e w4 ⟨rfl, n4, rfl⟩
        clear KY
        go_wp2_with fail
        refine (need_bad 2 (w2.drewN (n3 + n4))).mono ?_
        rintro e w5 ⟨rfl, rfl⟩
        go_wp2
        exact ⟨rfl, .inr ⟨by decide, _, .inl rfl, rfl⟩, bdrew hb1 _⟩
      · have hx1 : x ≤ 1065353216 := by unfold shrB at c1; simpa using c1
        have hy1 : y ≤ 1065353216 := by unfold shrB at c2; simpa using c2
        have heq := eq_amt (x := x) (y := y) (by omega) (by omega)
        by_cases c : x = y
        · rw [show waveC true x y = 4 from by unfold waveC; rw [c1, c2, if_pos c]; rfl]
          rw [decide_eq_true c] at heq
          have hne : (FloatKind.f32.format.order x y != some .eq) = false := by show (!(FloatKind.f32.format.order x y == some .eq)) = false; rw [heq]; rfl
          have C := Lib.hid c
          clear c
          go_enter Try.func26, Try.ntmps26
          go_wp2_with (((with_reducible refine is_load 28 _ rfl ?_); refine wpList_load_at rfl 28 _ rfl _ rfl (rd cs p b l) _ (by assumption) 19 (rd_size hl p b l) _ Try.underlying28 rfl (by kernel_rfl) ?_))
          have KV := ValidRoad_any cs p b l hl hc hp hb hla w
          rw [h] at KV
          refine KV.mono ?_
          rintro e w1 ⟨rfl, hb1⟩
          clear KV
          have cx := (Ax.step hb1).cell (k := 0) (v := .float .f32 x) rfl
          have cy := (Ay.step hb1).cell (k := 0) (v := .float .f32 y) rfl
          go_wp2_with fail
          refine (need_ok 1 w1).mono ?_
          rintro e w2 ⟨rfl, rfl⟩
          have KX := IsShare_any x hx w2
          rw [c1] at KX
          go_wp2_with fail
          refine KX.mono ?_
          rintro e w3 ⟨rfl, n3, rfl⟩
          clear KX
          have cy3 : (w2.drewN n3).cell? ⟨gy, 0, none⟩ = some (.float .f32 y) := cy
          have KY := IsShare_any y hy (w2.drewN n3)
          rw [c2] at KY
          go_wp2_with fail
          refine KY.mono ?_
          rintro e w4 ⟨rfl, n4, rfl⟩
          clear KY
          go_wp2_with fail
          refine (need_ok 2 (w2.drewN (n3 + n4))).mono ?_
          rintro e w5 ⟨rfl, rfl⟩
          have cx5 : (w2.drewN (n3 + n4)).cell? ⟨gx, 0, none⟩ = some (.float .f32 x) := cx
          have cy5 : (w2.drewN (n3 + n4)).cell? ⟨gy, 0, none⟩ = some (.float .f32 y) := cy
          go_wp2_with fail
          refine (need_bad 4 (w2.drewN (n3 + n4))).mono ?_
          rintro e w6 ⟨rfl, rfl⟩
          go_wp2
          exact ⟨rfl, .inr ⟨by decide, _, .inl rfl, rfl⟩, bdrew hb1 _⟩
        · rw [show waveC true x y = 0 from by unfold waveC; rw [c1, c2, if_neg c]; rfl]
          rw [decide_eq_false c] at heq
          have hne : (FloatKind.f32.format.order x y != some .eq) = true := by show (!(FloatKind.f32.format.order x y == some .eq)) = true; rw [heq]; rfl
          have C := Lib.hid c
          clear c
          go_enter Try.func26, Try.ntmps26
          go_wp2_with (((with_reducible refine is_load 28 _ rfl ?_); refine wpList_load_at rfl 28 _ rfl _ rfl (rd cs p b l) _ (by assumption) 19 (rd_size hl p b l) _ Try.underlying28 rfl (by kernel_rfl) ?_))
          have KV := ValidRoad_any cs p b l hl hc hp hb hla w
          rw [h] at KV
          refine KV.mono ?_
          rintro e w1 ⟨rfl, hb1⟩
          clear KV
          have cx := (Ax.step hb1).cell (k := 0) (v := .float .f32 x) rfl
          have cy := (Ay.step hb1).cell (k := 0) (v := .float .f32 y) rfl
          go_wp2_with fail
          refine (need_ok 1 w1).mono ?_
          rintro e w2 ⟨rfl, rfl⟩
          have KX := IsShare_any x hx w2
          rw [c1] at KX
          go_wp2_with fail
          refine KX.mono ?_
          rintro e w3 ⟨rfl, n3, rfl⟩
          clear KX
          have cy3 : (w2.drewN n3).cell? ⟨gy, 0, none⟩ = some (.float .f32 y) := cy
          have KY := IsShare_any y hy (w2.drewN n3)
          rw [c2] at KY
          go_wp2_with fail
          refine KY.mono ?_
          rintro e w4 ⟨rfl, n4, rfl⟩
          clear KY
          go_wp2_with fail
          refine (need_ok 2 (w2.drewN (n3 + n4))).mono ?_
          rintro e w5 ⟨rfl, rfl⟩
          have cx5 : (w2.drewN (n3 + n4)).cell? ⟨gx, 0, none⟩ = some (.float .f32 x) := cx
          have cy5 : (w2.drewN (n3 + n4)).cell? ⟨gy, 0, none⟩ = some (.float .f32 y) := cy
          go_wp2_with fail
          refine (need_ok 4 (w2.drewN (n3 + n4))).mono ?_
          rintro e w6 ⟨rfl, rfl⟩
          go_wp2
          go_end0
          exact ⟨.inl ⟨rfl, rfl⟩, bdrew hb1 _⟩

def vWaveSpeed (cs : List Nat) (p b l x y : Nat) : Nat × Int := if waveC (okB cs p b l) x y = 0 then (quoB (difB (shareW p b y) (shareW p b x)) (difB y x), 0) else (0, waveC (okB cs p b l) x y)

theorem wave_all {cs : List Nat} {p b l x y : Nat} (ok : OkR cs p b l) (hx : x ≤ 1065353216) (hy : y ≤ 1065353216) (hne : x ≠ y) :
    floatBits .sub .f32 (shareW p b y) (shareW p b x) = some (difB (shareW p b y) (shareW p b x)) ∧ floatBits .sub .f32 y x = some (difB y x) ∧ floatBits .quo .f32 (difB (shareW p b y) (shareW p b x)) (difB y x) = some (quoB (difB (shareW p b y) (shareW p b x)) (difB y x)) ∧ quoB (difB (shareW p b y) (shareW p b x)) (difB y x) < 4294967296 ∧ nanB (quoB (difB (shareW p b y) (shareW p b x)) (difB y x)) = false ∧ finB (quoB (difB (shareW p b y) (shareW p b x)) (difB y x)) = true := by
  have h1 := (share_facts ok hx).2.2.2.2.2
  have h2 := (share_facts ok hy).2.2.2.2.2
  have d1 := dif_sgn (show shareW p b y < 2139095040 by omega) (show shareW p b x < 2139095040 by omega)
  have d2 := dif_sgn (show y < 2139095040 by omega) (show x < 2139095040 by omega)
  obtain ⟨f1, f2, f3, f4⟩ := wave_fin hx hy h1 h2 hne
  exact ⟨dif_eq (by omega) (by omega), dif_eq (by omega) (by omega), quo_eq d1.lt d2.lt f1 f2 f3, quo_fin f4⟩

theorem vWaveSpeed_good {cs : List Nat} (hl : cs.length = 16) (p b l x y : Nat) : (vWaveSpeed cs p b l x y).1 < 4294967296 ∧ nanB (vWaveSpeed cs p b l x y).1 = false := by
  unfold vWaveSpeed
  by_cases h : waveC (okB cs p b l) x y = 0
  · rw [if_pos h]
    obtain ⟨h1, h2, h3, h4⟩ := waveC_zero h
    have := wave_all (OkR.of hl h1) h2 h3 h4
    exact ⟨this.2.2.2.1, this.2.2.2.2.1⟩
  · rw [if_neg h]; exact ⟨show 0 < 4294967296 by decide, show nanB 0 = false by decide⟩

theorem WaveSpeed_any (cs : List Nat) (p b l : Nat) (hl : cs.length = 16) (hc : ∀ x ∈ cs, x < 4294967296) (hp : p < 4294967296) (hb : b < 4294967296) (hla : l < 4294967296) (x y : Nat) (hx : x < 4294967296) (hy : y < 4294967296) (w : World) :
    Calls Try.prog 13 #[.agg (rd cs p b l), .float .f32 x, .float .f32 y] w fun e w' => e = .returned (.tuple #[.float .f32 (vWaveSpeed cs p b l x y).1, .int .i64 (vWaveSpeed cs p b l x y).2]) ∧ Below w.heap.size w w' := by
  have hmf : ∀ (fn : Fn) (first cap : Array Value) (w : World), (Instr.makeFunc fn first cap).run Try.prog w = .ok (.func fn first cap) w := fun _ _ _ _ => rfl
  have A0 : At (((w.alloc (.cells (rd cs p b l) 28)).alloc (.cells #[.float .f32 x] 24)).alloc (.cells #[.float .f32 y] 24)) w.heap.size (rd cs p b l) 28 := ((At.new w _ _).alloc _).alloc _
  have X0 : At (((w.alloc (.cells (rd cs p b l) 28)).alloc (.cells #[.float .f32 x] 24)).alloc (.cells #[.float .f32 y] 24)) (w.heap.size + 1) #[.float .f32 x] 24 := (At.last1 w _ _ _).alloc _
  have Y0 : At (((w.alloc (.cells (rd cs p b l) 28)).alloc (.cells #[.float .f32 x] 24)).alloc (.cells #[.float .f32 y] 24)) (w.heap.size + 1 + 1) #[.float .f32 y] 24 := At.last2 w _ _ _ _
  have B0 := Lib.hid (bnew (bnew (b0 w (.cells (rd cs p b l) 28)) (.cells #[.float .f32 x] 24)) (.cells #[.float .f32 y] 24))
  have KR := refusalOf_any 26 _ _ _ (fun _ => by kernel_rfl) fun w1 h1 => waveChk_any _ _ _ cs p b l hl hc hp hb hla x y hx hy w1 (A0.step h1) (X0.step h1) (Y0.step h1)
  by_cases h : waveC (okB cs p b l) x y = 0
  · have e : (vWaveSpeed cs p b l x y) = (quoB (difB (shareW p b y) (shareW p b x)) (difB y x), 0) := by unfold vWaveSpeed; rw [if_pos h]
    obtain ⟨z1, z2, z3, z4⟩ := waveC_zero h
    have ok := OkR.of hl z1
    have wa := wave_all ok z2 z3 z4
    have f1 : ∀ t w, (binOp .sub t (.float .f32 (shareW p b y)) (.float .f32 (shareW p b x))).run Try.prog w = .ok (.float .f32 (difB (shareW p b y) (shareW p b x))) w := fun t w => run_float_arith w .sub t .f32 _ _ _ wa.1
    have f2 : ∀ t w, (binOp .sub t (.float .f32 y) (.float .f32 x)).run Try.prog w = .ok (.float .f32 (difB y x)) w := fun t w => run_float_arith w .sub t .f32 _ _ _ wa.2.1
    have f3 : ∀ t w, (binOp .quo t (.float .f32 (difB (shareW p b y) (shareW p b x))) (.float .f32 (difB y x))).run Try.prog w = .ok (.float .f32 (quoB (difB (shareW p b y) (shareW p b x)) (difB y x))) w := fun t w => run_float_arith w .quo t .f32 _ _ _ wa.2.2.1
    have KX := flowOfShare_any cs p b l ok x z2
    have KY := flowOfShare_any cs p b l ok y z3
    rw [h] at KR
    rw [e]
    have ZZ := Lib.hid z4
    clear e wa z1 z4
    go_enter Try.func13, Try.ntmps13
    go_wp2_with fail
    refine KR.mono ?_
    rintro e' w1 ⟨rfl, hb1⟩
    have Ar2 := A0.step hb1
    have Ax2 := X0.step hb1
    have Ay2 := Y0.step hb1
    have B1 := Lib.hid (bthen B0.out hb1)
    clear KR A0 X0 Y0 B0 hb1
    have hC := Cb.const w1
    go_wp2
    refine wp_region_cb (by kernel_rfl) (by kernel_rfl) ?_
    repeat (first
      | go_big_quiet_skip
      | (go_big_quiet_want; first
        | (refine q_cell 24 _ rfl _ Try.underlying24 _ rfl Ax2 _ rfl ?_; go_simp; go_big_quiet_on)
        | (refine q_cell 24 _ rfl _ Try.underlying24 _ rfl Ay2 _ rfl ?_; go_simp; go_big_quiet_on)
        | (refine q_row 28 _ rfl rfl Ar2 19 (rd_size hl p b l) _ Try.underlying28 rfl (by kernel_rfl) ?_; go_simp; go_big_quiet_on)
        | (go_big_quiet_op; go_big_quiet_on)
        | (go_big_quiet_op; apply Exists.intro; refine ⟨fun w' hw' => ?_, ?_⟩; (go_at_call 28; (with_reducible show Calls _ _ #[.agg (rd cs p b l), .float .f32 x] _ _); exact (KX _).mono fun _ _ h => ⟨h.1, hw'.step h.2⟩); go_big_quiet_on)
        | (go_big_quiet_op; apply Exists.intro; refine ⟨fun w' hw' => ?_, ?_⟩; (go_at_call 28; (with_reducible show Calls _ _ #[.agg (rd cs p b l), .float .f32 y] _ _); exact (KY _).mono fun _ _ h => ⟨h.1, hw'.step h.2⟩); go_big_quiet_on)))
    refine wpQuiet_nil ?_
    intro w9 hw9
    go_wp2
    go_ret2
    exact ⟨rfl, bthen B1.out hw9⟩
  · have e : (vWaveSpeed cs p b l x y) = (0, waveC (okB cs p b l) x y) := by unfold vWaveSpeed; rw [if_neg h]
    rw [e]
    generalize waveC (okB cs p b l) x y = c at KR h ⊢
    clear e
    go_enter Try.func13, Try.ntmps13
    go_wp2_with fail
    refine KR.mono ?_
    rintro e' w1 ⟨rfl, hb1⟩
    have B1 := Lib.hid (bthen B0.out hb1)
    clear KR A0 X0 Y0 B0 hb1
    go_wp2_with fail
    go_ret2
    exact ⟨rfl, B1.out⟩

end Go.Proofs.Ytiaflomabgnmaaa
