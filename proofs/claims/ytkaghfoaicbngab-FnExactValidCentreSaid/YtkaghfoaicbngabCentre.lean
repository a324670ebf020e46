/-
  CONTRACTS: valid centres, both sides; the shape of a centre that came in.
-/
import Derived.Test.YtkaghfoaicbngabCentre0
namespace Go.Proofs.Ytkaghfoaicbngab
open Go Go.ChangeShapes Go.WideShapes Go.ChangeAt Go.RowKit
set_option maxRecDepth 100000

theorem drewN2j (W : World) (a b : Nat) : (W.drewN a).drewN b = W.drewN (a + b) := by simp [World.drewN, Nat.add_assoc]

set_option maxHeartbeats 1000000 in
theorem l07Ok_any (g : Nat) (p : Int) (hp : -9223372036854775808 ≤ p ∧ p ≤ 9223372036854775807) (G : Nat) (xs : List Int) (hn : xs.length ≤ 1048576) (T T2 : TypeId) (w : World) (h0 : At w g (ce p (.slice (some ⟨G, 0, none⟩) xs.length xs.length)) T) (h1 : At w G (il xs) T2) :
    Calls Try.prog 73 #[.pointer (some ⟨g, 0, none⟩)] w fun e w' => e = .returned (.bool (okCe p xs)) ∧ Below w.heap.size w w' := by
  have P0 := h0
  have HX := Lib.hid (And.intro h0 h1)
  have c00 := P0.cell (ce_0 _ _)
  have c01 := P0.cell (ce_1 _ _)
  have KP := l00In_b p 1 9
  have KL := l00In_b (xs.length : Int) 1 6
  clear h0 h1
  cases qp : inB 1 9 p
  · rw [qp] at KP
    have hv := Lib.hid (okCe_0 qp (xs := xs))
    clear qp
    go_enter Try.func73, Try.ntmps73
    go_wp2_with fail
    refine (KP _).mono ?_
    rintro e w1 ⟨rfl, n1, rfl⟩
    go_wp2_with fail
    go_ret
    exact ⟨by rw [hv.out]; rfl, bdrew (Below.refl _ _) _⟩
  · rw [qp] at KP
    cases ql : inB 1 6 (xs.length : Int)
    · rw [ql] at KL
      have hv := Lib.hid (okCe_1 ql (p := p))
      clear qp ql
      go_enter Try.func73, Try.ntmps73
      go_wp2_with fail
      refine (KP _).mono ?_
      rintro e w1 ⟨rfl, n1, rfl⟩
      have P1 := P0.drewN n1
      have c10 := P1.cell (ce_0 _ _)
      have c11 := P1.cell (ce_1 _ _)
      go_wp2_with fail
      refine (KL _).mono ?_
      rintro e w2 ⟨rfl, n2, rfl⟩
      rw [drewN2j]
      go_wp2_with fail
      go_ret
      exact ⟨by rw [hv.out]; rfl, bdrew (Below.refl _ _) _⟩
    · rw [ql] at KL
      have hp9 := of_decide_eq_true qp
      have s9 : IntKind.i64.wrap (p - 1) = p - 1 := IntWalk.i64_in _ (by omega)
      have hv := okCe_2 qp ql
      obtain ⟨f, hf0⟩ : ∃ f, f = okF p xs := ⟨_, rfl⟩
      rw [← hf0] at hv
      have HF := Lib.hid hf0
      clear hf0 qp ql hp9
      obtain ⟨n, hnn⟩ : ∃ n, n = xs.length := ⟨_, rfl⟩
      rw [← hnn] at hv hn KL P0 c01
      have HN := Lib.hid hnn
      have HV := Lib.hid hv
      rw [← hnn] at HX
      clear hv hnn
      go_enter Try.func73, Try.ntmps73
      go_wp2_with fail
      refine (KP _).mono ?_
      rintro e w1 ⟨rfl, n1, rfl⟩
      have P1 := P0.drewN n1
      have c10 := P1.cell (ce_0 _ _)
      have c11 := P1.cell (ce_1 _ _)
      go_wp2_with fail
      refine (KL _).mono ?_
      rintro e w2 ⟨rfl, n2, rfl⟩
      have B2 := Lib.hid (bdrew (Below.refl w.heap.size w) (n1 + n2))
      rw [drewN2j]
      go_wp2_with fail
      generalize w.drewN (n1 + n2) = w2 at B2 ⊢
      go_loopw [3] (fun iv wr => ∃ k : Nat, k ≤ n ∧ iv = .int .i64 (k : Int) ∧ Hid (allJ f k = true) ∧ Hid (Below w.heap.size w wr)) (fun iv _ => n - (intOf iv).toNat)
      case atStart => exact ⟨0, by omega, rfl, Lib.hid rfl, B2⟩
      case round =>
        clear B2
        obtain ⟨k, hk, rfl, hal, B3⟩ := hrel
        have P3 := HX.out.1.step B3.out
        have G3 := HX.out.2.step B3.out
        have c30 := P3.cell (ce_0 _ _)
        have c31 := P3.cell (ce_1 _ _)
        by_cases hlt : k < n
        · have kd : (k : Int) < (n : Int) := by omega
          have s2 : IntKind.i64.wrap ((k : Int) + 1) = (k : Int) + 1 := IntWalk.i64_in _ (by omega)
          have dk := il_get (xs := xs) (k := k) (by rw [← HN.out]; exact hlt)
          have KI := fun w => l00In_b (ith xs k) 0 (p - 1) w
          have hnx : allJ f (k + 1) = f k := by show (_ && _) = _; rw [hal.out]; rfl
          have hfk : f k = inB 0 (p - 1) (ith xs k) := by rw [HF.out]; rfl
          rw [← hfk] at KI
          clear hfk
          go_wp2_with fail
          refine wp_region_cb (by kernel_rfl) (by kernel_rfl) ?_
          have hC := Cb.const wr
          repeat (first
            | go_big_quiet_skip
            | (go_big_quiet_want; first
              | (refine q_oneI 23 _ rfl _ Try.underlying23 rfl 1 rfl P3 _ (ce_1 _ _) ?_; go_simp; go_big_quiet_on)
              | (refine q_oneI 2 _ rfl _ Try.underlying2 rfl 0 rfl P3 _ (ce_0 _ _) ?_; go_simp; go_big_quiet_on)
              | (refine q_oneI 2 _ rfl _ Try.underlying2 rfl _ rfl G3 _ dk ?_; go_simp; go_big_quiet_on)
              | (go_big_quiet_op; go_big_quiet_on)
              | (go_big_quiet_op; apply Exists.intro; refine ⟨fun w' hw' => ?_, ?_⟩; (go_at_call 77; exact (KI _).mono fun _ _ h => ⟨h.1, hw'.step (by obtain ⟨m, rfl⟩ := h.2; exact bdrew (Below.refl _ _) m)⟩); go_big_quiet_on)))
          refine wpQuiet_nil ?_
          intro w5 hw5
          have B5 := Lib.hid (bthen B3.out hw5)
          clear hC P3 G3 c30 c31 dk KI hw5 B3
          cases hf : f k
          · rw [hf] at hnx
            have hv := Lib.hid (allJ_le hlt hnx)
            clear hf hnx
            go_wp2_with fail
            go_ret
            exact ⟨by rw [HV.out, hv.out]; rfl, B5.out⟩
          · rw [hf] at hnx
            have hnx := Lib.hid hnx
            clear hf
            go_wp2_with fail
            exact ⟨⟨k + 1, by omega, by go_num, hnx, B5⟩, by simp [intOf]; omega⟩
        · obtain rfl : n = k := by omega
          go_wp2_with fail
          go_ret
          exact ⟨by rw [HV.out, hal.out]; rfl, B3.out⟩

theorem sValidCentre_any (p : Int) (hp : -9223372036854775808 ≤ p ∧ p ≤ 9223372036854775807) (G : Nat) (xs : List Int) (hn : xs.length ≤ 1048576) (T2 : TypeId) (w : World) (h1 : At w G (il xs) T2) :
    Calls Try.prog 33 #[.agg (ce p (.slice (some ⟨G, 0, none⟩) xs.length xs.length))] w fun e w' => e = .returned (.bool (okCe p xs)) ∧ Below w.heap.size w w' := by
  have K := l07Ok_any w.heap.size p hp G xs hn 66 T2 _ (At.new w (ce p (.slice (some ⟨G, 0, none⟩) xs.length xs.length)) 66) (h1.alloc _)
  clear h1
  go_enter Try.func33, Try.ntmps33
  go_wp2_with fail
  refine K.mono ?_
  rintro e w1 ⟨rfl, hb1⟩
  go_wp2_with fail
  go_ret
  exact ⟨rfl, bthen (b0 _ _) hb1⟩

set_option maxHeartbeats 1000000 in
theorem ValidCentre_any (p : Int) (G : Nat) (xs : List Int) (hn : xs.length ≤ 1048576) (T2 : TypeId) (w : World) (h1 : At w G (il xs) T2) :
    Calls Try.prog 35 #[.agg (ce p (.slice (some ⟨G, 0, none⟩) xs.length xs.length))] w fun e w' => e = .returned (.bool (okCe p xs)) ∧ Below w.heap.size w w' := by
  have P0 := At.new w (ce p (.slice (some ⟨G, 0, none⟩) xs.length xs.length)) 66
  have G0 := h1.alloc (.cells (ce p (.slice (some ⟨G, 0, none⟩) xs.length xs.length)) 66)
  have B0 := Lib.hid (b0 w (.cells (ce p (.slice (some ⟨G, 0, none⟩) xs.length xs.length)) 66))
  have c00 := P0.cell (ce_0 _ _)
  have c01 := P0.cell (ce_1 _ _)
  clear h1
  by_cases p1 : p < 1
  · have hq : inB 1 9 p = false := decide_eq_false (by omega)
    have hv := Lib.hid (okCe_0 hq (xs := xs))
    clear hq
    generalize xs.length = n at *
    go_enter Try.func35, Try.ntmps35
    go_wp2_with fail
    go_ret
    exact ⟨by rw [hv.out]; rfl, B0.out⟩
  · by_cases p9 : 9 < p
    · have hq : inB 1 9 p = false := decide_eq_false (by omega)
      have hv := Lib.hid (okCe_0 hq (xs := xs))
      clear hq
      generalize xs.length = n at *
      go_enter Try.func35, Try.ntmps35
      go_wp2_with fail
      go_ret
      exact ⟨by rw [hv.out]; rfl, B0.out⟩
    · have qp : inB 1 9 p = true := decide_eq_true ⟨by omega, by omega⟩
      by_cases x1 : (xs.length : Int) < 1
      · have hq : inB 1 6 (xs.length : Int) = false := decide_eq_false (by omega)
        have hv := Lib.hid (okCe_1 hq (p := p))
        clear hq qp
        generalize xs.length = n at *
        go_enter Try.func35, Try.ntmps35
        go_wp2_with fail
        go_ret
        exact ⟨by rw [hv.out]; rfl, B0.out⟩
      · by_cases x6 : 6 < (xs.length : Int)
        · have hq : inB 1 6 (xs.length : Int) = false := decide_eq_false (by omega)
          have hv := Lib.hid (okCe_1 hq (p := p))
          clear hq qp
          generalize xs.length = n at *
          go_enter Try.func35, Try.ntmps35
          go_wp2_with fail
          go_ret
          exact ⟨by rw [hv.out]; rfl, B0.out⟩
        · have ql : inB 1 6 (xs.length : Int) = true := decide_eq_true ⟨by omega, by omega⟩
          have hv := okCe_2 qp ql
          obtain ⟨f, hf0⟩ : ∃ f, f = okF p xs := ⟨_, rfl⟩
          rw [← hf0] at hv
          have HF := Lib.hid hf0
          clear hf0 qp ql
          obtain ⟨n, hnn⟩ : ∃ n, n = xs.length := ⟨_, rfl⟩
          rw [← hnn] at hv hn P0 G0 B0 c00 c01 x1 x6 ⊢
          have HN := Lib.hid hnn
          have HV := Lib.hid hv
          clear hv hnn
          go_enter Try.func35, Try.ntmps35
          go_wp2_with fail
          generalize w.alloc (.cells (ce p (.slice (some ⟨G, 0, none⟩) n n)) 66) = w2 at B0 P0 c00 c01 G0 ⊢
          go_loopw [28] (fun iv wr => ∃ k : Nat, k ≤ n ∧ iv = .int .i64 (k : Int) ∧ Hid (allJ f k = true) ∧ Hid (Below w.heap.size w wr) ∧ Hid (Below w2.heap.size w2 wr)) (fun iv _ => n - (intOf iv).toNat)
          case atStart => exact ⟨0, by omega, rfl, Lib.hid rfl, B0, Lib.hid (Below.refl _ _)⟩
          case round =>
            clear B0 c00 c01
            obtain ⟨k, hk, rfl, hal, B3, D3⟩ := hrel
            have P3 := P0.step D3.out
            have G3 := G0.step D3.out
            have c30 := P3.cell (ce_0 _ _)
            have c31 := P3.cell (ce_1 _ _)
            by_cases hlt : k < n
            · have kd : (k : Int) < (n : Int) := by omega
              have s2 : IntKind.i64.wrap ((k : Int) + 1) = (k : Int) + 1 := IntWalk.i64_in _ (by omega)
              have dk := G3.cell (il_get (xs := xs) (k := k) (by rw [← HN.out]; exact hlt))
              have KI := fun w => isIndex_b (ith xs k) p w
              have hnx : allJ f (k + 1) = f k := by show (_ && _) = _; rw [hal.out]; rfl
              have hfk : f k = decide (0 ≤ ith xs k ∧ ith xs k < p) := by
                rw [HF.out]
                show decide (0 ≤ ith xs k ∧ ith xs k ≤ p - 1) = _
                exact decide_eq_decide.2 ⟨fun h => ⟨h.1, by omega⟩, fun h => ⟨h.1, by omega⟩⟩
              rw [← hfk] at KI
              clear hfk
              go_wp2_with fail
              refine (KI _).mono ?_
              rintro e w4 ⟨rfl, n4, rfl⟩
              have B5 := Lib.hid (bdrew B3.out n4)
              have D5 := Lib.hid (bdrew D3.out n4)
              clear P3 G3 c30 c31 dk KI B3 D3
              cases hf : f k
              · rw [hf] at hnx
                have hv := Lib.hid (allJ_le hlt hnx)
                clear hf hnx
                go_wp2_with fail
                go_ret
                exact ⟨by rw [HV.out, hv.out]; rfl, B5.out⟩
              · rw [hf] at hnx
                have hnx := Lib.hid hnx
                clear hf
                go_wp2_with fail
                exact ⟨⟨k + 1, by omega, by go_num, hnx, B5, D5⟩, by simp [intOf]; omega⟩
            · obtain rfl : n = k := by omega
              go_wp2_with fail
              go_ret
              exact ⟨by rw [HV.out, hal.out]; rfl, B3.out⟩

end Go.Proofs.Ytkaghfoaicbngab
