/-
  CONTRACTS: valid acts, the model; the shape of an act.
-/
import Derived.Test.YtboahhipobcabaaActS
namespace Go.Proofs.Ytboahhipobcabaa
open Go Go.ChangeShapes Go.WideShapes Go.ChangeAt Go.RowKit
set_option maxRecDepth 100000

set_option maxHeartbeats 1000000 in
theorem l06Act_any (k a b c : Int) (f : Nat) (hf : f < 4294967296) (g : Nat) (T : TypeId) (w : World) (P0 : At w g (ac k a b c f) T) :
    Calls Try.prog 53 #[.pointer (some ⟨g, 0, none⟩)] w fun e w' => e = .returned (.bool (vVA k a b c f)) ∧ Below w.heap.size w w' := by
  have hcb := call_f32bits
  have c00 := P0.cell (ac_0 _ _ _ _ _)
  have c01 := P0.cell (ac_1 _ _ _ _ _)
  have c02 := P0.cell (ac_2 _ _ _ _ _)
  have c03 := P0.cell (ac_3 _ _ _ _ _)
  have c04 := P0.cell (ac_4 _ _ _ _ _)
  have KK := l00In_b k 1 6
  have KA := l00In_b a 0 999
  have KB := l00In_b b 0 999
  have KC := l00In_b c 0 999
  have KF := l01Finite_any f hf
  cases qk : inB 1 6 k
  · rw [qk] at KK
    have hv := Lib.hid (vVA_0 qk (a := a) (b := b) (c := c) (f := f))
    go_enter Try.func53, Try.ntmps53
    go_wp2_with fail
    refine (KK _).mono ?_
    rintro e w1 ⟨rfl, n1, rfl⟩
    have P1 := P0.drewN n1
    have c10 := P1.cell (ac_0 _ _ _ _ _)
    have c11 := P1.cell (ac_1 _ _ _ _ _)
    have c12 := P1.cell (ac_2 _ _ _ _ _)
    have c13 := P1.cell (ac_3 _ _ _ _ _)
    have c14 := P1.cell (ac_4 _ _ _ _ _)
    go_wp2_with fail
    go_ret
    exact ⟨by rw [hv.out]; rfl, bdrew (Below.refl _ _) _⟩
  · rw [qk] at KK
    cases qa : inB 0 999 a
    · rw [qa] at KA
      have hv := Lib.hid (vVA_1 qa (k := k) (b := b) (c := c) (f := f))
      go_enter Try.func53, Try.ntmps53
      go_wp2_with fail
      refine (KK _).mono ?_
      rintro e w1 ⟨rfl, n1, rfl⟩
      have P1 := P0.drewN n1
      have c10 := P1.cell (ac_0 _ _ _ _ _)
      have c11 := P1.cell (ac_1 _ _ _ _ _)
      have c12 := P1.cell (ac_2 _ _ _ _ _)
      have c13 := P1.cell (ac_3 _ _ _ _ _)
      have c14 := P1.cell (ac_4 _ _ _ _ _)
      go_wp2_with fail
      refine (KA _).mono ?_
      rintro e w2 ⟨rfl, n2, rfl⟩
      have P2 := P1.drewN n2
      have c20 := P2.cell (ac_0 _ _ _ _ _)
      have c21 := P2.cell (ac_1 _ _ _ _ _)
      have c22 := P2.cell (ac_2 _ _ _ _ _)
      have c23 := P2.cell (ac_3 _ _ _ _ _)
      have c24 := P2.cell (ac_4 _ _ _ _ _)
      go_wp2_with fail
      go_ret
      exact ⟨by rw [hv.out]; rfl, bdrew (Below.refl _ _) _⟩
    · rw [qa] at KA
      cases qb : inB 0 999 b
      · rw [qb] at KB
        have hv := Lib.hid (vVA_2 qb (k := k) (a := a) (c := c) (f := f))
        go_enter Try.func53, Try.ntmps53
        go_wp2_with fail
        refine (KK _).mono ?_
        rintro e w1 ⟨rfl, n1, rfl⟩
        have P1 := P0.drewN n1
        have c10 := P1.cell (ac_0 _ _ _ _ _)
        have c11 := P1.cell (ac_1 _ _ _ _ _)
        have c12 := P1.cell (ac_2 _ _ _ _ _)
        have c13 := P1.cell (ac_3 _ _ _ _ _)
        have c14 := P1.cell (ac_4 _ _ _ _ _)
        go_wp2_with fail
        refine (KA _).mono ?_
        rintro e w2 ⟨rfl, n2, rfl⟩
        have P2 := P1.drewN n2
        have c20 := P2.cell (ac_0 _ _ _ _ _)
        have c21 := P2.cell (ac_1 _ _ _ _ _)
        have c22 := P2.cell (ac_2 _ _ _ _ _)
        have c23 := P2.cell (ac_3 _ _ _ _ _)
        have c24 := P2.cell (ac_4 _ _ _ _ _)
        go_wp2_with fail
        refine (KB _).mono ?_
        rintro e w3 ⟨rfl, n3, rfl⟩
        have P3 := P2.drewN n3
        have c30 := P3.cell (ac_0 _ _ _ _ _)
        have c31 := P3.cell (ac_1 _ _ _ _ _)
        have c32 := P3.cell (ac_2 _ _ _ _ _)
        have c33 := P3.cell (ac_3 _ _ _ _ _)
        have c34 := P3.cell (ac_4 _ _ _ _ _)
        go_wp2_with fail
        go_ret
        exact ⟨by rw [hv.out]; rfl, bdrew (Below.refl _ _) _⟩
      · rw [qb] at KB
        cases qc : inB 0 999 c
        · rw [qc] at KC
          have hv := Lib.hid (vVA_3 qc (k := k) (a := a) (b := b) (f := f))
          go_enter Try.func53, Try.ntmps53
          go_wp2_with fail
          refine (KK _).mono ?_
          rintro e w1 ⟨rfl, n1, rfl⟩
          have P1 := P0.drewN n1
          have c10 := P1.cell (ac_0 _ _ _ _ _)
          have c11 := P1.cell (ac_1 _ _ _ _ _)
          have c12 := P1.cell (ac_2 _ _ _ _ _)
          have c13 := P1.cell (ac_3 _ _ _ _ _)
          have c14 := P1.cell (ac_4 _ _ _ _ _)
          go_wp2_with fail
          refine (KA _).mono ?_
          rintro e w2 ⟨rfl, n2, rfl⟩
          have P2 := P1.drewN n2
          have c20 := P2.cell (ac_0 _ _ _ _ _)
          have c21 := P2.cell (ac_1 _ _ _ _ _)
          have c22 := P2.cell (ac_2 _ _ _ _ _)
          have c23 := P2.cell (ac_3 _ _ _ _ _)
          have c24 := P2.cell (ac_4 _ _ _ _ _)
          go_wp2_with fail
          refine (KB _).mono ?_
          rintro e w3 ⟨rfl, n3, rfl⟩
          have P3 := P2.drewN n3
          have c30 := P3.cell (ac_0 _ _ _ _ _)
          have c31 := P3.cell (ac_1 _ _ _ _ _)
          have c32 := P3.cell (ac_2 _ _ _ _ _)
          have c33 := P3.cell (ac_3 _ _ _ _ _)
          have c34 := P3.cell (ac_4 _ _ _ _ _)
          go_wp2_with fail
          refine (KC _).mono ?_
          rintro e w4 ⟨rfl, n4, rfl⟩
          have P4 := P3.drewN n4
          have c40 := P4.cell (ac_0 _ _ _ _ _)
          have c41 := P4.cell (ac_1 _ _ _ _ _)
          have c42 := P4.cell (ac_2 _ _ _ _ _)
          have c43 := P4.cell (ac_3 _ _ _ _ _)
          have c44 := P4.cell (ac_4 _ _ _ _ _)
          go_wp2_with fail
          go_ret
          exact ⟨by rw [hv.out]; rfl, bdrew (Below.refl _ _) _⟩
        · rw [qc] at KC
          cases qf : finB f
          · rw [qf] at KF
            have hv := Lib.hid (vVA_4 (okF_inf hf qf) (k := k) (a := a) (b := b) (c := c))
            go_enter Try.func53, Try.ntmps53
            go_wp2_with fail
            refine (KK _).mono ?_
            rintro e w1 ⟨rfl, n1, rfl⟩
            have P1 := P0.drewN n1
            have c10 := P1.cell (ac_0 _ _ _ _ _)
            have c11 := P1.cell (ac_1 _ _ _ _ _)
            have c12 := P1.cell (ac_2 _ _ _ _ _)
            have c13 := P1.cell (ac_3 _ _ _ _ _)
            have c14 := P1.cell (ac_4 _ _ _ _ _)
            go_wp2_with fail
            refine (KA _).mono ?_
            rintro e w2 ⟨rfl, n2, rfl⟩
            have P2 := P1.drewN n2
            have c20 := P2.cell (ac_0 _ _ _ _ _)
            have c21 := P2.cell (ac_1 _ _ _ _ _)
            have c22 := P2.cell (ac_2 _ _ _ _ _)
            have c23 := P2.cell (ac_3 _ _ _ _ _)
            have c24 := P2.cell (ac_4 _ _ _ _ _)
            go_wp2_with fail
            refine (KB _).mono ?_
            rintro e w3 ⟨rfl, n3, rfl⟩
            have P3 := P2.drewN n3
            have c30 := P3.cell (ac_0 _ _ _ _ _)
            have c31 := P3.cell (ac_1 _ _ _ _ _)
            have c32 := P3.cell (ac_2 _ _ _ _ _)
            have c33 := P3.cell (ac_3 _ _ _ _ _)
            have c34 := P3.cell (ac_4 _ _ _ _ _)
            go_wp2_with fail
            refine (KC _).mono ?_
            rintro e w4 ⟨rfl, n4, rfl⟩
            have P4 := P3.drewN n4
            have c40 := P4.cell (ac_0 _ _ _ _ _)
            have c41 := P4.cell (ac_1 _ _ _ _ _)
            have c42 := P4.cell (ac_2 _ _ _ _ _)
            have c43 := P4.cell (ac_3 _ _ _ _ _)
            have c44 := P4.cell (ac_4 _ _ _ _ _)
            go_wp2_with fail
            refine (KF _).mono ?_
            rintro e w5 ⟨rfl, n5, rfl⟩
            have P5 := P4.drewN n5
            have c50 := P5.cell (ac_0 _ _ _ _ _)
            have c51 := P5.cell (ac_1 _ _ _ _ _)
            have c52 := P5.cell (ac_2 _ _ _ _ _)
            have c53 := P5.cell (ac_3 _ _ _ _ _)
            have c54 := P5.cell (ac_4 _ _ _ _ _)
            go_wp2_with fail
            go_ret
            exact ⟨by rw [hv.out]; rfl, bdrew (Below.refl _ _) _⟩
          · rw [qf] at KF
            by_cases n : f = 2147483648
            · subst n
              have hv := Lib.hid (vVA_4 okF_neg (k := k) (a := a) (b := b) (c := c))
              go_enter Try.func53, Try.ntmps53
              go_wp2_with fail
              refine (KK _).mono ?_
              rintro e w1 ⟨rfl, n1, rfl⟩
              have P1 := P0.drewN n1
              have c10 := P1.cell (ac_0 _ _ _ _ _)
              have c11 := P1.cell (ac_1 _ _ _ _ _)
              have c12 := P1.cell (ac_2 _ _ _ _ _)
              have c13 := P1.cell (ac_3 _ _ _ _ _)
              have c14 := P1.cell (ac_4 _ _ _ _ _)
              go_wp2_with fail
              refine (KA _).mono ?_
              rintro e w2 ⟨rfl, n2, rfl⟩
              have P2 := P1.drewN n2
              have c20 := P2.cell (ac_0 _ _ _ _ _)
              have c21 := P2.cell (ac_1 _ _ _ _ _)
              have c22 := P2.cell (ac_2 _ _ _ _ _)
              have c23 := P2.cell (ac_3 _ _ _ _ _)
              have c24 := P2.cell (ac_4 _ _ _ _ _)
              go_wp2_with fail
              refine (KB _).mono ?_
              rintro e w3 ⟨rfl, n3, rfl⟩
              have P3 := P2.drewN n3
              have c30 := P3.cell (ac_0 _ _ _ _ _)
              have c31 := P3.cell (ac_1 _ _ _ _ _)
              have c32 := P3.cell (ac_2 _ _ _ _ _)
              have c33 := P3.cell (ac_3 _ _ _ _ _)
              have c34 := P3.cell (ac_4 _ _ _ _ _)
              go_wp2_with fail
              refine (KC _).mono ?_
              rintro e w4 ⟨rfl, n4, rfl⟩
              have P4 := P3.drewN n4
              have c40 := P4.cell (ac_0 _ _ _ _ _)
              have c41 := P4.cell (ac_1 _ _ _ _ _)
              have c42 := P4.cell (ac_2 _ _ _ _ _)
              have c43 := P4.cell (ac_3 _ _ _ _ _)
              have c44 := P4.cell (ac_4 _ _ _ _ _)
              go_wp2_with fail
              refine (KF _).mono ?_
              rintro e w5 ⟨rfl, n5, rfl⟩
              have P5 := P4.drewN n5
              have c50 := P5.cell (ac_0 _ _ _ _ _)
              have c51 := P5.cell (ac_1 _ _ _ _ _)
              have c52 := P5.cell (ac_2 _ _ _ _ _)
              have c53 := P5.cell (ac_3 _ _ _ _ _)
              have c54 := P5.cell (ac_4 _ _ _ _ _)
              go_wp2_with fail
              go_ret
              exact ⟨by rw [hv.out]; rfl, bdrew (Below.refl _ _) _⟩
            · have h6 := k_six (of_decide_eq_true qk)
              clear KK KA KB KC KF c00 c01 c02 c03 c04 hcb qk
              rcases h6 with rfl | rfl | rfl | rfl | rfl | rfl
              · exact l06Act_1 a b c f hf qa qb qc qf n g T w P0
              · exact l06Act_2 a b c f hf qa qb qc qf n g T w P0
              · exact l06Act_3 a b c f hf qa qb qc qf n g T w P0
              · exact l06Act_4 a b c f hf qa qb qc qf n g T w P0
              · exact l06Act_5 a b c f hf qa qb qc qf n g T w P0
              · exact l06Act_6 a b c f hf qa qb qc qf n g T w P0

theorem sValidAct_any (k a b c : Int) (f : Nat) (hf : f < 4294967296) (w : World) :
    Calls Try.prog 15 #[.agg (ac k a b c f)] w fun e w' => e = .returned (.bool (vVA k a b c f)) ∧ Below w.heap.size w w' := by
  have P0 := At.new w (ac k a b c f) 45
  have KL := l06Act_any k a b c f hf _ _ _ P0
  go_enter Try.func15, Try.ntmps15
  go_wp2_with fail
  refine KL.mono ?_
  rintro e w1 ⟨rfl, hb1⟩
  go_wp2_with fail
  go_ret
  exact ⟨rfl, bthen (b0 _ _) hb1⟩

theorem cell_i64d {W : World} {r : Reach} {base : Nat} {v : Value} (h : Cell.okWide Try.prog W r base 2 v) : ∃ x, v = .int .i64 x ∧ (-9223372036854775808 ≤ x ∧ x ≤ 9223372036854775807) := by
  have h1 : Value.okWide Try.prog W r base 2 v := by simpa [Value.okWide, Try.underlying2] using h
  obtain ⟨x, rfl, h2⟩ := shape_i64 h1
  exact ⟨x, rfl, h2⟩

theorem cell_f32d {W : World} {r : Reach} {base : Nat} {v : Value} (h : Cell.okWide Try.prog W r base 26 v) : ∃ x, v = .float .f32 x ∧ x < 4294967296 := by
  have h1 : Value.okWide Try.prog W r base 26 v := by simpa [Value.okWide, Try.underlying26] using h
  exact shape_f32 h1

theorem shape_act {W : World} {r : Reach} {base : Nat} {v : Value} (h : Value.okWide Try.prog W r base 43 v) : ∃ (k a b c : Int) (f : Nat), v = .agg (ac k a b c f) ∧ f < 4294967296 := by
  have h' : ∃ cs, v = .agg cs ∧ cs.size = Try.prog.cellsOf 43 ∧ Row.okWide Try.prog W r base 43 cs := by
    unfold Value.okWide at h
    rw [Try.underlying43] at h
    simpa using h
  obtain ⟨cs, rfl, hsz, ts, hts, -, hcell⟩ := h'
  have hc : Try.prog.cellsOf 43 = 5 := by kernel_rfl
  have ht : Try.prog.cellTypes Try.prog.depth 43 = some [2, 2, 2, 2, 26] := by kernel_rfl
  rw [ht] at hts
  obtain rfl := Option.some.inj hts
  rw [hc] at hsz
  obtain ⟨c0, c1, c2, c3, c4, rfl⟩ : ∃ c0 c1 c2 c3 c4, cs = #[c0, c1, c2, c3, c4] := by
    obtain ⟨l⟩ := cs
    match l, hsz with
    | [c0, c1, c2, c3, c4], _ => exact ⟨c0, c1, c2, c3, c4, rfl⟩
  obtain ⟨u0, hu0, k0⟩ := hcell 0 c0 rfl
  obtain ⟨u1, hu1, k1⟩ := hcell 1 c1 rfl
  obtain ⟨u2, hu2, k2⟩ := hcell 2 c2 rfl
  obtain ⟨u3, hu3, k3⟩ := hcell 3 c3 rfl
  obtain ⟨u4, hu4, k4⟩ := hcell 4 c4 rfl
  obtain rfl := Option.some.inj hu0
  obtain rfl := Option.some.inj hu1
  obtain rfl := Option.some.inj hu2
  obtain rfl := Option.some.inj hu3
  obtain rfl := Option.some.inj hu4
  obtain ⟨k, rfl, -⟩ := cell_i64d k0
  obtain ⟨a, rfl, -⟩ := cell_i64d k1
  obtain ⟨b, rfl, -⟩ := cell_i64d k2
  obtain ⟨c, rfl, -⟩ := cell_i64d k3
  obtain ⟨f, rfl, hf⟩ := cell_f32d k4
  exact ⟨k, a, b, c, f, rfl, hf⟩

end Go.Proofs.Ytboahhipobcabaa
