/-
  CONTRACTS: valid acts, the model: one kind after the other.
-/
import Derived.Test.YtboahhipobcabaaActW
namespace Go.Proofs.Ytboahhipobcabaa
open Go Go.ChangeShapes Go.WideShapes Go.ChangeAt Go.RowKit
set_option maxRecDepth 100000

set_option maxHeartbeats 4000000 in
theorem l06Act_1 (a b c : Int) (f : Nat) (hf : f < 4294967296) (qa : inB 0 999 a = true) (qb : inB 0 999 b = true) (qc : inB 0 999 c = true) (qf : finB f = true) (n : ¬ f = 2147483648) (g : Nat) (T : TypeId) (w : World) (P0 : At w g (ac 1 a b c f) T) :
    Calls Try.prog 53 #[.pointer (some ⟨g, 0, none⟩)] w fun e w' => e = .returned (.bool (vVA 1 a b c f)) ∧ Below w.heap.size w w' := by
  have HV := vVA_5 (k := 1) (by decide) qa qb qc hf qf n
  have hcb := call_f32bits
  have KK := l00In_b 1 1 6
  have KA := l00In_b a 0 999
  have KB := l00In_b b 0 999
  have KC := l00In_b c 0 999
  have KF := l01Finite_any f hf
  rw [show inB 1 6 1 = true from by decide] at KK
  rw [qa] at KA
  rw [qb] at KB
  rw [qc] at KC
  rw [qf] at KF
  have hn : decide (((f : Nat) : Int) = 2147483648) = false := decide_eq_false (by omega)
  have hn2 : (((f : Nat) : Int) == 2147483648) = false := by simpa using (by omega : ¬ ((f : Nat) : Int) = 2147483648)
  have c00 := P0.cell (ac_0 _ _ _ _ _)
  have c01 := P0.cell (ac_1 _ _ _ _ _)
  have c02 := P0.cell (ac_2 _ _ _ _ _)
  have c03 := P0.cell (ac_3 _ _ _ _ _)
  have c04 := P0.cell (ac_4 _ _ _ _ _)
  by_cases xb : b = 0
  · subst xb
    by_cases xc : c = 0
    · subst xc
      have hv := Lib.hid (show vVA 1 a 0 0 f = true from by rw [HV]; simp [hasB, hasC, hasF])
      clear HV
      go_enter Try.func53, Try.ntmps53
      go_wp2_with fail
      refine (KK _).mono ?_
      rintro e w1 ⟨rfl, n1, rfl⟩
      have P1 := P0.drewN n1
      have c10 := P1.cell (ac_0 _ _ _ _ _)
      have c11 := P1.cell (ac_1 _ _ _ _ _)
      have c12 := P1.cell (ac_2 _ _ _ _ _)
      have c13 := P1.cell (ac_3 _ _ _ _ _)
      have c14 := P1.cell (ac_4 _ _ _ _ _)
      go_wp2_with fail
      refine (KA _).mono ?_
      rintro e w2 ⟨rfl, n2, rfl⟩
      have P2 := P1.drewN n2
      have c20 := P2.cell (ac_0 _ _ _ _ _)
      have c21 := P2.cell (ac_1 _ _ _ _ _)
      have c22 := P2.cell (ac_2 _ _ _ _ _)
      have c23 := P2.cell (ac_3 _ _ _ _ _)
      have c24 := P2.cell (ac_4 _ _ _ _ _)
      go_wp2_with fail
      refine (KB _).mono ?_
      rintro e w3 ⟨rfl, n3, rfl⟩
      have P3 := P2.drewN n3
      have c30 := P3.cell (ac_0 _ _ _ _ _)
      have c31 := P3.cell (ac_1 _ _ _ _ _)
      have c32 := P3.cell (ac_2 _ _ _ _ _)
      have c33 := P3.cell (ac_3 _ _ _ _ _)
      have c34 := P3.cell (ac_4 _ _ _ _ _)
      go_wp2_with fail
      refine (KC _).mono ?_
      rintro e w4 ⟨rfl, n4, rfl⟩
      have P4 := P3.drewN n4
      have c40 := P4.cell (ac_0 _ _ _ _ _)
      have c41 := P4.cell (ac_1 _ _ _ _ _)
      have c42 := P4.cell (ac_2 _ _ _ _ _)
      have c43 := P4.cell (ac_3 _ _ _ _ _)
      have c44 := P4.cell (ac_4 _ _ _ _ _)
      go_wp2_with fail
      refine (KF _).mono ?_
      rintro e w5 ⟨rfl, n5, rfl⟩
      have P5 := P4.drewN n5
      have c50 := P5.cell (ac_0 _ _ _ _ _)
      have c51 := P5.cell (ac_1 _ _ _ _ _)
      have c52 := P5.cell (ac_2 _ _ _ _ _)
      have c53 := P5.cell (ac_3 _ _ _ _ _)
      have c54 := P5.cell (ac_4 _ _ _ _ _)
      go_wp2_with fail
      refine (l06Words_any _).mono ?_
      rintro e w6 ⟨⟨g1, g2, g3, rfl, G2, G3⟩, hb6⟩
      have P6 := (P0.drewN (n1 + n2 + n3 + n4 + n5)).step hb6
      have c60 := P6.cell (ac_0 _ _ _ _ _)
      have c61 := P6.cell (ac_1 _ _ _ _ _)
      have c62 := P6.cell (ac_2 _ _ _ _ _)
      have c63 := P6.cell (ac_3 _ _ _ _ _)
      have c64 := P6.cell (ac_4 _ _ _ _ _)
      have d6 := G2.cell (show IW[1]? = some (.int .i64 1) from rfl)
      have e6 := G3.cell (show FW[1]? = some (.bool true) from rfl)
      go_wp2_with fail
      go_ret
      exact ⟨by rw [hv.out]; rfl, bthen (bdrew (Below.refl _ _) _) hb6⟩
    · have xc1 : decide (c = 0) = false := decide_eq_false xc
      have xc2 : (c == 0) = false := by simpa using xc
      rw [xc1] at HV
      have hv := Lib.hid (show vVA 1 a 0 c f = false from by rw [HV]; simp [hasB, hasC, hasF])
      clear HV
      go_enter Try.func53, Try.ntmps53
      go_wp2_with fail
      refine (KK _).mono ?_
      rintro e w1 ⟨rfl, n1, rfl⟩
      have P1 := P0.drewN n1
      have c10 := P1.cell (ac_0 _ _ _ _ _)
      have c11 := P1.cell (ac_1 _ _ _ _ _)
      have c12 := P1.cell (ac_2 _ _ _ _ _)
      have c13 := P1.cell (ac_3 _ _ _ _ _)
      have c14 := P1.cell (ac_4 _ _ _ _ _)
      go_wp2_with fail
      refine (KA _).mono ?_
      rintro e w2 ⟨rfl, n2, rfl⟩
      have P2 := P1.drewN n2
      have c20 := P2.cell (ac_0 _ _ _ _ _)
      have c21 := P2.cell (ac_1 _ _ _ _ _)
      have c22 := P2.cell (ac_2 _ _ _ _ _)
      have c23 := P2.cell (ac_3 _ _ _ _ _)
      have c24 := P2.cell (ac_4 _ _ _ _ _)
      go_wp2_with fail
      refine (KB _).mono ?_
      rintro e w3 ⟨rfl, n3, rfl⟩
      have P3 := P2.drewN n3
      have c30 := P3.cell (ac_0 _ _ _ _ _)
      have c31 := P3.cell (ac_1 _ _ _ _ _)
      have c32 := P3.cell (ac_2 _ _ _ _ _)
      have c33 := P3.cell (ac_3 _ _ _ _ _)
      have c34 := P3.cell (ac_4 _ _ _ _ _)
      go_wp2_with fail
      refine (KC _).mono ?_
      rintro e w4 ⟨rfl, n4, rfl⟩
      have P4 := P3.drewN n4
      have c40 := P4.cell (ac_0 _ _ _ _ _)
      have c41 := P4.cell (ac_1 _ _ _ _ _)
      have c42 := P4.cell (ac_2 _ _ _ _ _)
      have c43 := P4.cell (ac_3 _ _ _ _ _)
      have c44 := P4.cell (ac_4 _ _ _ _ _)
      go_wp2_with fail
      refine (KF _).mono ?_
      rintro e w5 ⟨rfl, n5, rfl⟩
      have P5 := P4.drewN n5
      have c50 := P5.cell (ac_0 _ _ _ _ _)
      have c51 := P5.cell (ac_1 _ _ _ _ _)
      have c52 := P5.cell (ac_2 _ _ _ _ _)
      have c53 := P5.cell (ac_3 _ _ _ _ _)
      have c54 := P5.cell (ac_4 _ _ _ _ _)
      go_wp2_with fail
      refine (l06Words_any _).mono ?_
      rintro e w6 ⟨⟨g1, g2, g3, rfl, G2, G3⟩, hb6⟩
      have P6 := (P0.drewN (n1 + n2 + n3 + n4 + n5)).step hb6
      have c60 := P6.cell (ac_0 _ _ _ _ _)
      have c61 := P6.cell (ac_1 _ _ _ _ _)
      have c62 := P6.cell (ac_2 _ _ _ _ _)
      have c63 := P6.cell (ac_3 _ _ _ _ _)
      have c64 := P6.cell (ac_4 _ _ _ _ _)
      have d6 := G2.cell (show IW[1]? = some (.int .i64 1) from rfl)
      have e6 := G3.cell (show FW[1]? = some (.bool true) from rfl)
      go_wp2_with fail
      go_ret
      exact ⟨by rw [hv.out]; rfl, bthen (bdrew (Below.refl _ _) _) hb6⟩
  · have xb1 : decide (b = 0) = false := decide_eq_false xb
    have xb2 : (b == 0) = false := by simpa using xb
    rw [xb1] at HV
    have hv := Lib.hid (show vVA 1 a b c f = false from by rw [HV]; simp [hasB, hasC, hasF])
    clear HV
    go_enter Try.func53, Try.ntmps53
    go_wp2_with fail
    refine (KK _).mono ?_
    rintro e w1 ⟨rfl, n1, rfl⟩
    have P1 := P0.drewN n1
    have c10 := P1.cell (ac_0 _ _ _ _ _)
    have c11 := P1.cell (ac_1 _ _ _ _ _)
    have c12 := P1.cell (ac_2 _ _ _ _ _)
    have c13 := P1.cell (ac_3 _ _ _ _ _)
    have c14 := P1.cell (ac_4 _ _ _ _ _)
    go_wp2_with fail
    refine (KA _).mono ?_
    rintro e w2 ⟨rfl, n2, rfl⟩
    have P2 := P1.drewN n2
    have c20 := P2.cell (ac_0 _ _ _ _ _)
    have c21 := P2.cell (ac_1 _ _ _ _ _)
    have c22 := P2.cell (ac_2 _ _ _ _ _)
    have c23 := P2.cell (ac_3 _ _ _ _ _)
    have c24 := P2.cell (ac_4 _ _ _ _ _)
    go_wp2_with fail
    refine (KB _).mono ?_
    rintro e w3 ⟨rfl, n3, rfl⟩
    have P3 := P2.drewN n3
    have c30 := P3.cell (ac_0 _ _ _ _ _)
    have c31 := P3.cell (ac_1 _ _ _ _ _)
    have c32 := P3.cell (ac_2 _ _ _ _ _)
    have c33 := P3.cell (ac_3 _ _ _ _ _)
    have c34 := P3.cell (ac_4 _ _ _ _ _)
    go_wp2_with fail
    refine (KC _).mono ?_
    rintro e w4 ⟨rfl, n4, rfl⟩
    have P4 := P3.drewN n4
    have c40 := P4.cell (ac_0 _ _ _ _ _)
    have c41 := P4.cell (ac_1 _ _ _ _ _)
    have c42 := P4.cell (ac_2 _ _ _ _ _)
    have c43 := P4.cell (ac_3 _ _ _ _ _)
    have c44 := P4.cell (ac_4 _ _ _ _ _)
    go_wp2_with fail
    refine (KF _).mono ?_
    rintro e w5 ⟨rfl, n5, rfl⟩
    have P5 := P4.drewN n5
    have c50 := P5.cell (ac_0 _ _ _ _ _)
    have c51 := P5.cell (ac_1 _ _ _ _ _)
    have c52 := P5.cell (ac_2 _ _ _ _ _)
    have c53 := P5.cell (ac_3 _ _ _ _ _)
    have c54 := P5.cell (ac_4 _ _ _ _ _)
    go_wp2_with fail
    refine (l06Words_any _).mono ?_
    rintro e w6 ⟨⟨g1, g2, g3, rfl, G2, G3⟩, hb6⟩
    have P6 := (P0.drewN (n1 + n2 + n3 + n4 + n5)).step hb6
    have c60 := P6.cell (ac_0 _ _ _ _ _)
    have c61 := P6.cell (ac_1 _ _ _ _ _)
    have c62 := P6.cell (ac_2 _ _ _ _ _)
    have c63 := P6.cell (ac_3 _ _ _ _ _)
    have c64 := P6.cell (ac_4 _ _ _ _ _)
    have d6 := G2.cell (show IW[1]? = some (.int .i64 1) from rfl)
    have e6 := G3.cell (show FW[1]? = some (.bool true) from rfl)
    go_wp2_with fail
    go_ret
    exact ⟨by rw [hv.out]; rfl, bthen (bdrew (Below.refl _ _) _) hb6⟩

set_option maxHeartbeats 4000000 in
theorem l06Act_2 (a b c : Int) (f : Nat) (hf : f < 4294967296) (qa : inB 0 999 a = true) (qb : inB 0 999 b = true) (qc : inB 0 999 c = true) (qf : finB f = true) (n : ¬ f = 2147483648) (g : Nat) (T : TypeId) (w : World) (P0 : At w g (ac 2 a b c f) T) :
    Calls Try.prog 53 #[.pointer (some ⟨g, 0, none⟩)] w fun e w' => e = .returned (.bool (vVA 2 a b c f)) ∧ Below w.heap.size w w' := by
  have HV := vVA_5 (k := 2) (by decide) qa qb qc hf qf n
  have hcb := call_f32bits
  have KK := l00In_b 2 1 6
  have KA := l00In_b a 0 999
  have KB := l00In_b b 0 999
  have KC := l00In_b c 0 999
  have KF := l01Finite_any f hf
  rw [show inB 1 6 2 = true from by decide] at KK
  rw [qa] at KA
  rw [qb] at KB
  rw [qc] at KC
  rw [qf] at KF
  have hn : decide (((f : Nat) : Int) = 2147483648) = false := decide_eq_false (by omega)
  have hn2 : (((f : Nat) : Int) == 2147483648) = false := by simpa using (by omega : ¬ ((f : Nat) : Int) = 2147483648)
  have c00 := P0.cell (ac_0 _ _ _ _ _)
  have c01 := P0.cell (ac_1 _ _ _ _ _)
  have c02 := P0.cell (ac_2 _ _ _ _ _)
  have c03 := P0.cell (ac_3 _ _ _ _ _)
  have c04 := P0.cell (ac_4 _ _ _ _ _)
  by_cases xc : c = 0
  · subst xc
    have hv := Lib.hid (show vVA 2 a b 0 f = true from by rw [HV]; simp [hasB, hasC, hasF])
    clear HV
    go_enter Try.func53, Try.ntmps53
    go_wp2_with fail
    refine (KK _).mono ?_
    rintro e w1 ⟨rfl, n1, rfl⟩
    have P1 := P0.drewN n1
    have c10 := P1.cell (ac_0 _ _ _ _ _)
    have c11 := P1.cell (ac_1 _ _ _ _ _)
    have c12 := P1.cell (ac_2 _ _ _ _ _)
    have c13 := P1.cell (ac_3 _ _ _ _ _)
    have c14 := P1.cell (ac_4 _ _ _ _ _)
    go_wp2_with fail
    refine (KA _).mono ?_
    rintro e w2 ⟨rfl, n2, rfl⟩
    have P2 := P1.drewN n2
    have c20 := P2.cell (ac_0 _ _ _ _ _)
    have c21 := P2.cell (ac_1 _ _ _ _ _)
    have c22 := P2.cell (ac_2 _ _ _ _ _)
    have c23 := P2.cell (ac_3 _ _ _ _ _)
    have c24 := P2.cell (ac_4 _ _ _ _ _)
    go_wp2_with fail
    refine (KB _).mono ?_
    rintro e w3 ⟨rfl, n3, rfl⟩
    have P3 := P2.drewN n3
    have c30 := P3.cell (ac_0 _ _ _ _ _)
    have c31 := P3.cell (ac_1 _ _ _ _ _)
    have c32 := P3.cell (ac_2 _ _ _ _ _)
    have c33 := P3.cell (ac_3 _ _ _ _ _)
    have c34 := P3.cell (ac_4 _ _ _ _ _)
    go_wp2_with fail
    refine (KC _).mono ?_
    rintro e w4 ⟨rfl, n4, rfl⟩
    have P4 := P3.drewN n4
    have c40 := P4.cell (ac_0 _ _ _ _ _)
    have c41 := P4.cell (ac_1 _ _ _ _ _)
    have c42 := P4.cell (ac_2 _ _ _ _ _)
    have c43 := P4.cell (ac_3 _ _ _ _ _)
    have c44 := P4.cell (ac_4 _ _ _ _ _)
    go_wp2_with fail
    refine (KF _).mono ?_
    rintro e w5 ⟨rfl, n5, rfl⟩
    have P5 := P4.drewN n5
    have c50 := P5.cell (ac_0 _ _ _ _ _)
    have c51 := P5.cell (ac_1 _ _ _ _ _)
    have c52 := P5.cell (ac_2 _ _ _ _ _)
    have c53 := P5.cell (ac_3 _ _ _ _ _)
    have c54 := P5.cell (ac_4 _ _ _ _ _)
    go_wp2_with fail
    refine (l06Words_any _).mono ?_
    rintro e w6 ⟨⟨g1, g2, g3, rfl, G2, G3⟩, hb6⟩
    have P6 := (P0.drewN (n1 + n2 + n3 + n4 + n5)).step hb6
    have c60 := P6.cell (ac_0 _ _ _ _ _)
    have c61 := P6.cell (ac_1 _ _ _ _ _)
    have c62 := P6.cell (ac_2 _ _ _ _ _)
    have c63 := P6.cell (ac_3 _ _ _ _ _)
    have c64 := P6.cell (ac_4 _ _ _ _ _)
    have d6 := G2.cell (show IW[2]? = some (.int .i64 2) from rfl)
    have e6 := G3.cell (show FW[2]? = some (.bool true) from rfl)
    go_wp2_with fail
    go_ret
    exact ⟨by rw [hv.out]; rfl, bthen (bdrew (Below.refl _ _) _) hb6⟩
  · have xc1 : decide (c = 0) = false := decide_eq_false xc
    have xc2 : (c == 0) = false := by simpa using xc
    rw [xc1] at HV
    have hv := Lib.hid (show vVA 2 a b c f = false from by rw [HV]; simp [hasB, hasC, hasF])
    clear HV
    go_enter Try.func53, Try.ntmps53
    go_wp2_with fail
    refine (KK _).mono ?_
    rintro e w1 ⟨rfl, n1, rfl⟩
    have P1 := P0.drewN n1
    have c10 := P1.cell (ac_0 _ _ _ _ _)
    have c11 := P1.cell (ac_1 _ _ _ _ _)
    have c12 := P1.cell (ac_2 _ _ _ _ _)
    have c13 := P1.cell (ac_3 _ _ _ _ _)
    have c14 := P1.cell (ac_4 _ _ _ _ _)
    go_wp2_with fail
    refine (KA _).mono ?_
    rintro e w2 ⟨rfl, n2, rfl⟩
    have P2 := P1.drewN n2
    have c20 := P2.cell (ac_0 _ _ _ _ _)
    have c21 := P2.cell (ac_1 _ _ _ _ _)
    have c22 := P2.cell (ac_2 _ _ _ _ _)
    have c23 := P2.cell (ac_3 _ _ _ _ _)
    have c24 := P2.cell (ac_4 _ _ _ _ _)
    go_wp2_with fail
    refine (KB _).mono ?_
    rintro e w3 ⟨rfl, n3, rfl⟩
    have P3 := P2.drewN n3
    have c30 := P3.cell (ac_0 _ _ _ _ _)
    have c31 := P3.cell (ac_1 _ _ _ _ _)
    have c32 := P3.cell (ac_2 _ _ _ _ _)
    have c33 := P3.cell (ac_3 _ _ _ _ _)
    have c34 := P3.cell (ac_4 _ _ _ _ _)
    go_wp2_with fail
    refine (KC _).mono ?_
    rintro e w4 ⟨rfl, n4, rfl⟩
    have P4 := P3.drewN n4
    have c40 := P4.cell (ac_0 _ _ _ _ _)
    have c41 := P4.cell (ac_1 _ _ _ _ _)
    have c42 := P4.cell (ac_2 _ _ _ _ _)
    have c43 := P4.cell (ac_3 _ _ _ _ _)
    have c44 := P4.cell (ac_4 _ _ _ _ _)
    go_wp2_with fail
    refine (KF _).mono ?_
    rintro e w5 ⟨rfl, n5, rfl⟩
    have P5 := P4.drewN n5
    have c50 := P5.cell (ac_0 _ _ _ _ _)
    have c51 := P5.cell (ac_1 _ _ _ _ _)
    have c52 := P5.cell (ac_2 _ _ _ _ _)
    have c53 := P5.cell (ac_3 _ _ _ _ _)
    have c54 := P5.cell (ac_4 _ _ _ _ _)
    go_wp2_with fail
    refine (l06Words_any _).mono ?_
    rintro e w6 ⟨⟨g1, g2, g3, rfl, G2, G3⟩, hb6⟩
    have P6 := (P0.drewN (n1 + n2 + n3 + n4 + n5)).step hb6
    have c60 := P6.cell (ac_0 _ _ _ _ _)
    have c61 := P6.cell (ac_1 _ _ _ _ _)
    have c62 := P6.cell (ac_2 _ _ _ _ _)
    have c63 := P6.cell (ac_3 _ _ _ _ _)
    have c64 := P6.cell (ac_4 _ _ _ _ _)
    have d6 := G2.cell (show IW[2]? = some (.int .i64 2) from rfl)
    have e6 := G3.cell (show FW[2]? = some (.bool true) from rfl)
    go_wp2_with fail
    go_ret
    exact ⟨by rw [hv.out]; rfl, bthen (bdrew (Below.refl _ _) _) hb6⟩

set_option maxHeartbeats 4000000 in
theorem l06Act_3 (a b c : Int) (f : Nat) (hf : f < 4294967296) (qa : inB 0 999 a = true) (qb : inB 0 999 b = true) (qc : inB 0 999 c = true) (qf : finB f = true) (n : ¬ f = 2147483648) (g : Nat) (T : TypeId) (w : World) (P0 : At w g (ac 3 a b c f) T) :
    Calls Try.prog 53 #[.pointer (some ⟨g, 0, none⟩)] w fun e w' => e = .returned (.bool (vVA 3 a b c f)) ∧ Below w.heap.size w w' := by
  have HV := vVA_5 (k := 3) (by decide) qa qb qc hf qf n
  have hcb := call_f32bits
  have KK := l00In_b 3 1 6
  have KA := l00In_b a 0 999
  have KB := l00In_b b 0 999
  have KC := l00In_b c 0 999
  have KF := l01Finite_any f hf
  rw [show inB 1 6 3 = true from by decide] at KK
  rw [qa] at KA
  rw [qb] at KB
  rw [qc] at KC
  rw [qf] at KF
  have hn : decide (((f : Nat) : Int) = 2147483648) = false := decide_eq_false (by omega)
  have hn2 : (((f : Nat) : Int) == 2147483648) = false := by simpa using (by omega : ¬ ((f : Nat) : Int) = 2147483648)
  have c00 := P0.cell (ac_0 _ _ _ _ _)
  have c01 := P0.cell (ac_1 _ _ _ _ _)
  have c02 := P0.cell (ac_2 _ _ _ _ _)
  have c03 := P0.cell (ac_3 _ _ _ _ _)
  have c04 := P0.cell (ac_4 _ _ _ _ _)
  by_cases xc : c = 0
  · subst xc
    cases hz : nilW f
    · have hz1 : (FloatKind.f32.format.order f 0 == some .eq) = false := hz
      rw [hz] at HV
      have hv := Lib.hid (show vVA 3 a b 0 f = false from by rw [HV]; simp [hasB, hasC, hasF])
      clear HV
      go_enter Try.func53, Try.ntmps53
      go_wp2_with fail
      refine (KK _).mono ?_
      rintro e w1 ⟨rfl, n1, rfl⟩
      have P1 := P0.drewN n1
      have c10 := P1.cell (ac_0 _ _ _ _ _)
      have c11 := P1.cell (ac_1 _ _ _ _ _)
      have c12 := P1.cell (ac_2 _ _ _ _ _)
      have c13 := P1.cell (ac_3 _ _ _ _ _)
      have c14 := P1.cell (ac_4 _ _ _ _ _)
      go_wp2_with fail
      refine (KA _).mono ?_
      rintro e w2 ⟨rfl, n2, rfl⟩
      have P2 := P1.drewN n2
      have c20 := P2.cell (ac_0 _ _ _ _ _)
      have c21 := P2.cell (ac_1 _ _ _ _ _)
      have c22 := P2.cell (ac_2 _ _ _ _ _)
      have c23 := P2.cell (ac_3 _ _ _ _ _)
      have c24 := P2.cell (ac_4 _ _ _ _ _)
      go_wp2_with fail
      refine (KB _).mono ?_
      rintro e w3 ⟨rfl, n3, rfl⟩
      have P3 := P2.drewN n3
      have c30 := P3.cell (ac_0 _ _ _ _ _)
      have c31 := P3.cell (ac_1 _ _ _ _ _)
      have c32 := P3.cell (ac_2 _ _ _ _ _)
      have c33 := P3.cell (ac_3 _ _ _ _ _)
      have c34 := P3.cell (ac_4 _ _ _ _ _)
      go_wp2_with fail
      refine (KC _).mono ?_
      rintro e w4 ⟨rfl, n4, rfl⟩
      have P4 := P3.drewN n4
      have c40 := P4.cell (ac_0 _ _ _ _ _)
      have c41 := P4.cell (ac_1 _ _ _ _ _)
      have c42 := P4.cell (ac_2 _ _ _ _ _)
      have c43 := P4.cell (ac_3 _ _ _ _ _)
      have c44 := P4.cell (ac_4 _ _ _ _ _)
      go_wp2_with fail
      refine (KF _).mono ?_
      rintro e w5 ⟨rfl, n5, rfl⟩
      have P5 := P4.drewN n5
      have c50 := P5.cell (ac_0 _ _ _ _ _)
      have c51 := P5.cell (ac_1 _ _ _ _ _)
      have c52 := P5.cell (ac_2 _ _ _ _ _)
      have c53 := P5.cell (ac_3 _ _ _ _ _)
      have c54 := P5.cell (ac_4 _ _ _ _ _)
      go_wp2_with fail
      refine (l06Words_any _).mono ?_
      rintro e w6 ⟨⟨g1, g2, g3, rfl, G2, G3⟩, hb6⟩
      have P6 := (P0.drewN (n1 + n2 + n3 + n4 + n5)).step hb6
      have c60 := P6.cell (ac_0 _ _ _ _ _)
      have c61 := P6.cell (ac_1 _ _ _ _ _)
      have c62 := P6.cell (ac_2 _ _ _ _ _)
      have c63 := P6.cell (ac_3 _ _ _ _ _)
      have c64 := P6.cell (ac_4 _ _ _ _ _)
      have d6 := G2.cell (show IW[3]? = some (.int .i64 2) from rfl)
      have e6 := G3.cell (show FW[3]? = some (.bool false) from rfl)
      go_wp2_with fail
      go_ret
      exact ⟨by rw [hv.out]; rfl, bthen (bdrew (Below.refl _ _) _) hb6⟩
    · have hz1 : (FloatKind.f32.format.order f 0 == some .eq) = true := hz
      rw [hz] at HV
      have hv := Lib.hid (show vVA 3 a b 0 f = true from by rw [HV]; simp [hasB, hasC, hasF])
      clear HV
      go_enter Try.func53, Try.ntmps53
      go_wp2_with fail
      refine (KK _).mono ?_
      rintro e w1 ⟨rfl, n1, rfl⟩
      have P1 := P0.drewN n1
      have c10 := P1.cell (ac_0 _ _ _ _ _)
      have c11 := P1.cell (ac_1 _ _ _ _ _)
      have c12 := P1.cell (ac_2 _ _ _ _ _)
      have c13 := P1.cell (ac_3 _ _ _ _ _)
      have c14 := P1.cell (ac_4 _ _ _ _ _)
      go_wp2_with fail
      refine (KA _).mono ?_
      rintro e w2 ⟨rfl, n2, rfl⟩
      have P2 := P1.drewN n2
      have c20 := P2.cell (ac_0 _ _ _ _ _)
      have c21 := P2.cell (ac_1 _ _ _ _ _)
      have c22 := P2.cell (ac_2 _ _ _ _ _)
      have c23 := P2.cell (ac_3 _ _ _ _ _)
      have c24 := P2.cell (ac_4 _ _ _ _ _)
      go_wp2_with fail
      refine (KB _).mono ?_
      rintro e w3 ⟨rfl, n3, rfl⟩
      have P3 := P2.drewN n3
      have c30 := P3.cell (ac_0 _ _ _ _ _)
      have c31 := P3.cell (ac_1 _ _ _ _ _)
      have c32 := P3.cell (ac_2 _ _ _ _ _)
      have c33 := P3.cell (ac_3 _ _ _ _ _)
      have c34 := P3.cell (ac_4 _ _ _ _ _)
      go_wp2_with fail
      refine (KC _).mono ?_
      rintro e w4 ⟨rfl, n4, rfl⟩
      have P4 := P3.drewN n4
      have c40 := P4.cell (ac_0 _ _ _ _ _)
      have c41 := P4.cell (ac_1 _ _ _ _ _)
      have c42 := P4.cell (ac_2 _ _ _ _ _)
      have c43 := P4.cell (ac_3 _ _ _ _ _)
      have c44 := P4.cell (ac_4 _ _ _ _ _)
      go_wp2_with fail
      refine (KF _).mono ?_
      rintro e w5 ⟨rfl, n5, rfl⟩
      have P5 := P4.drewN n5
      have c50 := P5.cell (ac_0 _ _ _ _ _)
      have c51 := P5.cell (ac_1 _ _ _ _ _)
      have c52 := P5.cell (ac_2 _ _ _ _ _)
      have c53 := P5.cell (ac_3 _ _ _ _ _)
      have c54 := P5.cell (ac_4 _ _ _ _ _)
      go_wp2_with fail
      refine (l06Words_any _).mono ?_
      rintro e w6 ⟨⟨g1, g2, g3, rfl, G2, G3⟩, hb6⟩
      have P6 := (P0.drewN (n1 + n2 + n3 + n4 + n5)).step hb6
      have c60 := P6.cell (ac_0 _ _ _ _ _)
      have c61 := P6.cell (ac_1 _ _ _ _ _)
      have c62 := P6.cell (ac_2 _ _ _ _ _)
      have c63 := P6.cell (ac_3 _ _ _ _ _)
      have c64 := P6.cell (ac_4 _ _ _ _ _)
      have d6 := G2.cell (show IW[3]? = some (.int .i64 2) from rfl)
      have e6 := G3.cell (show FW[3]? = some (.bool false) from rfl)
      go_wp2_with fail
      go_ret
      exact ⟨by rw [hv.out]; rfl, bthen (bdrew (Below.refl _ _) _) hb6⟩
  · have xc1 : decide (c = 0) = false := decide_eq_false xc
    have xc2 : (c == 0) = false := by simpa using xc
    rw [xc1] at HV
    have hv := Lib.hid (show vVA 3 a b c f = false from by rw [HV]; simp [hasB, hasC, hasF])
    clear HV
    go_enter Try.func53, Try.ntmps53
    go_wp2_with fail
    refine (KK _).mono ?_
    rintro e w1 ⟨rfl, n1, rfl⟩
    have P1 := P0.drewN n1
    have c10 := P1.cell (ac_0 _ _ _ _ _)
    have c11 := P1.cell (ac_1 _ _ _ _ _)
    have c12 := P1.cell (ac_2 _ _ _ _ _)
    have c13 := P1.cell (ac_3 _ _ _ _ _)
    have c14 := P1.cell (ac_4 _ _ _ _ _)
    go_wp2_with fail
    refine (KA _).mono ?_
    rintro e w2 ⟨rfl, n2, rfl⟩
    have P2 := P1.drewN n2
    have c20 := P2.cell (ac_0 _ _ _ _ _)
    have c21 := P2.cell (ac_1 _ _ _ _ _)
    have c22 := P2.cell (ac_2 _ _ _ _ _)
    have c23 := P2.cell (ac_3 _ _ _ _ _)
    have c24 := P2.cell (ac_4 _ _ _ _ _)
    go_wp2_with fail
    refine (KB _).mono ?_
    rintro e w3 ⟨rfl, n3, rfl⟩
    have P3 := P2.drewN n3
    have c30 := P3.cell (ac_0 _ _ _ _ _)
    have c31 := P3.cell (ac_1 _ _ _ _ _)
    have c32 := P3.cell (ac_2 _ _ _ _ _)
    have c33 := P3.cell (ac_3 _ _ _ _ _)
    have c34 := P3.cell (ac_4 _ _ _ _ _)
    go_wp2_with fail
    refine (KC _).mono ?_
    rintro e w4 ⟨rfl, n4, rfl⟩
    have P4 := P3.drewN n4
    have c40 := P4.cell (ac_0 _ _ _ _ _)
    have c41 := P4.cell (ac_1 _ _ _ _ _)
    have c42 := P4.cell (ac_2 _ _ _ _ _)
    have c43 := P4.cell (ac_3 _ _ _ _ _)
    have c44 := P4.cell (ac_4 _ _ _ _ _)
    go_wp2_with fail
    refine (KF _).mono ?_
    rintro e w5 ⟨rfl, n5, rfl⟩
    have P5 := P4.drewN n5
    have c50 := P5.cell (ac_0 _ _ _ _ _)
    have c51 := P5.cell (ac_1 _ _ _ _ _)
    have c52 := P5.cell (ac_2 _ _ _ _ _)
    have c53 := P5.cell (ac_3 _ _ _ _ _)
    have c54 := P5.cell (ac_4 _ _ _ _ _)
    go_wp2_with fail
    refine (l06Words_any _).mono ?_
    rintro e w6 ⟨⟨g1, g2, g3, rfl, G2, G3⟩, hb6⟩
    have P6 := (P0.drewN (n1 + n2 + n3 + n4 + n5)).step hb6
    have c60 := P6.cell (ac_0 _ _ _ _ _)
    have c61 := P6.cell (ac_1 _ _ _ _ _)
    have c62 := P6.cell (ac_2 _ _ _ _ _)
    have c63 := P6.cell (ac_3 _ _ _ _ _)
    have c64 := P6.cell (ac_4 _ _ _ _ _)
    have d6 := G2.cell (show IW[3]? = some (.int .i64 2) from rfl)
    have e6 := G3.cell (show FW[3]? = some (.bool false) from rfl)
    go_wp2_with fail
    go_ret
    exact ⟨by rw [hv.out]; rfl, bthen (bdrew (Below.refl _ _) _) hb6⟩

set_option maxHeartbeats 4000000 in
theorem l06Act_4 (a b c : Int) (f : Nat) (hf : f < 4294967296) (qa : inB 0 999 a = true) (qb : inB 0 999 b = true) (qc : inB 0 999 c = true) (qf : finB f = true) (n : ¬ f = 2147483648) (g : Nat) (T : TypeId) (w : World) (P0 : At w g (ac 4 a b c f) T) :
    Calls Try.prog 53 #[.pointer (some ⟨g, 0, none⟩)] w fun e w' => e = .returned (.bool (vVA 4 a b c f)) ∧ Below w.heap.size w w' := by
  have HV := vVA_5 (k := 4) (by decide) qa qb qc hf qf n
  have hcb := call_f32bits
  have KK := l00In_b 4 1 6
  have KA := l00In_b a 0 999
  have KB := l00In_b b 0 999
  have KC := l00In_b c 0 999
  have KF := l01Finite_any f hf
  rw [show inB 1 6 4 = true from by decide] at KK
  rw [qa] at KA
  rw [qb] at KB
  rw [qc] at KC
  rw [qf] at KF
  have hn : decide (((f : Nat) : Int) = 2147483648) = false := decide_eq_false (by omega)
  have hn2 : (((f : Nat) : Int) == 2147483648) = false := by simpa using (by omega : ¬ ((f : Nat) : Int) = 2147483648)
  have c00 := P0.cell (ac_0 _ _ _ _ _)
  have c01 := P0.cell (ac_1 _ _ _ _ _)
  have c02 := P0.cell (ac_2 _ _ _ _ _)
  have c03 := P0.cell (ac_3 _ _ _ _ _)
  have c04 := P0.cell (ac_4 _ _ _ _ _)
  by_cases xb : b = 0
  · subst xb
    by_cases xc : c = 0
    · subst xc
      cases hz : nilW f
      · have hz1 : (FloatKind.f32.format.order f 0 == some .eq) = false := hz
        rw [hz] at HV
        have hv := Lib.hid (show vVA 4 a 0 0 f = false from by rw [HV]; simp [hasB, hasC, hasF])
        clear HV
        go_enter Try.func53, Try.ntmps53
        go_wp2_with fail
        refine (KK _).mono ?_
        rintro e w1 ⟨rfl, n1, rfl⟩
        have P1 := P0.drewN n1
        have c10 := P1.cell (ac_0 _ _ _ _ _)
        have c11 := P1.cell (ac_1 _ _ _ _ _)
        have c12 := P1.cell (ac_2 _ _ _ _ _)
        have c13 := P1.cell (ac_3 _ _ _ _ _)
        have c14 := P1.cell (ac_4 _ _ _ _ _)
        go_wp2_with fail
        refine (KA _).mono ?_
        rintro e w2 ⟨rfl, n2, rfl⟩
        have P2 := P1.drewN n2
        have c20 := P2.cell (ac_0 _ _ _ _ _)
        have c21 := P2.cell (ac_1 _ _ _ _ _)
        have c22 := P2.cell (ac_2 _ _ _ _ _)
        have c23 := P2.cell (ac_3 _ _ _ _ _)
        have c24 := P2.cell (ac_4 _ _ _ _ _)
        go_wp2_with fail
        refine (KB _).mono ?_
        rintro e w3 ⟨rfl, n3, rfl⟩
        have P3 := P2.drewN n3
        have c30 := P3.cell (ac_0 _ _ _ _ _)
        have c31 := P3.cell (ac_1 _ _ _ _ _)
        have c32 := P3.cell (ac_2 _ _ _ _ _)
        have c33 := P3.cell (ac_3 _ _ _ _ _)
        have c34 := P3.cell (ac_4 _ _ _ _ _)
        go_wp2_with fail
        refine (KC _).mono ?_
        rintro e w4 ⟨rfl, n4, rfl⟩
        have P4 := P3.drewN n4
        have c40 := P4.cell (ac_0 _ _ _ _ _)
        have c41 := P4.cell (ac_1 _ _ _ _ _)
        have c42 := P4.cell (ac_2 _ _ _ _ _)
        have c43 := P4.cell (ac_3 _ _ _ _ _)
        have c44 := P4.cell (ac_4 _ _ _ _ _)
        go_wp2_with fail
        refine (KF _).mono ?_
        rintro e w5 ⟨rfl, n5, rfl⟩
        have P5 := P4.drewN n5
        have c50 := P5.cell (ac_0 _ _ _ _ _)
        have c51 := P5.cell (ac_1 _ _ _ _ _)
        have c52 := P5.cell (ac_2 _ _ _ _ _)
        have c53 := P5.cell (ac_3 _ _ _ _ _)
        have c54 := P5.cell (ac_4 _ _ _ _ _)
        go_wp2_with fail
        refine (l06Words_any _).mono ?_
        rintro e w6 ⟨⟨g1, g2, g3, rfl, G2, G3⟩, hb6⟩
        have P6 := (P0.drewN (n1 + n2 + n3 + n4 + n5)).step hb6
        have c60 := P6.cell (ac_0 _ _ _ _ _)
        have c61 := P6.cell (ac_1 _ _ _ _ _)
        have c62 := P6.cell (ac_2 _ _ _ _ _)
        have c63 := P6.cell (ac_3 _ _ _ _ _)
        have c64 := P6.cell (ac_4 _ _ _ _ _)
        have d6 := G2.cell (show IW[4]? = some (.int .i64 1) from rfl)
        have e6 := G3.cell (show FW[4]? = some (.bool false) from rfl)
        go_wp2_with fail
        go_ret
        exact ⟨by rw [hv.out]; rfl, bthen (bdrew (Below.refl _ _) _) hb6⟩
      · have hz1 : (FloatKind.f32.format.order f 0 == some .eq) = true := hz
        rw [hz] at HV
        have hv := Lib.hid (show vVA 4 a 0 0 f = true from by rw [HV]; simp [hasB, hasC, hasF])
        clear HV
        go_enter Try.func53, Try.ntmps53
        go_wp2_with fail
        refine (KK _).mono ?_
        rintro e w1 ⟨rfl, n1, rfl⟩
        have P1 := P0.drewN n1
        have c10 := P1.cell (ac_0 _ _ _ _ _)
        have c11 := P1.cell (ac_1 _ _ _ _ _)
        have c12 := P1.cell (ac_2 _ _ _ _ _)
        have c13 := P1.cell (ac_3 _ _ _ _ _)
        have c14 := P1.cell (ac_4 _ _ _ _ _)
        go_wp2_with fail
        refine (KA _).mono ?_
        rintro e w2 ⟨rfl, n2, rfl⟩
        have P2 := P1.drewN n2
        have c20 := P2.cell (ac_0 _ _ _ _ _)
        have c21 := P2.cell (ac_1 _ _ _ _ _)
        have c22 := P2.cell (ac_2 _ _ _ _ _)
        have c23 := P2.cell (ac_3 _ _ _ _ _)
        have c24 := P2.cell (ac_4 _ _ _ _ _)
        go_wp2_with fail
        refine (KB _).mono ?_
        rintro e w3 ⟨rfl, n3, rfl⟩
        have P3 := P2.drewN n3
        have c30 := P3.cell (ac_0 _ _ _ _ _)
        have c31 := P3.cell (ac_1 _ _ _ _ _)
        have c32 := P3.cell (ac_2 _ _ _ _ _)
        have c33 := P3.cell (ac_3 _ _ _ _ _)
        have c34 := P3.cell (ac_4 _ _ _ _ _)
        go_wp2_with fail
        refine (KC _).mono ?_
        rintro e w4 ⟨rfl, n4, rfl⟩
        have P4 := P3.drewN n4
        have c40 := P4.cell (ac_0 _ _ _ _ _)
        have c41 := P4.cell (ac_1 _ _ _ _ _)
        have c42 := P4.cell (ac_2 _ _ _ _ _)
        have c43 := P4.cell (ac_3 _ _ _ _ _)
        have c44 := P4.cell (ac_4 _ _ _ _ _)
        go_wp2_with fail
        refine (KF _).mono ?_
        rintro e w5 ⟨rfl, n5, rfl⟩
        have P5 := P4.drewN n5
        have c50 := P5.cell (ac_0 _ _ _ _ _)
        have c51 := P5.cell (ac_1 _ _ _ _ _)
        have c52 := P5.cell (ac_2 _ _ _ _ _)
        have c53 := P5.cell (ac_3 _ _ _ _ _)
        have c54 := P5.cell (ac_4 _ _ _ _ _)
        go_wp2_with fail
        refine (l06Words_any _).mono ?_
        rintro e w6 ⟨⟨g1, g2, g3, rfl, G2, G3⟩, hb6⟩
        have P6 := (P0.drewN (n1 + n2 + n3 + n4 + n5)).step hb6
        have c60 := P6.cell (ac_0 _ _ _ _ _)
        have c61 := P6.cell (ac_1 _ _ _ _ _)
        have c62 := P6.cell (ac_2 _ _ _ _ _)
        have c63 := P6.cell (ac_3 _ _ _ _ _)
        have c64 := P6.cell (ac_4 _ _ _ _ _)
        have d6 := G2.cell (show IW[4]? = some (.int .i64 1) from rfl)
        have e6 := G3.cell (show FW[4]? = some (.bool false) from rfl)
        go_wp2_with fail
        go_ret
        exact ⟨by rw [hv.out]; rfl, bthen (bdrew (Below.refl _ _) _) hb6⟩
    · have xc1 : decide (c = 0) = false := decide_eq_false xc
      have xc2 : (c == 0) = false := by simpa using xc
      rw [xc1] at HV
      have hv := Lib.hid (show vVA 4 a 0 c f = false from by rw [HV]; simp [hasB, hasC, hasF])
      clear HV
      go_enter Try.func53, Try.ntmps53
      go_wp2_with fail
      refine (KK _).mono ?_
      rintro e w1 ⟨rfl, n1, rfl⟩
      have P1 := P0.drewN n1
      have c10 := P1.cell (ac_0 _ _ _ _ _)
      have c11 := P1.cell (ac_1 _ _ _ _ _)
      have c12 := P1.cell (ac_2 _ _ _ _ _)
      have c13 := P1.cell (ac_3 _ _ _ _ _)
      have c14 := P1.cell (ac_4 _ _ _ _ _)
      go_wp2_with fail
      refine (KA _).mono ?_
      rintro e w2 ⟨rfl, n2, rfl⟩
      have P2 := P1.drewN n2
      have c20 := P2.cell (ac_0 _ _ _ _ _)
      have c21 := P2.cell (ac_1 _ _ _ _ _)
      have c22 := P2.cell (ac_2 _ _ _ _ _)
      have c23 := P2.cell (ac_3 _ _ _ _ _)
      have c24 := P2.cell (ac_4 _ _ _ _ _)
      go_wp2_with fail
      refine (KB _).mono ?_
      rintro e w3 ⟨rfl, n3, rfl⟩
      have P3 := P2.drewN n3
      have c30 := P3.cell (ac_0 _ _ _ _ _)
      have c31 := P3.cell (ac_1 _ _ _ _ _)
      have c32 := P3.cell (ac_2 _ _ _ _ _)
      have c33 := P3.cell (ac_3 _ _ _ _ _)
      have c34 := P3.cell (ac_4 _ _ _ _ _)
      go_wp2_with fail
      refine (KC _).mono ?_
      rintro e w4 ⟨rfl, n4, rfl⟩
      have P4 := P3.drewN n4
      have c40 := P4.cell (ac_0 _ _ _ _ _)
      have c41 := P4.cell (ac_1 _ _ _ _ _)
      have c42 := P4.cell (ac_2 _ _ _ _ _)
      have c43 := P4.cell (ac_3 _ _ _ _ _)
      have c44 := P4.cell (ac_4 _ _ _ _ _)
      go_wp2_with fail
      refine (KF _).mono ?_
      rintro e w5 ⟨rfl, n5, rfl⟩
      have P5 := P4.drewN n5
      have c50 := P5.cell (ac_0 _ _ _ _ _)
      have c51 := P5.cell (ac_1 _ _ _ _ _)
      have c52 := P5.cell (ac_2 _ _ _ _ _)
      have c53 := P5.cell (ac_3 _ _ _ _ _)
      have c54 := P5.cell (ac_4 _ _ _ _ _)
      go_wp2_with fail
      refine (l06Words_any _).mono ?_
      rintro e w6 ⟨⟨g1, g2, g3, rfl, G2, G3⟩, hb6⟩
      have P6 := (P0.drewN (n1 + n2 + n3 + n4 + n5)).step hb6
      have c60 := P6.cell (ac_0 _ _ _ _ _)
      have c61 := P6.cell (ac_1 _ _ _ _ _)
      have c62 := P6.cell (ac_2 _ _ _ _ _)
      have c63 := P6.cell (ac_3 _ _ _ _ _)
      have c64 := P6.cell (ac_4 _ _ _ _ _)
      have d6 := G2.cell (show IW[4]? = some (.int .i64 1) from rfl)
      have e6 := G3.cell (show FW[4]? = some (.bool false) from rfl)
      go_wp2_with fail
      go_ret
      exact ⟨by rw [hv.out]; rfl, bthen (bdrew (Below.refl _ _) _) hb6⟩
  · have xb1 : decide (b = 0) = false := decide_eq_false xb
    have xb2 : (b == 0) = false := by simpa using xb
    rw [xb1] at HV
    have hv := Lib.hid (show vVA 4 a b c f = false from by rw [HV]; simp [hasB, hasC, hasF])
    clear HV
    go_enter Try.func53, Try.ntmps53
    go_wp2_with fail
    refine (KK _).mono ?_
    rintro e w1 ⟨rfl, n1, rfl⟩
    have P1 := P0.drewN n1
    have c10 := P1.cell (ac_0 _ _ _ _ _)
    have c11 := P1.cell (ac_1 _ _ _ _ _)
    have c12 := P1.cell (ac_2 _ _ _ _ _)
    have c13 := P1.cell (ac_3 _ _ _ _ _)
    have c14 := P1.cell (ac_4 _ _ _ _ _)
    go_wp2_with fail
    refine (KA _).mono ?_
    rintro e w2 ⟨rfl, n2, rfl⟩
    have P2 := P1.drewN n2
    have c20 := P2.cell (ac_0 _ _ _ _ _)
    have c21 := P2.cell (ac_1 _ _ _ _ _)
    have c22 := P2.cell (ac_2 _ _ _ _ _)
    have c23 := P2.cell (ac_3 _ _ _ _ _)
    have c24 := P2.cell (ac_4 _ _ _ _ _)
    go_wp2_with fail
    refine (KB _).mono ?_
    rintro e w3 ⟨rfl, n3, rfl⟩
    have P3 := P2.drewN n3
    have c30 := P3.cell (ac_0 _ _ _ _ _)
    have c31 := P3.cell (ac_1 _ _ _ _ _)
    have c32 := P3.cell (ac_2 _ _ _ _ _)
    have c33 := P3.cell (ac_3 _ _ _ _ _)
    have c34 := P3.cell (ac_4 _ _ _ _ _)
    go_wp2_with fail
    refine (KC _).mono ?_
    rintro e w4 ⟨rfl, n4, rfl⟩
    have P4 := P3.drewN n4
    have c40 := P4.cell (ac_0 _ _ _ _ _)
    have c41 := P4.cell (ac_1 _ _ _ _ _)
    have c42 := P4.cell (ac_2 _ _ _ _ _)
    have c43 := P4.cell (ac_3 _ _ _ _ _)
    have c44 := P4.cell (ac_4 _ _ _ _ _)
    go_wp2_with fail
    refine (KF _).mono ?_
    rintro e w5 ⟨rfl, n5, rfl⟩
    have P5 := P4.drewN n5
    have c50 := P5.cell (ac_0 _ _ _ _ _)
    have c51 := P5.cell (ac_1 _ _ _ _ _)
    have c52 := P5.cell (ac_2 _ _ _ _ _)
    have c53 := P5.cell (ac_3 _ _ _ _ _)
    have c54 := P5.cell (ac_4 _ _ _ _ _)
    go_wp2_with fail
    refine (l06Words_any _).mono ?_
    rintro e w6 ⟨⟨g1, g2, g3, rfl, G2, G3⟩, hb6⟩
    have P6 := (P0.drewN (n1 + n2 + n3 + n4 + n5)).step hb6
    have c60 := P6.cell (ac_0 _ _ _ _ _)
    have c61 := P6.cell (ac_1 _ _ _ _ _)
    have c62 := P6.cell (ac_2 _ _ _ _ _)
    have c63 := P6.cell (ac_3 _ _ _ _ _)
    have c64 := P6.cell (ac_4 _ _ _ _ _)
    have d6 := G2.cell (show IW[4]? = some (.int .i64 1) from rfl)
    have e6 := G3.cell (show FW[4]? = some (.bool false) from rfl)
    go_wp2_with fail
    go_ret
    exact ⟨by rw [hv.out]; rfl, bthen (bdrew (Below.refl _ _) _) hb6⟩

set_option maxHeartbeats 4000000 in
theorem l06Act_5 (a b c : Int) (f : Nat) (hf : f < 4294967296) (qa : inB 0 999 a = true) (qb : inB 0 999 b = true) (qc : inB 0 999 c = true) (qf : finB f = true) (n : ¬ f = 2147483648) (g : Nat) (T : TypeId) (w : World) (P0 : At w g (ac 5 a b c f) T) :
    Calls Try.prog 53 #[.pointer (some ⟨g, 0, none⟩)] w fun e w' => e = .returned (.bool (vVA 5 a b c f)) ∧ Below w.heap.size w w' := by
  have HV := vVA_5 (k := 5) (by decide) qa qb qc hf qf n
  have hcb := call_f32bits
  have KK := l00In_b 5 1 6
  have KA := l00In_b a 0 999
  have KB := l00In_b b 0 999
  have KC := l00In_b c 0 999
  have KF := l01Finite_any f hf
  rw [show inB 1 6 5 = true from by decide] at KK
  rw [qa] at KA
  rw [qb] at KB
  rw [qc] at KC
  rw [qf] at KF
  have hn : decide (((f : Nat) : Int) = 2147483648) = false := decide_eq_false (by omega)
  have hn2 : (((f : Nat) : Int) == 2147483648) = false := by simpa using (by omega : ¬ ((f : Nat) : Int) = 2147483648)
  have c00 := P0.cell (ac_0 _ _ _ _ _)
  have c01 := P0.cell (ac_1 _ _ _ _ _)
  have c02 := P0.cell (ac_2 _ _ _ _ _)
  have c03 := P0.cell (ac_3 _ _ _ _ _)
  have c04 := P0.cell (ac_4 _ _ _ _ _)
  have hv := Lib.hid (show vVA 5 a b c f = true from by rw [HV]; simp [hasB, hasC, hasF])
  clear HV
  go_enter Try.func53, Try.ntmps53
  go_wp2_with fail
  refine (KK _).mono ?_
  rintro e w1 ⟨rfl, n1, rfl⟩
  have P1 := P0.drewN n1
  have c10 := P1.cell (ac_0 _ _ _ _ _)
  have c11 := P1.cell (ac_1 _ _ _ _ _)
  have c12 := P1.cell (ac_2 _ _ _ _ _)
  have c13 := P1.cell (ac_3 _ _ _ _ _)
  have c14 := P1.cell (ac_4 _ _ _ _ _)
  go_wp2_with fail
  refine (KA _).mono ?_
  rintro e w2 ⟨rfl, n2, rfl⟩
  have P2 := P1.drewN n2
  have c20 := P2.cell (ac_0 _ _ _ _ _)
  have c21 := P2.cell (ac_1 _ _ _ _ _)
  have c22 := P2.cell (ac_2 _ _ _ _ _)
  have c23 := P2.cell (ac_3 _ _ _ _ _)
  have c24 := P2.cell (ac_4 _ _ _ _ _)
  go_wp2_with fail
  refine (KB _).mono ?_
  rintro e w3 ⟨rfl, n3, rfl⟩
  have P3 := P2.drewN n3
  have c30 := P3.cell (ac_0 _ _ _ _ _)
  have c31 := P3.cell (ac_1 _ _ _ _ _)
  have c32 := P3.cell (ac_2 _ _ _ _ _)
  have c33 := P3.cell (ac_3 _ _ _ _ _)
  have c34 := P3.cell (ac_4 _ _ _ _ _)
  go_wp2_with fail
  refine (KC _).mono ?_
  rintro e w4 ⟨rfl, n4, rfl⟩
  have P4 := P3.drewN n4
  have c40 := P4.cell (ac_0 _ _ _ _ _)
  have c41 := P4.cell (ac_1 _ _ _ _ _)
  have c42 := P4.cell (ac_2 _ _ _ _ _)
  have c43 := P4.cell (ac_3 _ _ _ _ _)
  have c44 := P4.cell (ac_4 _ _ _ _ _)
  go_wp2_with fail
  refine (KF _).mono ?_
  rintro e w5 ⟨rfl, n5, rfl⟩
  have P5 := P4.drewN n5
  have c50 := P5.cell (ac_0 _ _ _ _ _)
  have c51 := P5.cell (ac_1 _ _ _ _ _)
  have c52 := P5.cell (ac_2 _ _ _ _ _)
  have c53 := P5.cell (ac_3 _ _ _ _ _)
  have c54 := P5.cell (ac_4 _ _ _ _ _)
  go_wp2_with fail
  refine (l06Words_any _).mono ?_
  rintro e w6 ⟨⟨g1, g2, g3, rfl, G2, G3⟩, hb6⟩
  have P6 := (P0.drewN (n1 + n2 + n3 + n4 + n5)).step hb6
  have c60 := P6.cell (ac_0 _ _ _ _ _)
  have c61 := P6.cell (ac_1 _ _ _ _ _)
  have c62 := P6.cell (ac_2 _ _ _ _ _)
  have c63 := P6.cell (ac_3 _ _ _ _ _)
  have c64 := P6.cell (ac_4 _ _ _ _ _)
  have d6 := G2.cell (show IW[5]? = some (.int .i64 3) from rfl)
  have e6 := G3.cell (show FW[5]? = some (.bool true) from rfl)
  go_wp2_with fail
  go_ret
  exact ⟨by rw [hv.out]; rfl, bthen (bdrew (Below.refl _ _) _) hb6⟩

set_option maxHeartbeats 4000000 in
theorem l06Act_6 (a b c : Int) (f : Nat) (hf : f < 4294967296) (qa : inB 0 999 a = true) (qb : inB 0 999 b = true) (qc : inB 0 999 c = true) (qf : finB f = true) (n : ¬ f = 2147483648) (g : Nat) (T : TypeId) (w : World) (P0 : At w g (ac 6 a b c f) T) :
    Calls Try.prog 53 #[.pointer (some ⟨g, 0, none⟩)] w fun e w' => e = .returned (.bool (vVA 6 a b c f)) ∧ Below w.heap.size w w' := by
  have HV := vVA_5 (k := 6) (by decide) qa qb qc hf qf n
  have hcb := call_f32bits
  have KK := l00In_b 6 1 6
  have KA := l00In_b a 0 999
  have KB := l00In_b b 0 999
  have KC := l00In_b c 0 999
  have KF := l01Finite_any f hf
  rw [show inB 1 6 6 = true from by decide] at KK
  rw [qa] at KA
  rw [qb] at KB
  rw [qc] at KC
  rw [qf] at KF
  have hn : decide (((f : Nat) : Int) = 2147483648) = false := decide_eq_false (by omega)
  have hn2 : (((f : Nat) : Int) == 2147483648) = false := by simpa using (by omega : ¬ ((f : Nat) : Int) = 2147483648)
  have c00 := P0.cell (ac_0 _ _ _ _ _)
  have c01 := P0.cell (ac_1 _ _ _ _ _)
  have c02 := P0.cell (ac_2 _ _ _ _ _)
  have c03 := P0.cell (ac_3 _ _ _ _ _)
  have c04 := P0.cell (ac_4 _ _ _ _ _)
  by_cases xb : b = 0
  · subst xb
    by_cases xc : c = 0
    · subst xc
      cases hz : nilW f
      · have hz1 : (FloatKind.f32.format.order f 0 == some .eq) = false := hz
        rw [hz] at HV
        have hv := Lib.hid (show vVA 6 a 0 0 f = false from by rw [HV]; simp [hasB, hasC, hasF])
        clear HV
        go_enter Try.func53, Try.ntmps53
        go_wp2_with fail
        refine (KK _).mono ?_
        rintro e w1 ⟨rfl, n1, rfl⟩
        have P1 := P0.drewN n1
        have c10 := P1.cell (ac_0 _ _ _ _ _)
        have c11 := P1.cell (ac_1 _ _ _ _ _)
        have c12 := P1.cell (ac_2 _ _ _ _ _)
        have c13 := P1.cell (ac_3 _ _ _ _ _)
        have c14 := P1.cell (ac_4 _ _ _ _ _)
        go_wp2_with fail
        refine (KA _).mono ?_
        rintro e w2 ⟨rfl, n2, rfl⟩
        have P2 := P1.drewN n2
        have c20 := P2.cell (ac_0 _ _ _ _ _)
        have c21 := P2.cell (ac_1 _ _ _ _ _)
        have c22 := P2.cell (ac_2 _ _ _ _ _)
        have c23 := P2.cell (ac_3 _ _ _ _ _)
        have c24 := P2.cell (ac_4 _ _ _ _ _)
        go_wp2_with fail
        refine (KB _).mono ?_
        rintro e w3 ⟨rfl, n3, rfl⟩
        have P3 := P2.drewN n3
        have c30 := P3.cell (ac_0 _ _ _ _ _)
        have c31 := P3.cell (ac_1 _ _ _ _ _)
        have c32 := P3.cell (ac_2 _ _ _ _ _)
        have c33 := P3.cell (ac_3 _ _ _ _ _)
        have c34 := P3.cell (ac_4 _ _ _ _ _)
        go_wp2_with fail
        refine (KC _).mono ?_
        rintro e w4 ⟨rfl, n4, rfl⟩
        have P4 := P3.drewN n4
        have c40 := P4.cell (ac_0 _ _ _ _ _)
        have c41 := P4.cell (ac_1 _ _ _ _ _)
        have c42 := P4.cell (ac_2 _ _ _ _ _)
        have c43 := P4.cell (ac_3 _ _ _ _ _)
        have c44 := P4.cell (ac_4 _ _ _ _ _)
        go_wp2_with fail
        refine (KF _).mono ?_
        rintro e w5 ⟨rfl, n5, rfl⟩
        have P5 := P4.drewN n5
        have c50 := P5.cell (ac_0 _ _ _ _ _)
        have c51 := P5.cell (ac_1 _ _ _ _ _)
        have c52 := P5.cell (ac_2 _ _ _ _ _)
        have c53 := P5.cell (ac_3 _ _ _ _ _)
        have c54 := P5.cell (ac_4 _ _ _ _ _)
        go_wp2_with fail
        refine (l06Words_any _).mono ?_
        rintro e w6 ⟨⟨g1, g2, g3, rfl, G2, G3⟩, hb6⟩
        have P6 := (P0.drewN (n1 + n2 + n3 + n4 + n5)).step hb6
        have c60 := P6.cell (ac_0 _ _ _ _ _)
        have c61 := P6.cell (ac_1 _ _ _ _ _)
        have c62 := P6.cell (ac_2 _ _ _ _ _)
        have c63 := P6.cell (ac_3 _ _ _ _ _)
        have c64 := P6.cell (ac_4 _ _ _ _ _)
        have d6 := G2.cell (show IW[6]? = some (.int .i64 1) from rfl)
        have e6 := G3.cell (show FW[6]? = some (.bool false) from rfl)
        go_wp2_with fail
        go_ret
        exact ⟨by rw [hv.out]; rfl, bthen (bdrew (Below.refl _ _) _) hb6⟩
      · have hz1 : (FloatKind.f32.format.order f 0 == some .eq) = true := hz
        rw [hz] at HV
        have hv := Lib.hid (show vVA 6 a 0 0 f = true from by rw [HV]; simp [hasB, hasC, hasF])
        clear HV
        go_enter Try.func53, Try.ntmps53
        go_wp2_with fail
        refine (KK _).mono ?_
        rintro e w1 ⟨rfl, n1, rfl⟩
        have P1 := P0.drewN n1
        have c10 := P1.cell (ac_0 _ _ _ _ _)
        have c11 := P1.cell (ac_1 _ _ _ _ _)
        have c12 := P1.cell (ac_2 _ _ _ _ _)
        have c13 := P1.cell (ac_3 _ _ _ _ _)
        have c14 := P1.cell (ac_4 _ _ _ _ _)
        go_wp2_with fail
        refine (KA _).mono ?_
        rintro e w2 ⟨rfl, n2, rfl⟩
        have P2 := P1.drewN n2
        have c20 := P2.cell (ac_0 _ _ _ _ _)
        have c21 := P2.cell (ac_1 _ _ _ _ _)
        have c22 := P2.cell (ac_2 _ _ _ _ _)
        have c23 := P2.cell (ac_3 _ _ _ _ _)
        have c24 := P2.cell (ac_4 _ _ _ _ _)
        go_wp2_with fail
        refine (KB _).mono ?_
        rintro e w3 ⟨rfl, n3, rfl⟩
        have P3 := P2.drewN n3
        have c30 := P3.cell (ac_0 _ _ _ _ _)
        have c31 := P3.cell (ac_1 _ _ _ _ _)
        have c32 := P3.cell (ac_2 _ _ _ _ _)
        have c33 := P3.cell (ac_3 _ _ _ _ _)
        have c34 := P3.cell (ac_4 _ _ _ _ _)
        go_wp2_with fail
        refine (KC _).mono ?_
        rintro e w4 ⟨rfl, n4, rfl⟩
        have P4 := P3.drewN n4
        have c40 := P4.cell (ac_0 _ _ _ _ _)
        have c41 := P4.cell (ac_1 _ _ _ _ _)
        have c42 := P4.cell (ac_2 _ _ _ _ _)
        have c43 := P4.cell (ac_3 _ _ _ _ _)
        have c44 := P4.cell (ac_4 _ _ _ _ _)
        go_wp2_with fail
        refine (KF _).mono ?_
        rintro e w5 ⟨rfl, n5, rfl⟩
        have P5 := P4.drewN n5
        have c50 := P5.cell (ac_0 _ _ _ _ _)
        have c51 := P5.cell (ac_1 _ _ _ _ _)
        have c52 := P5.cell (ac_2 _ _ _ _ _)
        have c53 := P5.cell (ac_3 _ _ _ _ _)
        have c54 := P5.cell (ac_4 _ _ _ _ _)
        go_wp2_with fail
        refine (l06Words_any _).mono ?_
        rintro e w6 ⟨⟨g1, g2, g3, rfl, G2, G3⟩, hb6⟩
        have P6 := (P0.drewN (n1 + n2 + n3 + n4 + n5)).step hb6
        have c60 := P6.cell (ac_0 _ _ _ _ _)
        have c61 := P6.cell (ac_1 _ _ _ _ _)
        have c62 := P6.cell (ac_2 _ _ _ _ _)
        have c63 := P6.cell (ac_3 _ _ _ _ _)
        have c64 := P6.cell (ac_4 _ _ _ _ _)
        have d6 := G2.cell (show IW[6]? = some (.int .i64 1) from rfl)
        have e6 := G3.cell (show FW[6]? = some (.bool false) from rfl)
        go_wp2_with fail
        go_ret
        exact ⟨by rw [hv.out]; rfl, bthen (bdrew (Below.refl _ _) _) hb6⟩
    · have xc1 : decide (c = 0) = false := decide_eq_false xc
      have xc2 : (c == 0) = false := by simpa using xc
      rw [xc1] at HV
      have hv := Lib.hid (show vVA 6 a 0 c f = false from by rw [HV]; simp [hasB, hasC, hasF])
      clear HV
      go_enter Try.func53, Try.ntmps53
      go_wp2_with fail
      refine (KK _).mono ?_
      rintro e w1 ⟨rfl, n1, rfl⟩
      have P1 := P0.drewN n1
      have c10 := P1.cell (ac_0 _ _ _ _ _)
      have c11 := P1.cell (ac_1 _ _ _ _ _)
      have c12 := P1.cell (ac_2 _ _ _ _ _)
      have c13 := P1.cell (ac_3 _ _ _ _ _)
      have c14 := P1.cell (ac_4 _ _ _ _ _)
      go_wp2_with fail
      refine (KA _).mono ?_
      rintro e w2 ⟨rfl, n2, rfl⟩
      have P2 := P1.drewN n2
      have c20 := P2.cell (ac_0 _ _ _ _ _)
      have c21 := P2.cell (ac_1 _ _ _ _ _)
      have c22 := P2.cell (ac_2 _ _ _ _ _)
      have c23 := P2.cell (ac_3 _ _ _ _ _)
      have c24 := P2.cell (ac_4 _ _ _ _ _)
      go_wp2_with fail
      refine (KB _).mono ?_
      rintro e w3 ⟨rfl, n3, rfl⟩
      have P3 := P2.drewN n3
      have c30 := P3.cell (ac_0 _ _ _ _ _)
      have c31 := P3.cell (ac_1 _ _ _ _ _)
      have c32 := P3.cell (ac_2 _ _ _ _ _)
      have c33 := P3.cell (ac_3 _ _ _ _ _)
      have c34 := P3.cell (ac_4 _ _ _ _ _)
      go_wp2_with fail
      refine (KC _).mono ?_
      rintro e w4 ⟨rfl, n4, rfl⟩
      have P4 := P3.drewN n4
      have c40 := P4.cell (ac_0 _ _ _ _ _)
      have c41 := P4.cell (ac_1 _ _ _ _ _)
      have c42 := P4.cell (ac_2 _ _ _ _ _)
      have c43 := P4.cell (ac_3 _ _ _ _ _)
      have c44 := P4.cell (ac_4 _ _ _ _ _)
      go_wp2_with fail
      refine (KF _).mono ?_
      rintro e w5 ⟨rfl, n5, rfl⟩
      have P5 := P4.drewN n5
      have c50 := P5.cell (ac_0 _ _ _ _ _)
      have c51 := P5.cell (ac_1 _ _ _ _ _)
      have c52 := P5.cell (ac_2 _ _ _ _ _)
      have c53 := P5.cell (ac_3 _ _ _ _ _)
      have c54 := P5.cell (ac_4 _ _ _ _ _)
      go_wp2_with fail
      refine (l06Words_any _).mono ?_
      rintro e w6 ⟨⟨g1, g2, g3, rfl, G2, G3⟩, hb6⟩
      have P6 := (P0.drewN (n1 + n2 + n3 + n4 + n5)).step hb6
      have c60 := P6.cell (ac_0 _ _ _ _ _)
      have c61 := P6.cell (ac_1 _ _ _ _ _)
      have c62 := P6.cell (ac_2 _ _ _ _ _)
      have c63 := P6.cell (ac_3 _ _ _ _ _)
      have c64 := P6.cell (ac_4 _ _ _ _ _)
      have d6 := G2.cell (show IW[6]? = some (.int .i64 1) from rfl)
      have e6 := G3.cell (show FW[6]? = some (.bool false) from rfl)
      go_wp2_with fail
      go_ret
      exact ⟨by rw [hv.out]; rfl, bthen (bdrew (Below.refl _ _) _) hb6⟩
  · have xb1 : decide (b = 0) = false := decide_eq_false xb
    have xb2 : (b == 0) = false := by simpa using xb
    rw [xb1] at HV
    have hv := Lib.hid (show vVA 6 a b c f = false from by rw [HV]; simp [hasB, hasC, hasF])
    clear HV
    go_enter Try.func53, Try.ntmps53
    go_wp2_with fail
    refine (KK _).mono ?_
    rintro e w1 ⟨rfl, n1, rfl⟩
    have P1 := P0.drewN n1
    have c10 := P1.cell (ac_0 _ _ _ _ _)
    have c11 := P1.cell (ac_1 _ _ _ _ _)
    have c12 := P1.cell (ac_2 _ _ _ _ _)
    have c13 := P1.cell (ac_3 _ _ _ _ _)
    have c14 := P1.cell (ac_4 _ _ _ _ _)
    go_wp2_with fail
    refine (KA _).mono ?_
    rintro e w2 ⟨rfl, n2, rfl⟩
    have P2 := P1.drewN n2
    have c20 := P2.cell (ac_0 _ _ _ _ _)
    have c21 := P2.cell (ac_1 _ _ _ _ _)
    have c22 := P2.cell (ac_2 _ _ _ _ _)
    have c23 := P2.cell (ac_3 _ _ _ _ _)
    have c24 := P2.cell (ac_4 _ _ _ _ _)
    go_wp2_with fail
    refine (KB _).mono ?_
    rintro e w3 ⟨rfl, n3, rfl⟩
    have P3 := P2.drewN n3
    have c30 := P3.cell (ac_0 _ _ _ _ _)
    have c31 := P3.cell (ac_1 _ _ _ _ _)
    have c32 := P3.cell (ac_2 _ _ _ _ _)
    have c33 := P3.cell (ac_3 _ _ _ _ _)
    have c34 := P3.cell (ac_4 _ _ _ _ _)
    go_wp2_with fail
    refine (KC _).mono ?_
    rintro e w4 ⟨rfl, n4, rfl⟩
    have P4 := P3.drewN n4
    have c40 := P4.cell (ac_0 _ _ _ _ _)
    have c41 := P4.cell (ac_1 _ _ _ _ _)
    have c42 := P4.cell (ac_2 _ _ _ _ _)
    have c43 := P4.cell (ac_3 _ _ _ _ _)
    have c44 := P4.cell (ac_4 _ _ _ _ _)
    go_wp2_with fail
    refine (KF _).mono ?_
    rintro e w5 ⟨rfl, n5, rfl⟩
    have P5 := P4.drewN n5
    have c50 := P5.cell (ac_0 _ _ _ _ _)
    have c51 := P5.cell (ac_1 _ _ _ _ _)
    have c52 := P5.cell (ac_2 _ _ _ _ _)
    have c53 := P5.cell (ac_3 _ _ _ _ _)
    have c54 := P5.cell (ac_4 _ _ _ _ _)
    go_wp2_with fail
    refine (l06Words_any _).mono ?_
    rintro e w6 ⟨⟨g1, g2, g3, rfl, G2, G3⟩, hb6⟩
    have P6 := (P0.drewN (n1 + n2 + n3 + n4 + n5)).step hb6
    have c60 := P6.cell (ac_0 _ _ _ _ _)
    have c61 := P6.cell (ac_1 _ _ _ _ _)
    have c62 := P6.cell (ac_2 _ _ _ _ _)
    have c63 := P6.cell (ac_3 _ _ _ _ _)
    have c64 := P6.cell (ac_4 _ _ _ _ _)
    have d6 := G2.cell (show IW[6]? = some (.int .i64 1) from rfl)
    have e6 := G3.cell (show FW[6]? = some (.bool false) from rfl)
    go_wp2_with fail
    go_ret
    exact ⟨by rw [hv.out]; rfl, bthen (bdrew (Below.refl _ _) _) hb6⟩

end Go.Proofs.Ytboahhipobcabaa
