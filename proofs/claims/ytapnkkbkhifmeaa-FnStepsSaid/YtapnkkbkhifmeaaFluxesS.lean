/-
  CONTRACTS: the flows of a step, the model's.
-/
import Derived.Test.YtapnkkbkhifmeaaFluxes
namespace Go.Proofs.Ytapnkkbkhifmeaa
open Go Go.RowKit
set_option maxRecDepth 100000

theorem l02Given_any (g : Nat) (cs : List Nat) (p b l : Nat) (hl : cs.length = 16) (hc : ∀ x ∈ cs, x < 4294967296) (hp : p < 4294967296) (hb : b < 4294967296) (hla : l < 4294967296) (o m : Nat) (ho : o < 4294967296) (hm : m < 4294967296) (w : World) (hr : RoadAt w g cs p b l) :
    Calls Try.prog 20 #[.pointer (some ⟨g, 0, none⟩), .float .f32 o, .float .f32 m] w (Rd (.int .i64 (givenC (okB cs p b l) o m)) w) := by
  have KV := l01Ok_any g cs p b l hl hc hp hb hla w hr
  cases h : okB cs p b l
  · rw [show givenC false o m = 1 from rfl]
    rw [h] at KV
    go_enter Try.func20, Try.ntmps20
    go_wp2_with fail
    refine KV.mono ?_
    rintro e w1 ⟨rfl, n1, rfl⟩
    go_wp2_with fail
    go_ret
    exact Rd.mkN
  · rw [h] at KV
    cases c1 : amtB o
    · have e1 : givenC true o m = 2 := by unfold givenC; rw [c1]; rfl
      rw [e1]
      go_enter Try.func20, Try.ntmps20
      go_wp2_with fail
      refine KV.mono ?_
      rintro e w1 ⟨rfl, n1, rfl⟩
      have KO := l01Amount_any o ho (w.drewN n1)
      rw [c1] at KO
      clear KV
      go_wp2_with fail
      refine KO.mono ?_
      rintro e w2 ⟨rfl, n2, rfl⟩
      clear KO
      go_wp2_with fail
      go_ret
      exact Rd.mkN
    · cases c2 : amtB m
      · have e1 : givenC true o m = 2 := by unfold givenC; rw [c1, c2]; rfl
        rw [e1]
        go_enter Try.func20, Try.ntmps20
        go_wp2_with fail
        refine KV.mono ?_
        rintro e w1 ⟨rfl, n1, rfl⟩
        have KO := l01Amount_any o ho (w.drewN n1)
        rw [c1] at KO
        clear KV
        go_wp2_with fail
        refine KO.mono ?_
        rintro e w2 ⟨rfl, n2, rfl⟩
        clear KO
        have KM := l01Amount_any m hm (w.drewN (n1 + n2))
        rw [c2] at KM
        go_wp2_with fail
        refine KM.mono ?_
        rintro e w3 ⟨rfl, n3, rfl⟩
        clear KM
        go_wp2_with fail
        go_ret
        exact Rd.mkN
      · have e1 : givenC true o m = 0 := by unfold givenC; rw [c1, c2]; rfl
        rw [e1]
        go_enter Try.func20, Try.ntmps20
        go_wp2_with fail
        refine KV.mono ?_
        rintro e w1 ⟨rfl, n1, rfl⟩
        have KO := l01Amount_any o ho (w.drewN n1)
        rw [c1] at KO
        clear KV
        go_wp2_with fail
        refine KO.mono ?_
        rintro e w2 ⟨rfl, n2, rfl⟩
        clear KO
        have KM := l01Amount_any m hm (w.drewN (n1 + n2))
        rw [c2] at KM
        go_wp2_with fail
        refine KM.mono ?_
        rintro e w3 ⟨rfl, n3, rfl⟩
        clear KM
        go_wp2_with fail
        go_ret
        exact Rd.mkN

theorem l02Flows_any (g : Nat) (cs : List Nat) (p b l : Nat) (ok : OkR cs p b l) (o m : Nat) (ho : o < 2139095040) (hm : m < 2139095040) (w : World) (Tr : TypeId) (Ar : At w g (rd cs p b l) Tr) :
    Calls Try.prog 21 #[.pointer (some ⟨g, 0, none⟩), .float .f32 o, .float .f32 m] w fun e w' => e = .returned (.agg (fl (fluxL p b cs o m))) ∧ Below w.heap.size w w' := by
  have hl := ok.len
  obtain ⟨ns, hns⟩ : ∃ ns, ns = fluxL p b cs o m := ⟨_, rfl⟩
  have hn17 : ns.length = 17 := by rw [hns]; exact fluxL_len _ _ _ _ _
  have e0 : nth ns 0 = min o (takesW p b (nth cs 0)) := by rw [hns]; exact fluxL_0 _ _ _ _ _
  have e16 : nth ns 16 = min (sendsW p b (nth cs 15)) m := by rw [hns]; exact fluxL_16 _ _ _ _ _
  have em : ∀ k, k < 15 → nth ns (k + 1) = flowW p b cs k := fun k hk => by rw [hns]; exact fluxL_mid _ _ _ _ _ hk
  have h1 := sendsW_le (b := b) ok.pace (ok.car 15)
  have h2 := takesW_le (a := nth cs 0) ok.pace ok.back
  have HE := Lib.hid (And.intro e0 (And.intro e16 (And.intro em (And.intro hns (And.intro h1 h2)))))
  rw [← hns]
  clear e0 e16 em hns h1 h2
  have hgl := Ar.lt
  have A0 : At ((w.alloc (.cells (fl (zeros 17)) 33)).alloc (.cells (fl (zeros 17)) 33)) g (rd cs p b l) Tr := (Ar.alloc _).alloc _
  have R0 : At ((w.alloc (.cells (fl (zeros 17)) 33)).alloc (.cells (fl (zeros 17)) 33)) w.heap.size (fl (zeros 17)) 33 := (At.new w _ _).alloc _
  have L0 : At ((w.alloc (.cells (fl (zeros 17)) 33)).alloc (.cells (fl (zeros 17)) 33)) (w.heap.size + 1) (fl (zeros 17)) 33 := At.last1 w _ _ _
  have L0' := L0.setRow (fl (zeros 17))
  have A0' := A0.setRow_other (k := w.heap.size + 1) (by omega) (fl (zeros 17))
  have R0' := R0.setRow_other (k := w.heap.size + 1) (by omega) (fl (zeros 17))
  have B0 := Lib.hid (bset (bnew (b0 w (.cells (fl (zeros 17)) 33)) (.cells (fl (zeros 17)) 33)) (g := w.heap.size + 1) (by omega) (fl (zeros 17)))
  go_enter Try.func21, Try.ntmps21
  go_wp2_with ((with_reducible refine is_store 33 (.tmp 7) (.tmp 9) rfl ?_); refine wpList_store_at rfl 33 (.tmp 7) (.tmp 9) rfl _ rfl (fl (zeros 17)) rfl (fl (zeros 17)) _ (by assumption) 17 (by rw [fl_size, zeros_len]) (by rw [fl_size, zeros_len]) (by kernel_rfl) (fl_one _) ?_)
  refine (l01Takes_any g 0 (by omega) cs p b l ok _ ⟨_, _, A0'⟩).mono ?_
  rintro e w1 ⟨rfl, n1, rfl⟩
  have A1 := A0'.drewN n1
  have R1 := R0'.drewN n1
  have L1 := L0'.drewN n1
  have B1 := Lib.hid (bdrew B0.out n1)
  clear A0 R0 L0 A0' R0' L0' B0
  go_wp2_with fail
  refine (l01Less_any o (takesW p b (nth cs 0)) (by omega) (by have := HE.out.2.2.2.2.2; omega) _).mono ?_
  rw [← HE.out.1]
  rintro e w2 ⟨rfl, n2, rfl⟩
  have A2 := A1.drewN n2
  have R2 := R1.drewN n2
  have L2 := L1.drewN n2
  have B2 := Lib.hid (bdrew B1.out n2)
  clear A1 R1 L1 B1
  generalize hw2 : World.drewN (World.drewN _ n1) n2 = w2 at A2 R2 L2 B2 ⊢
  clear hw2
  have G0 := run_store_one (P := Try.prog) w2 (w.heap.size + 1) 0 33 (fl (zeros 17)) (.float .f32 (nth ns 0)) L2 (by rw [fl_size, zeros_len]; omega) rfl
  have e1 : (zeros 17).set 0 (nth ns 0) = mixTo ns (zeros 17) (0 + 1) := by
    rw [← mixTo_set hn17 (zeros_len 17) (by omega), mixTo_zero]
  rw [fl_set, e1] at G0
  have A3 := A2.setRow_other (k := w.heap.size + 1) (by omega) (fl (mixTo ns (zeros 17) (0 + 1)))
  have R3 := R2.setRow_other (k := w.heap.size + 1) (by omega) (fl (mixTo ns (zeros 17) (0 + 1)))
  have L3 := L2.setRow (fl (mixTo ns (zeros 17) (0 + 1)))
  have B3 := Lib.hid (bset B2.out (g := w.heap.size + 1) (by omega) (fl (mixTo ns (zeros 17) (0 + 1))))
  clear A2 R2 L2 B2 e1
  go_wp2
  have BB3 := B3
  go_loopw [8] (fun i wr => ∃ k : Nat, k ≤ 15 ∧ i = .int .i64 k ∧ At wr g (rd cs p b l) Tr ∧ At wr w.heap.size (fl (zeros 17)) 33 ∧ At wr (w.heap.size + 1) (fl (mixTo ns (zeros 17) (k + 1))) 33 ∧ Hid (Below w.heap.size w wr)) (fun i _ => 16 - (intOf i).toNat)
  case atStart => exact ⟨0, by omega, rfl, A3, R3, L3, BB3⟩
  case round =>
    obtain ⟨k, hk, rfl, A4, R4, L4, B4⟩ := hrel
    clear A3 R3 L3 B3 BB3 G0
    have s2 : IntKind.i64.wrap ((k : Int) + 1) = (k : Int) + 1 := IntWalk.i64_in _ (by omega)
    by_cases hlt : k < 15
    · have hki : (k : Int) < 15 := by omega
      go_wp2_with fail
      refine (l01Flow_any g k (by omega) cs p b l ok _ ⟨_, _, A4⟩).mono ?_
      rintro e w5 ⟨rfl, n5, rfl⟩
      have A5 := A4.drewN n5
      have R5 := R4.drewN n5
      have L5 := L4.drewN n5
      have B5 := Lib.hid (bdrew B4.out n5)
      generalize wr.drewN n5 = w5 at A5 R5 L5 B5 ⊢
      clear A4 R4 L4 B4
      have G := run_store_one (P := Try.prog) w5 (w.heap.size + 1) (k + 1) 33 (fl (mixTo ns (zeros 17) (k + 1))) (.float .f32 (flowW p b cs k)) L5 (by rw [fl_size, mixTo_len hn17 (zeros_len 17) (by omega)]; omega) rfl
      rw [fl_set, ← HE.out.2.2.1 k hlt, mixTo_set hn17 (zeros_len 17) (by omega), HE.out.2.2.1 k hlt] at G
      have A6 := A5.setRow_other (k := w.heap.size + 1) (by omega) (fl (mixTo ns (zeros 17) (k + 1 + 1)))
      have R6 := R5.setRow_other (k := w.heap.size + 1) (by omega) (fl (mixTo ns (zeros 17) (k + 1 + 1)))
      have L6 := L5.setRow (fl (mixTo ns (zeros 17) (k + 1 + 1)))
      have B6 := Lib.hid (bset B5.out (g := w.heap.size + 1) (by omega) (fl (mixTo ns (zeros 17) (k + 1 + 1))))
      clear A5 R5 L5 B5
      go_wp2
      exact ⟨⟨k + 1, by omega, by go_num, A6, R6, L6, B6⟩, by simp [intOf]; omega⟩
    · obtain rfl : k = 15 := by omega
      go_wp2_with fail
      refine (l01Sends_any g 15 (by omega) cs p b l ok _ ⟨_, _, A4⟩).mono ?_
      rintro e w5 ⟨rfl, n5, rfl⟩
      have R5 := R4.drewN n5
      have L5 := L4.drewN n5
      have B5 := Lib.hid (bdrew B4.out n5)
      clear A4 R4 L4 B4
      go_wp2_with fail
      refine (l01Less_any (sendsW p b (nth cs 15)) m (by have := HE.out.2.2.2.2.1; omega) (by omega) _).mono ?_
      rw [← HE.out.2.1]
      rintro e w6 ⟨rfl, n6, rfl⟩
      have R6 := R5.drewN n6
      have L6 := L5.drewN n6
      have B6 := Lib.hid (bdrew B5.out n6)
      generalize hw6 : World.drewN (World.drewN _ n5) n6 = w6 at R6 L6 B6 ⊢
      clear R5 L5 B5 hw6
      have G := run_store_one (P := Try.prog) w6 (w.heap.size + 1) 16 33 (fl (mixTo ns (zeros 17) (15 + 1))) (.float .f32 (nth ns 16)) L6 (by rw [fl_size, mixTo_len hn17 (zeros_len 17) (by omega)]; omega) rfl
      rw [fl_set, mixTo_set hn17 (zeros_len 17) (by omega), mixTo_all hn17 (zeros_len 17)] at G
      have R7 := R6.setRow_other (k := w.heap.size + 1) (by omega) (fl ns)
      have L7 := L6.setRow (fl ns)
      have B7 := Lib.hid (bset B6.out (g := w.heap.size + 1) (by omega) (fl ns))
      have SZ : (fl ns).size = 17 := by rw [fl_size, hn17]
      have R9 := R7.setRow (fl ns)
      have B9 := Lib.hid (bset B7.out (g := w.heap.size) (Nat.le_refl _) (fl ns))
      clear R6 L6 B6 B7
      go_wp2_with (first | ((with_reducible refine is_load 33 _ rfl ?_); refine wpList_load_at rfl 33 _ rfl _ rfl (fl ns) _ (by assumption) 17 SZ _ Try.underlying33 rfl (by kernel_rfl) ?_) | ((with_reducible refine is_store 33 (.tmp 6) (.tmp 31) rfl ?_); refine wpList_store_at rfl 33 (.tmp 6) (.tmp 31) rfl _ rfl (fl ns) rfl (fl (zeros 17)) _ (by assumption) 17 SZ (by rw [fl_size, zeros_len]) (by kernel_rfl) (fl_one _) ?_))
      exact bodyPost_ret (v := .agg (fl ns)) (results_at (p := 6) (ty := 33) rfl _ _ _ (fl ns) _ rfl R9 _ Try.underlying33 rfl 17 SZ (by kernel_rfl)) rfl ⟨rfl, B9.out⟩
end Go.Proofs.Ytapnkkbkhifmeaa
