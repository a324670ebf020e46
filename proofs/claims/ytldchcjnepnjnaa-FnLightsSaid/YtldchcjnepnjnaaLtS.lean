/-
  CONTRACTS: the model's StepLight.
-/
import Derived.Test.YtldchcjnepnjnaaG10
namespace Go.Proofs.Ytldchcjnepnjnaa
open Go Go.ChangeShapes Go.WideShapes Go.ChangeAt Go.RowKit
set_option maxRecDepth 100000

set_option maxHeartbeats 8000000 in
theorem sStepLight_e (cp : Nat) (zs : Array Value) (G : Nat) (xs : Slots) (b o : Nat) (hW : SlW xs) (T : TypeId) (cs : List Bool) (hcs : cs.length = 8) (le mo k n : Nat) (r : Bool) (k' n' : Nat) (r' : Bool) (hlp : lpB xs b o k n r = true) (hx : xs.length ≤ 8) (hk : k < xs.length) (hn : n ≤ 1000) (hle1 : 1 ≤ le) (hlm : le ≤ mo) (hmo : mo ≤ 240) (hT : stepT xs b cs le mo k n r = (k', n', r')) (w : World) (A0 : At w G (slY xs zs) T) :
    Calls Try.prog 10 #[.agg (plC (.slice (some ⟨G, 0, none⟩) xs.length cp) b o), .agg (ltC k n r), .agg (bl cs), .int .i64 le, .int .i64 mo] w fun e w' => e = .returned (.tuple #[.agg (ltC k' n' r'), .int .i64 0]) ∧ Below w.heap.size w w' := by
  unfold stepT at hT
  cases r
  · have P0 : At ((((w.alloc (.cells (plC (.slice (some ⟨G, 0, none⟩) xs.length cp) b o) 26)).alloc (.cells (ltC k n false) 33)).alloc (.cells (bl cs) 29)).alloc (.cells (ltC 0 0 false) 33)) w.heap.size (plC (.slice (some ⟨G, 0, none⟩) xs.length cp) b o) 26 := (((At.new w _ _).alloc _).alloc _).alloc _
    have L0 : At ((((w.alloc (.cells (plC (.slice (some ⟨G, 0, none⟩) xs.length cp) b o) 26)).alloc (.cells (ltC k n false) 33)).alloc (.cells (bl cs) 29)).alloc (.cells (ltC 0 0 false) 33)) (w.heap.size + 1) (ltC k n false) 33 := ((At.last1 w _ _ _).alloc _).alloc _
    have C0 : At ((((w.alloc (.cells (plC (.slice (some ⟨G, 0, none⟩) xs.length cp) b o) 26)).alloc (.cells (ltC k n false) 33)).alloc (.cells (bl cs) 29)).alloc (.cells (ltC 0 0 false) 33)) (w.heap.size + 1 + 1) (bl cs) 29 := (At.last2 w _ _ _ _).alloc _
    have R0 : At ((((w.alloc (.cells (plC (.slice (some ⟨G, 0, none⟩) xs.length cp) b o) 26)).alloc (.cells (ltC k n false) 33)).alloc (.cells (bl cs) 29)).alloc (.cells (ltC 0 0 false) 33)) (w.heap.size + 1 + 1 + 1) (ltC 0 0 false) 33 := At.last3 w _ _ _ _ _
    replace A0 := (((A0.alloc (.cells (plC (.slice (some ⟨G, 0, none⟩) xs.length cp) b o) 26)).alloc (.cells (ltC k n false) 33)).alloc (.cells (bl cs) 29)).alloc (.cells (ltC 0 0 false) 33)
    have BW := Lib.hid (bnew (bnew (bnew (b0 w (.cells (plC (.slice (some ⟨G, 0, none⟩) xs.length cp) b o) 26)) (.cells (ltC k n false) 33)) (.cells (bl cs) 29)) (.cells (ltC 0 0 false) 33))
    have KL := l04LightZ_any cp zs w.heap.size (w.heap.size + 1) 26 33 G xs b o hW T k n false (by omega) _ P0 L0 A0
    rw [hlp] at KL
    have K1 := fun w => l00In_c (le : Int) 1 240 w
    rw [inB_yes (by omega)] at K1
    have K2 := fun w => l00In_c (mo : Int) (le : Int) 240 w
    rw [inB_yes (by omega)] at K2
    have hm0 : ¬ (xs.length : Int) = 0 := by omega
    have s1 : IntKind.i64.wrap ((k : Int) + 1) = (k : Int) + 1 := IntWalk.i64_in _ (by omega)
    have hq : (((k + 1) % xs.length : Nat) : Int) = ((k : Int) + 1) % (xs.length : Int) := by simp
    have s2 : IntKind.i64.wrap (((k : Int) + 1).tmod (xs.length : Int)) = ((k : Int) + 1) % (xs.length : Int) := by
      rw [Int.tmod_eq_emod_of_nonneg (by omega)]
      have := Nat.mod_lt (k + 1) (show 0 < xs.length by omega)
      rw [← hq]
      exact IntWalk.i64_in _ (by omega)
    have HQ := Lib.hid hq
    clear hq
    have s3 : IntKind.i64.wrap ((n : Int) + 1) = (n : Int) + 1 := IntWalk.i64_in _ (by omega)
    rw [ltC_z.symm] at P0 L0 C0 R0 A0 BW KL
    go_enter Try.func10, Try.ntmps10
    go_wp2_with fail
    refine KL.mono ?_
    rintro e w1 ⟨rfl, hb⟩
    rw [ltC_z] at R0
    replace P0 := P0.step hb
    replace L0 := L0.step hb
    replace C0 := C0.step hb
    replace R0 := R0.step hb
    replace A0 := A0.step hb
    replace BW := Lib.hid (BW.out.trans (hb.mono BW.out.size))
    clear hb
    clear KL
    go_wp2_with fail
    refine (K1 _).mono ?_
    rintro e w2 ⟨rfl, hb⟩
    replace P0 := P0.step hb
    replace L0 := L0.step hb
    replace C0 := C0.step hb
    replace R0 := R0.step hb
    replace A0 := A0.step hb
    replace BW := Lib.hid (BW.out.trans (hb.mono BW.out.size))
    clear hb
    go_wp2_with fail
    refine (K2 _).mono ?_
    rintro e w3 ⟨rfl, hb⟩
    replace P0 := P0.step hb
    replace L0 := L0.step hb
    replace C0 := C0.step hb
    replace R0 := R0.step hb
    replace A0 := A0.step hb
    replace BW := Lib.hid (BW.out.trans (hb.mono BW.out.size))
    clear hb
    clear K1 K2
    have c1 := L0.cell (ltC_0 _ _ _)
    have c2 := P0.cell (plC_0 _ _ _)
    have L := At.new w3 (ltC 0 0 false) 33
    have Q0 := L.setRow (ltC (((k : Int) + 1) % (xs.length : Int)) 0 false)
    replace P0 := (P0.alloc (.cells (ltC 0 0 false) 33)).setRow_other (k := w3.heap.size) (Nat.ne_of_lt P0.lt) (ltC (((k : Int) + 1) % (xs.length : Int)) 0 false)
    replace L0 := (L0.alloc (.cells (ltC 0 0 false) 33)).setRow_other (k := w3.heap.size) (Nat.ne_of_lt L0.lt) (ltC (((k : Int) + 1) % (xs.length : Int)) 0 false)
    replace C0 := (C0.alloc (.cells (ltC 0 0 false) 33)).setRow_other (k := w3.heap.size) (Nat.ne_of_lt C0.lt) (ltC (((k : Int) + 1) % (xs.length : Int)) 0 false)
    replace R0 := (R0.alloc (.cells (ltC 0 0 false) 33)).setRow_other (k := w3.heap.size) (Nat.ne_of_lt R0.lt) (ltC (((k : Int) + 1) % (xs.length : Int)) 0 false)
    replace A0 := (A0.alloc (.cells (ltC 0 0 false) 33)).setRow_other (k := w3.heap.size) (Nat.ne_of_lt A0.lt) (ltC (((k : Int) + 1) % (xs.length : Int)) 0 false)
    replace BW := Lib.hid (bset (BW.out.alloc BW.out.size (.cells (ltC 0 0 false) 33)) (g := w3.heap.size) BW.out.size (ltC (((k : Int) + 1) % (xs.length : Int)) 0 false))
    go_wp2_with (first | ((with_reducible refine is_store 33 _ _ rfl ?_); refine wpList_store_at rfl 33 _ _ rfl _ rfl (ltC (((k : Int) + 1) % (xs.length : Int)) 0 false) rfl (ltC 0 0 false) _ L 3 (ltC_size _ _ _) (ltC_size _ _ _) (by kernel_rfl) (lt_one _ _ _) ?_) | ((with_reducible refine is_load 2 _ rfl ?_); refine wpList_load_cell rfl 2 _ rfl _ 0 rfl (ltC k n false) _ L0 _ Try.underlying2 rfl (.int .i64 (k : Int)) (ltC_0 _ _ _) ?_) | ((with_reducible refine is_load 2 _ rfl ?_); refine wpList_load_cell rfl 2 _ rfl _ 1 rfl (ltC k n false) _ L0 _ Try.underlying2 rfl (.int .i64 (n : Int)) (ltC_1 _ _ _) ?_) | ((with_reducible refine is_load 24 _ rfl ?_); refine wpList_load_cell rfl 24 _ rfl _ 0 rfl (plC (.slice (some ⟨G, 0, none⟩) xs.length cp) b o) _ P0 _ Try.underlying24 rfl (.slice (some ⟨G, 0, none⟩) xs.length cp) (plC_0 _ _ _) ?_) | ((with_reducible refine is_bld 33 _ rfl ?_); refine wpList_bld rfl 33 _ rfl #[(0, .int .i64 (((k : Int) + 1) % (xs.length : Int)))] (by kernel_rfl) (ltC (((k : Int) + 1) % (xs.length : Int)) 0 false) (lt_bld0 _) ?_) | ((with_reducible refine is_load 4 _ rfl ?_); refine hold ?_))
    rw [show (#[.int .i64 0, .int .i64 0, .bool false] : Array Value) = ltC 0 0 false from by kernel_rfl]
    clear L
    generalize World.setRow _ _ _ = w4 at P0 L0 C0 R0 A0 Q0 BW ⊢
    clear c1 c2
    refine Lib.hid ?_
    have hb8 := (hW.at hk).1
    have SS := slY_size (zs := zs) hW
    have hle : k * 9 + 8 ≤ (slY xs zs).size := by omega
    have hph := slY_phase (zs := zs) hW hk (k := k * 9) rfl
    have SZ8 : (bl (sb xs k)).size = 8 := by rw [bl_size, hb8]
    have kd : (k : Int) < (xs.length : Int) := by omega
    have H0' := At.new w4 (bl (noes 8)) 29
    have A0' := A0
    have c1 := L0.cell (ltC_0 _ _ _)
    have c2 := P0.cell (plC_0 _ _ _)
    have c3 := L0.cell (ltC_2 _ _ _)
    have H0 := H0'.setRow (bl (sb xs k))
    replace P0 := (P0.alloc (.cells (bl (noes 8)) 29)).setRow_other (k := w4.heap.size) (Nat.ne_of_lt P0.lt) (bl (sb xs k))
    replace L0 := (L0.alloc (.cells (bl (noes 8)) 29)).setRow_other (k := w4.heap.size) (Nat.ne_of_lt L0.lt) (bl (sb xs k))
    replace C0 := (C0.alloc (.cells (bl (noes 8)) 29)).setRow_other (k := w4.heap.size) (Nat.ne_of_lt C0.lt) (bl (sb xs k))
    replace R0 := (R0.alloc (.cells (bl (noes 8)) 29)).setRow_other (k := w4.heap.size) (Nat.ne_of_lt R0.lt) (bl (sb xs k))
    replace A0 := (A0.alloc (.cells (bl (noes 8)) 29)).setRow_other (k := w4.heap.size) (Nat.ne_of_lt A0.lt) (bl (sb xs k))
    replace Q0 := (Q0.alloc (.cells (bl (noes 8)) 29)).setRow_other (k := w4.heap.size) (Nat.ne_of_lt Q0.lt) (bl (sb xs k))
    replace BW := Lib.hid (bset (BW.out.alloc BW.out.size (.cells (bl (noes 8)) 29)) (g := w4.heap.size) BW.out.size (bl (sb xs k)))
    go_wp2_with (first | ((with_reducible refine is_load 4 _ rfl ?_); refine wpList_load_cell rfl 4 _ rfl _ 2 rfl (ltC k n false) _ L0 _ Try.underlying4 rfl (.bool false) (ltC_2 _ _ _) ?_) | ((with_reducible refine is_load 24 _ rfl ?_); refine wpList_load_cell rfl 24 _ rfl _ 0 rfl (plC (.slice (some ⟨G, 0, none⟩) xs.length cp) b o) _ P0 _ Try.underlying24 rfl (.slice (some ⟨G, 0, none⟩) xs.length cp) (plC_0 _ _ _) ?_) | ((with_reducible refine is_load 2 _ rfl ?_); refine wpList_load_cell rfl 2 _ rfl _ 0 rfl (ltC k n false) _ L0 _ Try.underlying2 rfl (.int .i64 (k : Int)) (ltC_0 _ _ _) ?_) | ((with_reducible refine is_load 29 _ rfl ?_); refine wpList_load_part rfl 29 _ rfl _ (k * 9) rfl (slY xs zs) _ A0' 8 hle _ Try.underlying29 rfl (by kernel_rfl) (bl (sb xs k)) hph ?_) | ((with_reducible refine is_store 29 _ _ rfl ?_); refine wpList_store_at rfl 29 _ _ rfl _ rfl (bl (sb xs k)) rfl (bl (noes 8)) _ H0' 8 (SZ8) (by rw [bl_size, noes_len]) (by kernel_rfl) (bl_one _) ?_))
    rw [bl_noes]
    clear H0' A0' c1 c2 c3
    generalize World.setRow _ _ _ = w5 at P0 L0 C0 R0 A0 Q0 H0 BW ⊢
    go_loopw [15, 16] (fun cv iv wr => ∃ (i : Nat) (c : Bool), i ≤ 8 ∧ iv = .int .i64 (i : Int) ∧ cv = .bool c ∧ Hid (c = cal (sb xs k) cs i) ∧ At wr w.heap.size (plC (.slice (some ⟨G, 0, none⟩) xs.length cp) b o) 26 ∧ At wr (w.heap.size + 1) (ltC k n false) 33 ∧ At wr (w.heap.size + 1 + 1) (bl cs) 29 ∧ At wr (w.heap.size + 1 + 1 + 1) (ltC 0 0 false) 33 ∧ At wr w3.heap.size (ltC (((k : Int) + 1) % (xs.length : Int)) 0 false) 33 ∧ At wr w4.heap.size (bl (sb xs k)) 29 ∧ Hid (Below w.heap.size w wr)) (fun _ iv _ => 8 - (intOf iv).toNat)
    case atStart => exact ⟨0, false, by omega, rfl, rfl, Lib.hid rfl, P0, L0, C0, R0, Q0, H0, BW⟩
    case round =>
      clear P0 L0 C0 R0 Q0 H0 BW A0
      obtain ⟨i, c, hi, rfl, rfl, hc, P0, L0, C0, R0, Q0, H0, BW⟩ := hrel
      by_cases hlt : i < 8
      · have s4 : IntKind.i64.wrap ((i : Int) + 1) = (i : Int) + 1 := IntWalk.i64_in _ (by omega)
        have id8 : (i : Int) < 8 := by omega
        have d1 := H0.cell (bl_get (bs := sb xs k) (k := i) (by omega))
        have d2 := C0.cell (bl_get (bs := cs) (k := i) (by omega))
        cases c
        · cases hg : bn (sb xs k) i
          · rw [hg] at d1
            have hc2 := Lib.hid (show false = cal (sb xs k) cs (i + 1) from by rw [cal, ← hc.out, hg]; rfl)
            clear hg hc
            go_wp2_with fail
            exact ⟨⟨i + 1, _, by omega, by go_num, rfl, hc2, P0, L0, C0, R0, Q0, H0, BW⟩, by simp [intOf]; omega⟩
          · cases hq : bn cs i
            · rw [hg] at d1
              rw [hq] at d2
              have hc2 := Lib.hid (show false = cal (sb xs k) cs (i + 1) from by rw [cal, ← hc.out, hg, hq]; rfl)
              clear hg hq hc
              go_wp2_with fail
              exact ⟨⟨i + 1, _, by omega, by go_num, rfl, hc2, P0, L0, C0, R0, Q0, H0, BW⟩, by simp [intOf]; omega⟩
            · rw [hg] at d1
              rw [hq] at d2
              have hc2 := Lib.hid (show true = cal (sb xs k) cs (i + 1) from by rw [cal, ← hc.out, hg, hq]; rfl)
              clear hg hq hc
              go_wp2_with fail
              exact ⟨⟨i + 1, _, by omega, by go_num, rfl, hc2, P0, L0, C0, R0, Q0, H0, BW⟩, by simp [intOf]; omega⟩
        · have hc2 := Lib.hid (show true = cal (sb xs k) cs (i + 1) from by rw [cal, ← hc.out]; rfl)
          clear hc
          go_wp2_with fail
          exact ⟨⟨i + 1, _, by omega, by go_num, rfl, hc2, P0, L0, C0, R0, Q0, H0, BW⟩, by simp [intOf]; omega⟩
      · obtain rfl : i = 8 := by omega
        rw [if_neg (by decide), ← hc.out] at hT
        have e5 : decide ((0 : Int) = (b : Int)) = decide (b = 0) := by by_cases q : b = 0 <;> simp [q] <;> omega
        have e6 : ((b : Int) == 0) = decide (b = 0) := by by_cases q : b = 0 <;> simp [q]
        by_cases h1 : le ≤ n + 1
        · have g1 : decide ((le : Int) ≤ ((n : Int) + 1)) = true := decide_eq_true (by omega)
          by_cases h2 : mo ≤ n + 1
          · have g2 : decide ((mo : Int) ≤ ((n : Int) + 1)) = true := decide_eq_true (by omega)
            rw [if_pos (.inr h2)] at hT
            cases c
            · by_cases h3 : b = 0
              · rw [if_pos h3] at hT
                rw [decide_eq_true h3] at e5 e6
                injection hT with t1 t2
                injection t2 with t2 t3
                subst t1 t2 t3
                have R9 := R0.setRow (ltC (((k : Int) + 1) % (xs.length : Int)) 0 false)
                have B9 := Lib.hid (bset BW.out (g := w.heap.size + 1 + 1 + 1) (by omega) (ltC (((k : Int) + 1) % (xs.length : Int)) 0 false))
                go_wp2_with (first | ((with_reducible refine is_load 2 _ rfl ?_); refine wpList_load_cell rfl 2 _ rfl _ 1 rfl (plC (.slice (some ⟨G, 0, none⟩) xs.length cp) b o) _ P0 _ Try.underlying2 rfl (.int .i64 (b : Int)) (plC_1 _ _ _) ?_) | ((with_reducible refine is_load 33 _ rfl ?_); refine wpList_load_at rfl 33 _ rfl _ rfl (ltC (((k : Int) + 1) % (xs.length : Int)) 0 false) _ Q0 3 (ltC_size _ _ _) _ Try.underlying33 rfl (by kernel_rfl) ?_) | ((with_reducible refine is_store 33 _ _ rfl ?_); refine wpList_store_at rfl 33 _ _ rfl _ rfl (ltC (((k : Int) + 1) % (xs.length : Int)) 0 false) rfl (ltC 0 0 false) _ R0 3 (ltC_size _ _ _) (ltC_size _ _ _) (by kernel_rfl) (lt_one _ _ _) ?_))
                exact bodyPost_ret (v := .tuple #[.agg (ltC (((k : Int) + 1) % (xs.length : Int)) 0 false), .int .i64 0]) (results_at_tmp (p := 10) (ty := 33) rfl _ _ _ (ltC (((k : Int) + 1) % (xs.length : Int)) 0 false) _ (.int .i64 0) rfl rfl R9 _ Try.underlying33 rfl 3 (ltC_size _ _ _) (by kernel_rfl)) rfl ⟨by first | rfl | (rw [HQ.out]; rfl), B9.out⟩
              · rw [if_neg h3] at hT
                rw [decide_eq_false h3] at e5 e6
                injection hT with t1 t2
                injection t2 with t2 t3
                subst t1 t2 t3
                have R9 := R0.setRow (ltC (k : Int) 0 true)
                have B9 := Lib.hid (bset BW.out (g := w.heap.size + 1 + 1 + 1) (by omega) (ltC (k : Int) 0 true))
                go_wp2_with (first | ((with_reducible refine is_load 2 _ rfl ?_); refine wpList_load_cell rfl 2 _ rfl _ 1 rfl (plC (.slice (some ⟨G, 0, none⟩) xs.length cp) b o) _ P0 _ Try.underlying2 rfl (.int .i64 (b : Int)) (plC_1 _ _ _) ?_) | ((with_reducible refine is_load 2 _ rfl ?_); refine wpList_load_cell rfl 2 _ rfl _ 0 rfl (ltC k n false) _ L0 _ Try.underlying2 rfl (.int .i64 (k : Int)) (ltC_0 _ _ _) ?_) | ((with_reducible refine is_bld 33 _ rfl ?_); refine wpList_bld rfl 33 _ rfl #[(0, .int .i64 (k : Int)), (2, .bool true)] (by kernel_rfl) (ltC (k : Int) 0 true) (lt_bld2 _ _) ?_) | ((with_reducible refine is_store 33 _ _ rfl ?_); refine wpList_store_at rfl 33 _ _ rfl _ rfl (ltC (k : Int) 0 true) rfl (ltC 0 0 false) _ R0 3 (ltC_size _ _ _) (ltC_size _ _ _) (by kernel_rfl) (lt_one _ _ _) ?_))
                exact bodyPost_ret (v := .tuple #[.agg (ltC (k : Int) 0 true), .int .i64 0]) (results_at_tmp (p := 10) (ty := 33) rfl _ _ _ (ltC (k : Int) 0 true) _ (.int .i64 0) rfl rfl R9 _ Try.underlying33 rfl 3 (ltC_size _ _ _) (by kernel_rfl)) rfl ⟨by first | rfl | (rw [HQ.out]; rfl), B9.out⟩
            · by_cases h3 : b = 0
              · rw [if_pos h3] at hT
                rw [decide_eq_true h3] at e5 e6
                injection hT with t1 t2
                injection t2 with t2 t3
                subst t1 t2 t3
                have R9 := R0.setRow (ltC (((k : Int) + 1) % (xs.length : Int)) 0 false)
                have B9 := Lib.hid (bset BW.out (g := w.heap.size + 1 + 1 + 1) (by omega) (ltC (((k : Int) + 1) % (xs.length : Int)) 0 false))
                go_wp2_with (first | ((with_reducible refine is_load 2 _ rfl ?_); refine wpList_load_cell rfl 2 _ rfl _ 1 rfl (plC (.slice (some ⟨G, 0, none⟩) xs.length cp) b o) _ P0 _ Try.underlying2 rfl (.int .i64 (b : Int)) (plC_1 _ _ _) ?_) | ((with_reducible refine is_load 33 _ rfl ?_); refine wpList_load_at rfl 33 _ rfl _ rfl (ltC (((k : Int) + 1) % (xs.length : Int)) 0 false) _ Q0 3 (ltC_size _ _ _) _ Try.underlying33 rfl (by kernel_rfl) ?_) | ((with_reducible refine is_store 33 _ _ rfl ?_); refine wpList_store_at rfl 33 _ _ rfl _ rfl (ltC (((k : Int) + 1) % (xs.length : Int)) 0 false) rfl (ltC 0 0 false) _ R0 3 (ltC_size _ _ _) (ltC_size _ _ _) (by kernel_rfl) (lt_one _ _ _) ?_))
                exact bodyPost_ret (v := .tuple #[.agg (ltC (((k : Int) + 1) % (xs.length : Int)) 0 false), .int .i64 0]) (results_at_tmp (p := 10) (ty := 33) rfl _ _ _ (ltC (((k : Int) + 1) % (xs.length : Int)) 0 false) _ (.int .i64 0) rfl rfl R9 _ Try.underlying33 rfl 3 (ltC_size _ _ _) (by kernel_rfl)) rfl ⟨by first | rfl | (rw [HQ.out]; rfl), B9.out⟩
              · rw [if_neg h3] at hT
                rw [decide_eq_false h3] at e5 e6
                injection hT with t1 t2
                injection t2 with t2 t3
                subst t1 t2 t3
                have R9 := R0.setRow (ltC (k : Int) 0 true)
                have B9 := Lib.hid (bset BW.out (g := w.heap.size + 1 + 1 + 1) (by omega) (ltC (k : Int) 0 true))
                go_wp2_with (first | ((with_reducible refine is_load 2 _ rfl ?_); refine wpList_load_cell rfl 2 _ rfl _ 1 rfl (plC (.slice (some ⟨G, 0, none⟩) xs.length cp) b o) _ P0 _ Try.underlying2 rfl (.int .i64 (b : Int)) (plC_1 _ _ _) ?_) | ((with_reducible refine is_load 2 _ rfl ?_); refine wpList_load_cell rfl 2 _ rfl _ 0 rfl (ltC k n false) _ L0 _ Try.underlying2 rfl (.int .i64 (k : Int)) (ltC_0 _ _ _) ?_) | ((with_reducible refine is_bld 33 _ rfl ?_); refine wpList_bld rfl 33 _ rfl #[(0, .int .i64 (k : Int)), (2, .bool true)] (by kernel_rfl) (ltC (k : Int) 0 true) (lt_bld2 _ _) ?_) | ((with_reducible refine is_store 33 _ _ rfl ?_); refine wpList_store_at rfl 33 _ _ rfl _ rfl (ltC (k : Int) 0 true) rfl (ltC 0 0 false) _ R0 3 (ltC_size _ _ _) (ltC_size _ _ _) (by kernel_rfl) (lt_one _ _ _) ?_))
                exact bodyPost_ret (v := .tuple #[.agg (ltC (k : Int) 0 true), .int .i64 0]) (results_at_tmp (p := 10) (ty := 33) rfl _ _ _ (ltC (k : Int) 0 true) _ (.int .i64 0) rfl rfl R9 _ Try.underlying33 rfl 3 (ltC_size _ _ _) (by kernel_rfl)) rfl ⟨by first | rfl | (rw [HQ.out]; rfl), B9.out⟩
          · have g2 : decide ((mo : Int) ≤ ((n : Int) + 1)) = false := decide_eq_false (by omega)
            cases c
            · rw [if_pos (.inl ⟨h1, rfl⟩)] at hT
              by_cases h3 : b = 0
              · rw [if_pos h3] at hT
                rw [decide_eq_true h3] at e5 e6
                injection hT with t1 t2
                injection t2 with t2 t3
                subst t1 t2 t3
                have R9 := R0.setRow (ltC (((k : Int) + 1) % (xs.length : Int)) 0 false)
                have B9 := Lib.hid (bset BW.out (g := w.heap.size + 1 + 1 + 1) (by omega) (ltC (((k : Int) + 1) % (xs.length : Int)) 0 false))
                go_wp2_with (first | ((with_reducible refine is_load 2 _ rfl ?_); refine wpList_load_cell rfl 2 _ rfl _ 1 rfl (plC (.slice (some ⟨G, 0, none⟩) xs.length cp) b o) _ P0 _ Try.underlying2 rfl (.int .i64 (b : Int)) (plC_1 _ _ _) ?_) | ((with_reducible refine is_load 33 _ rfl ?_); refine wpList_load_at rfl 33 _ rfl _ rfl (ltC (((k : Int) + 1) % (xs.length : Int)) 0 false) _ Q0 3 (ltC_size _ _ _) _ Try.underlying33 rfl (by kernel_rfl) ?_) | ((with_reducible refine is_store 33 _ _ rfl ?_); refine wpList_store_at rfl 33 _ _ rfl _ rfl (ltC (((k : Int) + 1) % (xs.length : Int)) 0 false) rfl (ltC 0 0 false) _ R0 3 (ltC_size _ _ _) (ltC_size _ _ _) (by kernel_rfl) (lt_one _ _ _) ?_))
                exact bodyPost_ret (v := .tuple #[.agg (ltC (((k : Int) + 1) % (xs.length : Int)) 0 false), .int .i64 0]) (results_at_tmp (p := 10) (ty := 33) rfl _ _ _ (ltC (((k : Int) + 1) % (xs.length : Int)) 0 false) _ (.int .i64 0) rfl rfl R9 _ Try.underlying33 rfl 3 (ltC_size _ _ _) (by kernel_rfl)) rfl ⟨by first | rfl | (rw [HQ.out]; rfl), B9.out⟩
              · rw [if_neg h3] at hT
                rw [decide_eq_false h3] at e5 e6
                injection hT with t1 t2
                injection t2 with t2 t3
                subst t1 t2 t3
                have R9 := R0.setRow (ltC (k : Int) 0 true)
                have B9 := Lib.hid (bset BW.out (g := w.heap.size + 1 + 1 + 1) (by omega) (ltC (k : Int) 0 true))
                go_wp2_with (first | ((with_reducible refine is_load 2 _ rfl ?_); refine wpList_load_cell rfl 2 _ rfl _ 1 rfl (plC (.slice (some ⟨G, 0, none⟩) xs.length cp) b o) _ P0 _ Try.underlying2 rfl (.int .i64 (b : Int)) (plC_1 _ _ _) ?_) | ((with_reducible refine is_load 2 _ rfl ?_); refine wpList_load_cell rfl 2 _ rfl _ 0 rfl (ltC k n false) _ L0 _ Try.underlying2 rfl (.int .i64 (k : Int)) (ltC_0 _ _ _) ?_) | ((with_reducible refine is_bld 33 _ rfl ?_); refine wpList_bld rfl 33 _ rfl #[(0, .int .i64 (k : Int)), (2, .bool true)] (by kernel_rfl) (ltC (k : Int) 0 true) (lt_bld2 _ _) ?_) | ((with_reducible refine is_store 33 _ _ rfl ?_); refine wpList_store_at rfl 33 _ _ rfl _ rfl (ltC (k : Int) 0 true) rfl (ltC 0 0 false) _ R0 3 (ltC_size _ _ _) (ltC_size _ _ _) (by kernel_rfl) (lt_one _ _ _) ?_))
                exact bodyPost_ret (v := .tuple #[.agg (ltC (k : Int) 0 true), .int .i64 0]) (results_at_tmp (p := 10) (ty := 33) rfl _ _ _ (ltC (k : Int) 0 true) _ (.int .i64 0) rfl rfl R9 _ Try.underlying33 rfl 3 (ltC_size _ _ _) (by kernel_rfl)) rfl ⟨by first | rfl | (rw [HQ.out]; rfl), B9.out⟩
            · rw [if_neg (by simp; omega)] at hT
              have e3 : decide ((1000000 : Int) < ((n : Int) + 1)) = false := decide_eq_false (by omega)
              injection hT with t1 t2
              injection t2 with t2 t3
              subst t1 t2 t3
              have R9 := R0.setRow (ltC (k : Int) ((n : Int) + 1) false)
              have B9 := Lib.hid (bset BW.out (g := w.heap.size + 1 + 1 + 1) (by omega) (ltC (k : Int) ((n : Int) + 1) false))
              go_wp2_with (first | ((with_reducible refine is_load 4 _ rfl ?_); refine wpList_load_cell rfl 4 _ rfl _ 2 rfl (ltC k n false) _ L0 _ Try.underlying4 rfl (.bool false) (ltC_2 _ _ _) ?_) | ((with_reducible refine is_load 2 _ rfl ?_); refine wpList_load_cell rfl 2 _ rfl _ 0 rfl (ltC k n false) _ L0 _ Try.underlying2 rfl (.int .i64 (k : Int)) (ltC_0 _ _ _) ?_) | ((with_reducible refine is_bld 33 _ rfl ?_); refine wpList_bld rfl 33 _ rfl #[(0, .int .i64 (k : Int)), (1, .int .i64 ((n : Int) + 1)), (2, .bool false)] (by kernel_rfl) (ltC (k : Int) ((n : Int) + 1) false) (lt_bld _ _ _) ?_) | ((with_reducible refine is_store 33 _ _ rfl ?_); refine wpList_store_at rfl 33 _ _ rfl _ rfl (ltC (k : Int) ((n : Int) + 1) false) rfl (ltC 0 0 false) _ R0 3 (ltC_size _ _ _) (ltC_size _ _ _) (by kernel_rfl) (lt_one _ _ _) ?_))
              exact bodyPost_ret (v := .tuple #[.agg (ltC (k : Int) ((n : Int) + 1) false), .int .i64 0]) (results_at_tmp (p := 10) (ty := 33) rfl _ _ _ (ltC (k : Int) ((n : Int) + 1) false) _ (.int .i64 0) rfl rfl R9 _ Try.underlying33 rfl 3 (ltC_size _ _ _) (by kernel_rfl)) rfl ⟨by first | rfl | (rw [HQ.out]; rfl), B9.out⟩
        · have g1 : decide ((le : Int) ≤ ((n : Int) + 1)) = false := decide_eq_false (by omega)
          have g2 : decide ((mo : Int) ≤ ((n : Int) + 1)) = false := decide_eq_false (by omega)
          rw [if_neg (by omega)] at hT
          have e3 : decide ((1000000 : Int) < ((n : Int) + 1)) = false := decide_eq_false (by omega)
          injection hT with t1 t2
          injection t2 with t2 t3
          subst t1 t2 t3
          have R9 := R0.setRow (ltC (k : Int) ((n : Int) + 1) false)
          have B9 := Lib.hid (bset BW.out (g := w.heap.size + 1 + 1 + 1) (by omega) (ltC (k : Int) ((n : Int) + 1) false))
          go_wp2_with (first | ((with_reducible refine is_load 4 _ rfl ?_); refine wpList_load_cell rfl 4 _ rfl _ 2 rfl (ltC k n false) _ L0 _ Try.underlying4 rfl (.bool false) (ltC_2 _ _ _) ?_) | ((with_reducible refine is_load 2 _ rfl ?_); refine wpList_load_cell rfl 2 _ rfl _ 0 rfl (ltC k n false) _ L0 _ Try.underlying2 rfl (.int .i64 (k : Int)) (ltC_0 _ _ _) ?_) | ((with_reducible refine is_bld 33 _ rfl ?_); refine wpList_bld rfl 33 _ rfl #[(0, .int .i64 (k : Int)), (1, .int .i64 ((n : Int) + 1)), (2, .bool false)] (by kernel_rfl) (ltC (k : Int) ((n : Int) + 1) false) (lt_bld _ _ _) ?_) | ((with_reducible refine is_store 33 _ _ rfl ?_); refine wpList_store_at rfl 33 _ _ rfl _ rfl (ltC (k : Int) ((n : Int) + 1) false) rfl (ltC 0 0 false) _ R0 3 (ltC_size _ _ _) (ltC_size _ _ _) (by kernel_rfl) (lt_one _ _ _) ?_))
          exact bodyPost_ret (v := .tuple #[.agg (ltC (k : Int) ((n : Int) + 1) false), .int .i64 0]) (results_at_tmp (p := 10) (ty := 33) rfl _ _ _ (ltC (k : Int) ((n : Int) + 1) false) _ (.int .i64 0) rfl rfl R9 _ Try.underlying33 rfl 3 (ltC_size _ _ _) (by kernel_rfl)) rfl ⟨by first | rfl | (rw [HQ.out]; rfl), B9.out⟩
  · have P0 : At ((((w.alloc (.cells (plC (.slice (some ⟨G, 0, none⟩) xs.length cp) b o) 26)).alloc (.cells (ltC k n true) 33)).alloc (.cells (bl cs) 29)).alloc (.cells (ltC 0 0 false) 33)) w.heap.size (plC (.slice (some ⟨G, 0, none⟩) xs.length cp) b o) 26 := (((At.new w _ _).alloc _).alloc _).alloc _
    have L0 : At ((((w.alloc (.cells (plC (.slice (some ⟨G, 0, none⟩) xs.length cp) b o) 26)).alloc (.cells (ltC k n true) 33)).alloc (.cells (bl cs) 29)).alloc (.cells (ltC 0 0 false) 33)) (w.heap.size + 1) (ltC k n true) 33 := ((At.last1 w _ _ _).alloc _).alloc _
    have C0 : At ((((w.alloc (.cells (plC (.slice (some ⟨G, 0, none⟩) xs.length cp) b o) 26)).alloc (.cells (ltC k n true) 33)).alloc (.cells (bl cs) 29)).alloc (.cells (ltC 0 0 false) 33)) (w.heap.size + 1 + 1) (bl cs) 29 := (At.last2 w _ _ _ _).alloc _
    have R0 : At ((((w.alloc (.cells (plC (.slice (some ⟨G, 0, none⟩) xs.length cp) b o) 26)).alloc (.cells (ltC k n true) 33)).alloc (.cells (bl cs) 29)).alloc (.cells (ltC 0 0 false) 33)) (w.heap.size + 1 + 1 + 1) (ltC 0 0 false) 33 := At.last3 w _ _ _ _ _
    replace A0 := (((A0.alloc (.cells (plC (.slice (some ⟨G, 0, none⟩) xs.length cp) b o) 26)).alloc (.cells (ltC k n true) 33)).alloc (.cells (bl cs) 29)).alloc (.cells (ltC 0 0 false) 33)
    have BW := Lib.hid (bnew (bnew (bnew (b0 w (.cells (plC (.slice (some ⟨G, 0, none⟩) xs.length cp) b o) 26)) (.cells (ltC k n true) 33)) (.cells (bl cs) 29)) (.cells (ltC 0 0 false) 33))
    have KL := l04LightZ_any cp zs w.heap.size (w.heap.size + 1) 26 33 G xs b o hW T k n true (by omega) _ P0 L0 A0
    rw [hlp] at KL
    have K1 := fun w => l00In_c (le : Int) 1 240 w
    rw [inB_yes (by omega)] at K1
    have K2 := fun w => l00In_c (mo : Int) (le : Int) 240 w
    rw [inB_yes (by omega)] at K2
    have hm0 : ¬ (xs.length : Int) = 0 := by omega
    have s1 : IntKind.i64.wrap ((k : Int) + 1) = (k : Int) + 1 := IntWalk.i64_in _ (by omega)
    have hq : (((k + 1) % xs.length : Nat) : Int) = ((k : Int) + 1) % (xs.length : Int) := by simp
    have s2 : IntKind.i64.wrap (((k : Int) + 1).tmod (xs.length : Int)) = ((k : Int) + 1) % (xs.length : Int) := by
      rw [Int.tmod_eq_emod_of_nonneg (by omega)]
      have := Nat.mod_lt (k + 1) (show 0 < xs.length by omega)
      rw [← hq]
      exact IntWalk.i64_in _ (by omega)
    have HQ := Lib.hid hq
    clear hq
    have s3 : IntKind.i64.wrap ((n : Int) + 1) = (n : Int) + 1 := IntWalk.i64_in _ (by omega)
    rw [ltC_z.symm] at P0 L0 C0 R0 A0 BW KL
    go_enter Try.func10, Try.ntmps10
    go_wp2_with fail
    refine KL.mono ?_
    rintro e w1 ⟨rfl, hb⟩
    rw [ltC_z] at R0
    replace P0 := P0.step hb
    replace L0 := L0.step hb
    replace C0 := C0.step hb
    replace R0 := R0.step hb
    replace A0 := A0.step hb
    replace BW := Lib.hid (BW.out.trans (hb.mono BW.out.size))
    clear hb
    clear KL
    go_wp2_with fail
    refine (K1 _).mono ?_
    rintro e w2 ⟨rfl, hb⟩
    replace P0 := P0.step hb
    replace L0 := L0.step hb
    replace C0 := C0.step hb
    replace R0 := R0.step hb
    replace A0 := A0.step hb
    replace BW := Lib.hid (BW.out.trans (hb.mono BW.out.size))
    clear hb
    go_wp2_with fail
    refine (K2 _).mono ?_
    rintro e w3 ⟨rfl, hb⟩
    replace P0 := P0.step hb
    replace L0 := L0.step hb
    replace C0 := C0.step hb
    replace R0 := R0.step hb
    replace A0 := A0.step hb
    replace BW := Lib.hid (BW.out.trans (hb.mono BW.out.size))
    clear hb
    clear K1 K2
    have c1 := L0.cell (ltC_0 _ _ _)
    have c2 := P0.cell (plC_0 _ _ _)
    have L := At.new w3 (ltC 0 0 false) 33
    have Q0 := L.setRow (ltC (((k : Int) + 1) % (xs.length : Int)) 0 false)
    replace P0 := (P0.alloc (.cells (ltC 0 0 false) 33)).setRow_other (k := w3.heap.size) (Nat.ne_of_lt P0.lt) (ltC (((k : Int) + 1) % (xs.length : Int)) 0 false)
    replace L0 := (L0.alloc (.cells (ltC 0 0 false) 33)).setRow_other (k := w3.heap.size) (Nat.ne_of_lt L0.lt) (ltC (((k : Int) + 1) % (xs.length : Int)) 0 false)
    replace C0 := (C0.alloc (.cells (ltC 0 0 false) 33)).setRow_other (k := w3.heap.size) (Nat.ne_of_lt C0.lt) (ltC (((k : Int) + 1) % (xs.length : Int)) 0 false)
    replace R0 := (R0.alloc (.cells (ltC 0 0 false) 33)).setRow_other (k := w3.heap.size) (Nat.ne_of_lt R0.lt) (ltC (((k : Int) + 1) % (xs.length : Int)) 0 false)
    replace A0 := (A0.alloc (.cells (ltC 0 0 false) 33)).setRow_other (k := w3.heap.size) (Nat.ne_of_lt A0.lt) (ltC (((k : Int) + 1) % (xs.length : Int)) 0 false)
    replace BW := Lib.hid (bset (BW.out.alloc BW.out.size (.cells (ltC 0 0 false) 33)) (g := w3.heap.size) BW.out.size (ltC (((k : Int) + 1) % (xs.length : Int)) 0 false))
    go_wp2_with (first | ((with_reducible refine is_store 33 _ _ rfl ?_); refine wpList_store_at rfl 33 _ _ rfl _ rfl (ltC (((k : Int) + 1) % (xs.length : Int)) 0 false) rfl (ltC 0 0 false) _ L 3 (ltC_size _ _ _) (ltC_size _ _ _) (by kernel_rfl) (lt_one _ _ _) ?_) | ((with_reducible refine is_load 2 _ rfl ?_); refine wpList_load_cell rfl 2 _ rfl _ 0 rfl (ltC k n true) _ L0 _ Try.underlying2 rfl (.int .i64 (k : Int)) (ltC_0 _ _ _) ?_) | ((with_reducible refine is_load 2 _ rfl ?_); refine wpList_load_cell rfl 2 _ rfl _ 1 rfl (ltC k n true) _ L0 _ Try.underlying2 rfl (.int .i64 (n : Int)) (ltC_1 _ _ _) ?_) | ((with_reducible refine is_load 24 _ rfl ?_); refine wpList_load_cell rfl 24 _ rfl _ 0 rfl (plC (.slice (some ⟨G, 0, none⟩) xs.length cp) b o) _ P0 _ Try.underlying24 rfl (.slice (some ⟨G, 0, none⟩) xs.length cp) (plC_0 _ _ _) ?_) | ((with_reducible refine is_bld 33 _ rfl ?_); refine wpList_bld rfl 33 _ rfl #[(0, .int .i64 (((k : Int) + 1) % (xs.length : Int)))] (by kernel_rfl) (ltC (((k : Int) + 1) % (xs.length : Int)) 0 false) (lt_bld0 _) ?_) | ((with_reducible refine is_load 4 _ rfl ?_); refine hold ?_))
    rw [show (#[.int .i64 0, .int .i64 0, .bool false] : Array Value) = ltC 0 0 false from by kernel_rfl]
    clear L
    generalize World.setRow _ _ _ = w4 at P0 L0 C0 R0 A0 Q0 BW ⊢
    clear c1 c2
    refine Lib.hid ?_
    by_cases h1 : n + 1 = b
    · first | rw [if_pos rfl, if_pos h1] at hT | rw [if_pos trivial, if_pos h1] at hT
      injection hT with t1 t2
      injection t2 with t2 t3
      subst t1 t2 t3
      have e1 : (((n : Int) + 1) == (b : Int)) = true := by simp; omega
      have e2 : decide (((n : Int) + 1) = (b : Int)) = true := decide_eq_true (by omega)
      have R9 := R0.setRow (ltC (((k : Int) + 1) % (xs.length : Int)) 0 false)
      have B9 := Lib.hid (bset BW.out (g := w.heap.size + 1 + 1 + 1) (by omega) (ltC (((k : Int) + 1) % (xs.length : Int)) 0 false))
      go_wp2_with (first | ((with_reducible refine is_load 4 _ rfl ?_); refine wpList_load_cell rfl 4 _ rfl _ 2 rfl (ltC k n true) _ L0 _ Try.underlying4 rfl (.bool true) (ltC_2 _ _ _) ?_) | ((with_reducible refine is_load 2 _ rfl ?_); refine wpList_load_cell rfl 2 _ rfl _ 1 rfl (plC (.slice (some ⟨G, 0, none⟩) xs.length cp) b o) _ P0 _ Try.underlying2 rfl (.int .i64 (b : Int)) (plC_1 _ _ _) ?_) | ((with_reducible refine is_load 33 _ rfl ?_); refine wpList_load_at rfl 33 _ rfl _ rfl (ltC (((k : Int) + 1) % (xs.length : Int)) 0 false) _ Q0 3 (ltC_size _ _ _) _ Try.underlying33 rfl (by kernel_rfl) ?_) | ((with_reducible refine is_store 33 _ _ rfl ?_); refine wpList_store_at rfl 33 _ _ rfl _ rfl (ltC (((k : Int) + 1) % (xs.length : Int)) 0 false) rfl (ltC 0 0 false) _ R0 3 (ltC_size _ _ _) (ltC_size _ _ _) (by kernel_rfl) (lt_one _ _ _) ?_))
      exact bodyPost_ret (v := .tuple #[.agg (ltC (((k : Int) + 1) % (xs.length : Int)) 0 false), .int .i64 0]) (results_at_tmp (p := 10) (ty := 33) rfl _ _ _ (ltC (((k : Int) + 1) % (xs.length : Int)) 0 false) _ (.int .i64 0) rfl rfl R9 _ Try.underlying33 rfl 3 (ltC_size _ _ _) (by kernel_rfl)) rfl ⟨by first | rfl | (rw [HQ.out]; rfl), B9.out⟩
    · first | rw [if_pos rfl, if_neg h1] at hT | rw [if_pos trivial, if_neg h1] at hT
      injection hT with t1 t2
      injection t2 with t2 t3
      subst t1 t2 t3
      have e1 : (((n : Int) + 1) == (b : Int)) = false := by simp; omega
      have e2 : decide (((n : Int) + 1) = (b : Int)) = false := decide_eq_false (by omega)
      have e3 : decide ((1000000 : Int) < ((n : Int) + 1)) = false := decide_eq_false (by omega)
      have R9 := R0.setRow (ltC (k : Int) ((n : Int) + 1) true)
      have B9 := Lib.hid (bset BW.out (g := w.heap.size + 1 + 1 + 1) (by omega) (ltC (k : Int) ((n : Int) + 1) true))
      go_wp2_with (first | ((with_reducible refine is_load 4 _ rfl ?_); refine wpList_load_cell rfl 4 _ rfl _ 2 rfl (ltC k n true) _ L0 _ Try.underlying4 rfl (.bool true) (ltC_2 _ _ _) ?_) | ((with_reducible refine is_load 2 _ rfl ?_); refine wpList_load_cell rfl 2 _ rfl _ 1 rfl (plC (.slice (some ⟨G, 0, none⟩) xs.length cp) b o) _ P0 _ Try.underlying2 rfl (.int .i64 (b : Int)) (plC_1 _ _ _) ?_) | ((with_reducible refine is_load 2 _ rfl ?_); refine wpList_load_cell rfl 2 _ rfl _ 0 rfl (ltC k n true) _ L0 _ Try.underlying2 rfl (.int .i64 (k : Int)) (ltC_0 _ _ _) ?_) | ((with_reducible refine is_bld 33 _ rfl ?_); refine wpList_bld rfl 33 _ rfl #[(0, .int .i64 (k : Int)), (1, .int .i64 ((n : Int) + 1)), (2, .bool true)] (by kernel_rfl) (ltC (k : Int) ((n : Int) + 1) true) (lt_bld _ _ _) ?_) | ((with_reducible refine is_store 33 _ _ rfl ?_); refine wpList_store_at rfl 33 _ _ rfl _ rfl (ltC (k : Int) ((n : Int) + 1) true) rfl (ltC 0 0 false) _ R0 3 (ltC_size _ _ _) (ltC_size _ _ _) (by kernel_rfl) (lt_one _ _ _) ?_))
      exact bodyPost_ret (v := .tuple #[.agg (ltC (k : Int) ((n : Int) + 1) true), .int .i64 0]) (results_at_tmp (p := 10) (ty := 33) rfl _ _ _ (ltC (k : Int) ((n : Int) + 1) true) _ (.int .i64 0) rfl rfl R9 _ Try.underlying33 rfl 3 (ltC_size _ _ _) (by kernel_rfl)) rfl ⟨by first | rfl | (rw [HQ.out]; rfl), B9.out⟩

end Go.Proofs.Ytldchcjnepnjnaa
