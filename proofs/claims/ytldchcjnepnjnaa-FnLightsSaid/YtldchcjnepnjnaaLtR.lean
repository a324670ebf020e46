/-
  CONTRACTS: a light one tick later, from green.
-/
import Derived.Test.YtldchcjnepnjnaaLtP
namespace Go.Proofs.Ytldchcjnepnjnaa
open Go Go.ChangeShapes Go.WideShapes Go.ChangeAt Go.RowKit
set_option maxRecDepth 100000

set_option maxHeartbeats 2000000 in
theorem fromGreen_any (cp : Nat) (zs : Array Value) (G : Nat) (xs : Slots) (b o : Nat) (cs : List Bool) (hcs : cs.length = 8) (le mo k n : Nat) (hk : k < xs.length) (hx : xs.length ≤ 8) (hW : SlW xs) (T : TypeId) (w : World) (A0 : At w G (slY xs zs) T) :
    Calls Try.prog 20 #[.agg (stC (.slice (some ⟨G, 0, none⟩) xs.length cp) b o k n false cs le mo)] w fun e w' => e = .returned (.agg (if n < mo ∧ (n < le ∨ cal (sb xs k) cs 8 = true) then ltC k n false else if b = 0 then ltC (((k : Int) + 1) % (xs.length : Int)) 0 false else ltC k 0 true)) ∧ Below w.heap.size w w' := by
  have S0 : At ((w.alloc (.cells (stC (.slice (some ⟨G, 0, none⟩) xs.length cp) b o k n false cs le mo) 51)).alloc (.cells (#[.int .i64 0, .int .i64 0, .bool false]) 33)) w.heap.size (stC (.slice (some ⟨G, 0, none⟩) xs.length cp) b o k n false cs le mo) 51 := (At.new w _ _).alloc _
  have R0 : At ((w.alloc (.cells (stC (.slice (some ⟨G, 0, none⟩) xs.length cp) b o k n false cs le mo) 51)).alloc (.cells (#[.int .i64 0, .int .i64 0, .bool false]) 33)) (w.heap.size + 1) (#[.int .i64 0, .int .i64 0, .bool false]) 33 := At.last1 w _ _ _
  have BW := Lib.hid (bnew (b0 w (.cells (stC (.slice (some ⟨G, 0, none⟩) xs.length cp) b o k n false cs le mo) 51)) (.cells (#[.int .i64 0, .int .i64 0, .bool false]) 33))
  have hsz := stC_size (aa := some ⟨G, 0, none⟩) (am := xs.length) (ac := cp) (b := b) (o := o) (k := k) (n := n) (r := false) (le := le) (mo := mo) hcs
  have KA := fun w => atNextSlot_any cp zs G xs b o cs hcs le mo k n hk hx false w
  replace A0 := (A0.alloc (.cells (stC (.slice (some ⟨G, 0, none⟩) xs.length cp) b o k n false cs le mo) 51)).alloc (.cells (#[.int .i64 0, .int .i64 0, .bool false]) 33)
  have c1 := S0.cell (stC_1 hcs)
  have c3 := S0.cell (stC_3 hcs)
  have c4 := S0.cell (stC_4 hcs)
  have c14 := S0.cell (stC_14 hcs)
  have c15 := S0.cell (stC_15 hcs)
  have e5 : decide ((b : Int) = 0) = decide (b = 0) := by by_cases q : b = 0 <;> simp [q]
  have e6 : ((b : Int) == 0) = decide (b = 0) := by by_cases q : b = 0 <;> simp [q]
  obtain ⟨VV, hv⟩ : ∃ VV, VV = (if n < mo ∧ (n < le ∨ cal (sb xs k) cs 8 = true) then ltC k n false else if b = 0 then ltC (((k : Int) + 1) % (xs.length : Int)) 0 false else ltC k 0 true) := ⟨_, rfl⟩
  rw [← hv]
  by_cases h1 : n < mo
  · have g1 : decide ((n : Int) < (mo : Int)) = true := decide_eq_true (by omega)
    by_cases h2 : n < le
    · have g2 : decide ((n : Int) < (le : Int)) = true := decide_eq_true (by omega)
      rw [if_pos ⟨h1, .inl h2⟩] at hv
      clear KA A0
      go_enter Try.func20, Try.ntmps20
      have R9 := R0.setRow (ltC k n false)
      have B9 := Lib.hid (bset BW.out (g := w.heap.size + 1) (by omega) (ltC k n false))
      go_wp2_with (first | ((with_reducible refine is_load 33 _ rfl ?_); refine wpList_load_part rfl 33 _ rfl _ 3 rfl (stC (.slice (some ⟨G, 0, none⟩) xs.length cp) b o k n false cs le mo) _ S0 3 (by rw [hsz]; omega) _ Try.underlying33 rfl (by kernel_rfl) (ltC k n false) (stC_light hcs) ?_) | ((with_reducible refine is_store 33 _ _ rfl ?_); refine wpList_store_at rfl 33 _ _ rfl _ rfl (ltC k n false) rfl (ltC 0 0 false) _ R0 3 (ltC_size _ _ _) (ltC_size _ _ _) (by kernel_rfl) (lt_one _ _ _) ?_))
      exact bodyPost_ret (v := .agg (ltC k n false)) (results_at (p := 2) (ty := 33) rfl _ _ _ (ltC k n false) _ rfl R9 _ Try.underlying33 rfl 3 (ltC_size _ _ _) (by kernel_rfl)) rfl ⟨by first | rfl | rw [hv], B9.out⟩
    · have g2 : decide ((n : Int) < (le : Int)) = false := decide_eq_false (by omega)
      have KC := isCalled_any cp zs G xs b o cs hcs le mo k n hk hx false hW T ((w.alloc (.cells (stC (.slice (some ⟨G, 0, none⟩) xs.length cp) b o k n false cs le mo) 51)).alloc (.cells (#[.int .i64 0, .int .i64 0, .bool false]) 33)) A0
      cases hc : cal (sb xs k) cs 8
      · rw [hc] at KC hv
        rw [if_neg (by simp; omega)] at hv
        clear A0 hc
        go_enter Try.func20, Try.ntmps20
        go_wp2_with ((with_reducible refine is_load 51 _ rfl ?_); refine wpList_load_part_g rfl 51 _ rfl _ 0 rfl (stC (.slice (some ⟨G, 0, none⟩) xs.length cp) b o k n false cs le mo) _ S0 16 (by rw [hsz]; omega) _ Try.underlying51 rfl (by kernel_rfl) (stC (.slice (some ⟨G, 0, none⟩) xs.length cp) b o k n false cs le mo) (by rw [Nat.zero_add, Array.extract_eq_self_of_le (by rw [hsz]; exact Nat.le_refl _)]) ?_)
        refine KC.mono ?_
        rintro e w1 ⟨rfl, hb⟩
        replace R0 := R0.step hb
        replace S0 := S0.step hb
        replace BW := Lib.hid (BW.out.trans (hb.mono BW.out.size))
        replace c1 := S0.cell (stC_1 hcs)
        replace c3 := S0.cell (stC_3 hcs)
        clear KC hb
        by_cases h3 : b = 0
        · rw [if_pos h3] at hv
          rw [decide_eq_true h3] at e5 e6
          have h4 : (b = 0) = True := eq_true h3
          clear h3
          go_wp2_with ((with_reducible refine is_load 51 _ rfl ?_); refine wpList_load_at rfl 51 _ rfl _ rfl (stC (.slice (some ⟨G, 0, none⟩) xs.length cp) b o k n false cs le mo) _ S0 16 (hsz) _ Try.underlying51 rfl (by kernel_rfl) ?_)
          refine (KA _).mono ?_
          rintro e w2 ⟨rfl, hb⟩
          replace R0 := R0.step hb
          replace BW := Lib.hid (BW.out.trans (hb.mono BW.out.size))
          have R9 := R0.setRow (ltC (((k : Int) + 1) % (xs.length : Int)) 0 false)
          have B9 := Lib.hid (bset BW.out (g := w.heap.size + 1) (by omega) (ltC (((k : Int) + 1) % (xs.length : Int)) 0 false))
          go_wp2_with (first | ((with_reducible refine is_store 33 _ _ rfl ?_); refine wpList_store_at rfl 33 _ _ rfl _ rfl (ltC (((k : Int) + 1) % (xs.length : Int)) 0 false) rfl (ltC 0 0 false) _ R0 3 (ltC_size _ _ _) (ltC_size _ _ _) (by kernel_rfl) (lt_one _ _ _) ?_))
          exact bodyPost_ret (v := .agg (ltC (((k : Int) + 1) % (xs.length : Int)) 0 false)) (results_at (p := 2) (ty := 33) rfl _ _ _ (ltC (((k : Int) + 1) % (xs.length : Int)) 0 false) _ rfl R9 _ Try.underlying33 rfl 3 (ltC_size _ _ _) (by kernel_rfl)) rfl ⟨by first | rfl | rw [hv], B9.out⟩
        · rw [if_neg h3] at hv
          rw [decide_eq_false h3] at e5 e6
          have R9 := R0.setRow (ltC (k : Int) 0 true)
          have B9 := Lib.hid (bset BW.out (g := w.heap.size + 1) (by omega) (ltC (k : Int) 0 true))
          go_wp2_with (first | ((with_reducible refine is_bld 33 _ rfl ?_); refine wpList_bld rfl 33 _ rfl #[(0, .int .i64 (k : Int)), (2, .bool true)] (by kernel_rfl) (ltC (k : Int) 0 true) (lt_bld2 _ _) ?_) | ((with_reducible refine is_store 33 _ _ rfl ?_); refine wpList_store_at rfl 33 _ _ rfl _ rfl (ltC (k : Int) 0 true) rfl (ltC 0 0 false) _ R0 3 (ltC_size _ _ _) (ltC_size _ _ _) (by kernel_rfl) (lt_one _ _ _) ?_))
          exact bodyPost_ret (v := .agg (ltC (k : Int) 0 true)) (results_at (p := 2) (ty := 33) rfl _ _ _ (ltC (k : Int) 0 true) _ rfl R9 _ Try.underlying33 rfl 3 (ltC_size _ _ _) (by kernel_rfl)) rfl ⟨by first | rfl | rw [hv], B9.out⟩
      · rw [hc] at KC hv
        rw [if_pos ⟨h1, .inr rfl⟩] at hv
        clear A0 hc KA
        go_enter Try.func20, Try.ntmps20
        go_wp2_with ((with_reducible refine is_load 51 _ rfl ?_); refine wpList_load_part_g rfl 51 _ rfl _ 0 rfl (stC (.slice (some ⟨G, 0, none⟩) xs.length cp) b o k n false cs le mo) _ S0 16 (by rw [hsz]; omega) _ Try.underlying51 rfl (by kernel_rfl) (stC (.slice (some ⟨G, 0, none⟩) xs.length cp) b o k n false cs le mo) (by rw [Nat.zero_add, Array.extract_eq_self_of_le (by rw [hsz]; exact Nat.le_refl _)]) ?_)
        refine KC.mono ?_
        rintro e w1 ⟨rfl, hb⟩
        replace R0 := R0.step hb
        replace S0 := S0.step hb
        replace BW := Lib.hid (BW.out.trans (hb.mono BW.out.size))
        clear KC hb
        have R9 := R0.setRow (ltC k n false)
        have B9 := Lib.hid (bset BW.out (g := w.heap.size + 1) (by omega) (ltC k n false))
        go_wp2_with (first | ((with_reducible refine is_load 33 _ rfl ?_); refine wpList_load_part rfl 33 _ rfl _ 3 rfl (stC (.slice (some ⟨G, 0, none⟩) xs.length cp) b o k n false cs le mo) _ S0 3 (by rw [hsz]; omega) _ Try.underlying33 rfl (by kernel_rfl) (ltC k n false) (stC_light hcs) ?_) | ((with_reducible refine is_store 33 _ _ rfl ?_); refine wpList_store_at rfl 33 _ _ rfl _ rfl (ltC k n false) rfl (ltC 0 0 false) _ R0 3 (ltC_size _ _ _) (ltC_size _ _ _) (by kernel_rfl) (lt_one _ _ _) ?_))
        exact bodyPost_ret (v := .agg (ltC k n false)) (results_at (p := 2) (ty := 33) rfl _ _ _ (ltC k n false) _ rfl R9 _ Try.underlying33 rfl 3 (ltC_size _ _ _) (by kernel_rfl)) rfl ⟨by first | rfl | rw [hv], B9.out⟩
  · have g1 : decide ((n : Int) < (mo : Int)) = false := decide_eq_false (by omega)
    rw [if_neg (fun h => h1 h.1)] at hv
    clear A0
    go_enter Try.func20, Try.ntmps20
    by_cases h3 : b = 0
    · rw [if_pos h3] at hv
      rw [decide_eq_true h3] at e5 e6
      have h4 : (b = 0) = True := eq_true h3
      clear h3
      go_wp2_with ((with_reducible refine is_load 51 _ rfl ?_); refine wpList_load_at rfl 51 _ rfl _ rfl (stC (.slice (some ⟨G, 0, none⟩) xs.length cp) b o k n false cs le mo) _ S0 16 (hsz) _ Try.underlying51 rfl (by kernel_rfl) ?_)
      refine (KA _).mono ?_
      rintro e w2 ⟨rfl, hb⟩
      replace R0 := R0.step hb
      replace BW := Lib.hid (BW.out.trans (hb.mono BW.out.size))
      have R9 := R0.setRow (ltC (((k : Int) + 1) % (xs.length : Int)) 0 false)
      have B9 := Lib.hid (bset BW.out (g := w.heap.size + 1) (by omega) (ltC (((k : Int) + 1) % (xs.length : Int)) 0 false))
      go_wp2_with (first | ((with_reducible refine is_store 33 _ _ rfl ?_); refine wpList_store_at rfl 33 _ _ rfl _ rfl (ltC (((k : Int) + 1) % (xs.length : Int)) 0 false) rfl (ltC 0 0 false) _ R0 3 (ltC_size _ _ _) (ltC_size _ _ _) (by kernel_rfl) (lt_one _ _ _) ?_))
      exact bodyPost_ret (v := .agg (ltC (((k : Int) + 1) % (xs.length : Int)) 0 false)) (results_at (p := 2) (ty := 33) rfl _ _ _ (ltC (((k : Int) + 1) % (xs.length : Int)) 0 false) _ rfl R9 _ Try.underlying33 rfl 3 (ltC_size _ _ _) (by kernel_rfl)) rfl ⟨by first | rfl | rw [hv], B9.out⟩
    · rw [if_neg h3] at hv
      rw [decide_eq_false h3] at e5 e6
      have R9 := R0.setRow (ltC (k : Int) 0 true)
      have B9 := Lib.hid (bset BW.out (g := w.heap.size + 1) (by omega) (ltC (k : Int) 0 true))
      go_wp2_with (first | ((with_reducible refine is_bld 33 _ rfl ?_); refine wpList_bld rfl 33 _ rfl #[(0, .int .i64 (k : Int)), (2, .bool true)] (by kernel_rfl) (ltC (k : Int) 0 true) (lt_bld2 _ _) ?_) | ((with_reducible refine is_store 33 _ _ rfl ?_); refine wpList_store_at rfl 33 _ _ rfl _ rfl (ltC (k : Int) 0 true) rfl (ltC 0 0 false) _ R0 3 (ltC_size _ _ _) (ltC_size _ _ _) (by kernel_rfl) (lt_one _ _ _) ?_))
      exact bodyPost_ret (v := .agg (ltC (k : Int) 0 true)) (results_at (p := 2) (ty := 33) rfl _ _ _ (ltC (k : Int) 0 true) _ rfl R9 _ Try.underlying33 rfl 3 (ltC_size _ _ _) (by kernel_rfl)) rfl ⟨by first | rfl | rw [hv], B9.out⟩

end Go.Proofs.Ytldchcjnepnjnaa
