/-
  CONTRACTS: a light one tick later, from red.
-/
import Derived.Test.YtldchcjnepnjnaaLtP
namespace Go.Proofs.Ytldchcjnepnjnaa
open Go Go.ChangeShapes Go.WideShapes Go.ChangeAt Go.RowKit
set_option maxRecDepth 100000

set_option maxHeartbeats 1000000 in
theorem fromRed_any (cp : Nat) (zs : Array Value) (G : Nat) (xs : Slots) (b o : Nat) (cs : List Bool) (hcs : cs.length = 8) (le mo k n : Nat) (hk : k < xs.length) (hx : xs.length ≤ 8) (w : World) :
    Calls Try.prog 21 #[.agg (stC (.slice (some ⟨G, 0, none⟩) xs.length cp) b o k n true cs le mo)] w fun e w' => e = .returned (.agg (if n = b then ltC (((k : Int) + 1) % (xs.length : Int)) 0 false else ltC k n true)) ∧ Below w.heap.size w w' := by
  have S0 : At ((w.alloc (.cells (stC (.slice (some ⟨G, 0, none⟩) xs.length cp) b o k n true cs le mo) 51)).alloc (.cells (#[.int .i64 0, .int .i64 0, .bool false]) 33)) w.heap.size (stC (.slice (some ⟨G, 0, none⟩) xs.length cp) b o k n true cs le mo) 51 := (At.new w _ _).alloc _
  have R0 : At ((w.alloc (.cells (stC (.slice (some ⟨G, 0, none⟩) xs.length cp) b o k n true cs le mo) 51)).alloc (.cells (#[.int .i64 0, .int .i64 0, .bool false]) 33)) (w.heap.size + 1) (#[.int .i64 0, .int .i64 0, .bool false]) 33 := At.last1 w _ _ _
  have BW := Lib.hid (bnew (b0 w (.cells (stC (.slice (some ⟨G, 0, none⟩) xs.length cp) b o k n true cs le mo) 51)) (.cells (#[.int .i64 0, .int .i64 0, .bool false]) 33))
  have hsz := stC_size (aa := some ⟨G, 0, none⟩) (am := xs.length) (ac := cp) (b := b) (o := o) (k := k) (n := n) (r := true) (le := le) (mo := mo) hcs
  have KA := fun w => atNextSlot_any cp zs G xs b o cs hcs le mo k n hk hx true w
  have c1 := S0.cell (stC_1 hcs)
  have c4 := S0.cell (stC_4 hcs)
  by_cases h : n = b
  · subst h
    have hv : (if n = n then ltC (((k : Int) + 1) % (xs.length : Int)) 0 false else ltC k n true) = ltC (((k : Int) + 1) % (xs.length : Int)) 0 false := if_pos rfl
    go_enter Try.func21, Try.ntmps21
    go_wp2_with ((with_reducible refine is_load 51 _ rfl ?_); refine wpList_load_at rfl 51 _ rfl _ rfl (stC (.slice (some ⟨G, 0, none⟩) xs.length cp) n o k n true cs le mo) _ S0 16 (hsz) _ Try.underlying51 rfl (by kernel_rfl) ?_)
    refine (KA _).mono ?_
    rintro e w2 ⟨rfl, hb⟩
    replace R0 := R0.step hb
    replace BW := Lib.hid (BW.out.trans (hb.mono BW.out.size))
    have R9 := R0.setRow (ltC (((k : Int) + 1) % (xs.length : Int)) 0 false)
    have B9 := Lib.hid (bset BW.out (g := w.heap.size + 1) (by omega) (ltC (((k : Int) + 1) % (xs.length : Int)) 0 false))
    go_wp2_with (first | ((with_reducible refine is_store 33 _ _ rfl ?_); refine wpList_store_at rfl 33 _ _ rfl _ rfl (ltC (((k : Int) + 1) % (xs.length : Int)) 0 false) rfl (ltC 0 0 false) _ R0 3 (ltC_size _ _ _) (ltC_size _ _ _) (by kernel_rfl) (lt_one _ _ _) ?_))
    exact bodyPost_ret (v := .agg (ltC (((k : Int) + 1) % (xs.length : Int)) 0 false)) (results_at (p := 2) (ty := 33) rfl _ _ _ (ltC (((k : Int) + 1) % (xs.length : Int)) 0 false) _ rfl R9 _ Try.underlying33 rfl 3 (ltC_size _ _ _) (by kernel_rfl)) rfl ⟨by first | rfl | rw [hv], B9.out⟩
  · have hv : (if n = b then ltC (((k : Int) + 1) % (xs.length : Int)) 0 false else ltC k n true) = ltC k n true := if_neg h
    have e1 : ((n : Int) == (b : Int)) = false := by simp; omega
    have e2 : decide ((n : Int) = (b : Int)) = false := decide_eq_false (by omega)
    clear KA
    go_enter Try.func21, Try.ntmps21
    have R9 := R0.setRow (ltC k n true)
    have B9 := Lib.hid (bset BW.out (g := w.heap.size + 1) (by omega) (ltC k n true))
    go_wp2_with (first | ((with_reducible refine is_load 33 _ rfl ?_); refine wpList_load_part rfl 33 _ rfl _ 3 rfl (stC (.slice (some ⟨G, 0, none⟩) xs.length cp) b o k n true cs le mo) _ S0 3 (by rw [hsz]; omega) _ Try.underlying33 rfl (by kernel_rfl) (ltC k n true) (stC_light hcs) ?_) | ((with_reducible refine is_store 33 _ _ rfl ?_); refine wpList_store_at rfl 33 _ _ rfl _ rfl (ltC k n true) rfl (ltC 0 0 false) _ R0 3 (ltC_size _ _ _) (ltC_size _ _ _) (by kernel_rfl) (lt_one _ _ _) ?_))
    exact bodyPost_ret (v := .agg (ltC k n true)) (results_at (p := 2) (ty := 33) rfl _ _ _ (ltC k n true) _ rfl R9 _ Try.underlying33 rfl 3 (ltC_size _ _ _) (by kernel_rfl)) rfl ⟨by first | rfl | rw [hv], B9.out⟩

end Go.Proofs.Ytldchcjnepnjnaa
