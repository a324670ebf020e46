/-
  CONTRACTS: the program's StepLight at drawn plans.
-/
import Derived.Test.YtldchcjnepnjnaaLtQ
import Derived.Test.YtldchcjnepnjnaaLtR
namespace Go.Proofs.Ytldchcjnepnjnaa
open Go Go.ChangeShapes Go.WideShapes Go.ChangeAt Go.RowKit
set_option maxRecDepth 100000

theorem StepLight1_any (cp : Nat) (zs : Array Value) (g1 g2 g3 g4 : Nat) (T1 T2 T3 T4 : TypeId) (G : Nat) (xs : Slots) (b o : Int) (hW : SlW xs) (T : TypeId) (k n le mo : Int) (r : Bool) (hlen : xs.length ≤ 1048576) (hlp : lpB xs b o k n r = true) (hn : n < 1000000) (h1 : 1 ≤ le) (h2 : le ≤ 240) (h3 : le ≤ mo) (h4 : mo ≤ 240) (w : World) (P0 : At w g1 (plC (.slice (some ⟨G, 0, none⟩) xs.length cp) b o) T1) (L0 : At w g2 (ltC k n r) T2) (E0 : At w g3 #[.int .i64 le] T3) (M0 : At w g4 #[.int .i64 mo] T4) (A0 : At w G (slY xs zs) T) :
    Calls Try.prog 17 #[.pointer (some ⟨g1, 0, none⟩), .pointer (some ⟨g2, 0, none⟩), .pointer (some ⟨g3, 0, none⟩), .pointer (some ⟨g4, 0, none⟩)] w fun e w' => Chk 0 e ∧ Below w.heap.size w w' := by
  have KN := needLightZ_any cp zs G xs b o hW T k n r hlen w A0
  rw [lpC_yes hlp] at KN
  have d1 : decide (le ≥ 1) = true := decide_eq_true h1
  go_enter Try.func17, Try.ntmps17
  go_wp2_with (first | ((with_reducible refine is_load 26 _ rfl ?_); refine wpList_load_at rfl 26 _ rfl _ rfl (plC (.slice (some ⟨G, 0, none⟩) xs.length cp) b o) _ P0 3 (plC_size _ _ _) _ Try.underlying26 rfl (by kernel_rfl) ?_) | ((with_reducible refine is_load 33 _ rfl ?_); refine wpList_load_at rfl 33 _ rfl _ rfl (ltC k n r) _ L0 3 (ltC_size _ _ _) _ Try.underlying33 rfl (by kernel_rfl) ?_))
  refine KN.mono ?_
  rintro e w1 ⟨⟨-, rfl⟩ | ⟨h, -⟩, hb1⟩
  · have c2 := (E0.step hb1).cell (k := 0) (v := .int .i64 le) rfl
    have c3 := (M0.step hb1).cell (k := 0) (v := .int .i64 mo) rfl
    have c1 := (L0.step hb1).cell (ltC_1 _ _ _)
    clear KN P0 L0 E0 M0 A0 d1
    go_wp2_with fail
    refine (need_ok 2 _).mono ?_
    rintro e w2 ⟨rfl, rfl⟩
    go_wp2_with fail
    refine (need_ok 4 _).mono ?_
    rintro e w3 ⟨rfl, rfl⟩
    go_wp2_with fail
    go_end0
    exact ⟨.inl ⟨rfl, rfl⟩, hb1⟩
  · exact absurd rfl h

set_option maxHeartbeats 4000000 in
theorem StepLight_e (cp : Nat) (zs : Array Value) (G : Nat) (xs : Slots) (b o : Nat) (hW : SlW xs) (T : TypeId) (cs : List Bool) (hcs : cs.length = 8) (le mo k n : Nat) (r : Bool) (k' n' : Nat) (r' : Bool) (hlp : lpB xs b o k n r = true) (hx : xs.length ≤ 8) (hk : k < xs.length) (hn : n ≤ 1000) (hle1 : 1 ≤ le) (hlm : le ≤ mo) (hmo : mo ≤ 240) (hT : stepT xs b cs le mo k n r = (k', n', r')) (w : World) (A0 : At w G (slY xs zs) T) :
    Calls Try.prog 9 #[.agg (plC (.slice (some ⟨G, 0, none⟩) xs.length cp) b o), .agg (ltC k n r), .agg (bl cs), .int .i64 le, .int .i64 mo] w fun e w' => e = .returned (.tuple #[.agg (ltC k' n' r'), .int .i64 0]) ∧ Below w.heap.size w w' := by
  cases r
  · have P0 : At ((((((w.alloc (.cells (plC (.slice (some ⟨G, 0, none⟩) xs.length cp) b o) 26)).alloc (.cells (ltC k n false) 33)).alloc (.cells (bl cs) 29)).alloc (.cells #[.int .i64 le] 2)).alloc (.cells #[.int .i64 mo] 2)).alloc (.cells #[.int .i64 0, .int .i64 0, .bool false] 33)) (w.heap.size) (plC (.slice (some ⟨G, 0, none⟩) xs.length cp) b o) 26 := by
      have := At.new w (plC (.slice (some ⟨G, 0, none⟩) xs.length cp) b o) 26
      exact (((((this.alloc _).alloc _).alloc _).alloc _).alloc _)
    have L0 : At ((((((w.alloc (.cells (plC (.slice (some ⟨G, 0, none⟩) xs.length cp) b o) 26)).alloc (.cells (ltC k n false) 33)).alloc (.cells (bl cs) 29)).alloc (.cells #[.int .i64 le] 2)).alloc (.cells #[.int .i64 mo] 2)).alloc (.cells #[.int .i64 0, .int .i64 0, .bool false] 33)) (w.heap.size + 1) (ltC k n false) 33 := by
      have := At.new (w.alloc (.cells (plC (.slice (some ⟨G, 0, none⟩) xs.length cp) b o) 26)) (ltC k n false) 33
      rw [World.size_alloc] at this
      exact ((((this.alloc _).alloc _).alloc _).alloc _)
    have C0 : At ((((((w.alloc (.cells (plC (.slice (some ⟨G, 0, none⟩) xs.length cp) b o) 26)).alloc (.cells (ltC k n false) 33)).alloc (.cells (bl cs) 29)).alloc (.cells #[.int .i64 le] 2)).alloc (.cells #[.int .i64 mo] 2)).alloc (.cells #[.int .i64 0, .int .i64 0, .bool false] 33)) (w.heap.size + 1 + 1) (bl cs) 29 := by
      have := At.new ((w.alloc (.cells (plC (.slice (some ⟨G, 0, none⟩) xs.length cp) b o) 26)).alloc (.cells (ltC k n false) 33)) (bl cs) 29
      rw [World.size_alloc, World.size_alloc] at this
      exact (((this.alloc _).alloc _).alloc _)
    have E0 : At ((((((w.alloc (.cells (plC (.slice (some ⟨G, 0, none⟩) xs.length cp) b o) 26)).alloc (.cells (ltC k n false) 33)).alloc (.cells (bl cs) 29)).alloc (.cells #[.int .i64 le] 2)).alloc (.cells #[.int .i64 mo] 2)).alloc (.cells #[.int .i64 0, .int .i64 0, .bool false] 33)) (w.heap.size + 1 + 1 + 1) (#[.int .i64 le]) 2 := by
      have := At.new (((w.alloc (.cells (plC (.slice (some ⟨G, 0, none⟩) xs.length cp) b o) 26)).alloc (.cells (ltC k n false) 33)).alloc (.cells (bl cs) 29)) (#[.int .i64 le]) 2
      rw [World.size_alloc, World.size_alloc, World.size_alloc] at this
      exact ((this.alloc _).alloc _)
    have M0 : At ((((((w.alloc (.cells (plC (.slice (some ⟨G, 0, none⟩) xs.length cp) b o) 26)).alloc (.cells (ltC k n false) 33)).alloc (.cells (bl cs) 29)).alloc (.cells #[.int .i64 le] 2)).alloc (.cells #[.int .i64 mo] 2)).alloc (.cells #[.int .i64 0, .int .i64 0, .bool false] 33)) (w.heap.size + 1 + 1 + 1 + 1) (#[.int .i64 mo]) 2 := by
      have := At.new ((((w.alloc (.cells (plC (.slice (some ⟨G, 0, none⟩) xs.length cp) b o) 26)).alloc (.cells (ltC k n false) 33)).alloc (.cells (bl cs) 29)).alloc (.cells #[.int .i64 le] 2)) (#[.int .i64 mo]) 2
      rw [World.size_alloc, World.size_alloc, World.size_alloc, World.size_alloc] at this
      exact (this.alloc _)
    have R0 : At ((((((w.alloc (.cells (plC (.slice (some ⟨G, 0, none⟩) xs.length cp) b o) 26)).alloc (.cells (ltC k n false) 33)).alloc (.cells (bl cs) 29)).alloc (.cells #[.int .i64 le] 2)).alloc (.cells #[.int .i64 mo] 2)).alloc (.cells #[.int .i64 0, .int .i64 0, .bool false] 33)) (w.heap.size + 1 + 1 + 1 + 1 + 1) (#[.int .i64 0, .int .i64 0, .bool false]) 33 := by
      have := At.new (((((w.alloc (.cells (plC (.slice (some ⟨G, 0, none⟩) xs.length cp) b o) 26)).alloc (.cells (ltC k n false) 33)).alloc (.cells (bl cs) 29)).alloc (.cells #[.int .i64 le] 2)).alloc (.cells #[.int .i64 mo] 2)) (#[.int .i64 0, .int .i64 0, .bool false]) 33
      rw [World.size_alloc, World.size_alloc, World.size_alloc, World.size_alloc, World.size_alloc] at this
      exact this
    have hG := A0.lt
    replace A0 := ((((((A0.alloc (.cells (plC (.slice (some ⟨G, 0, none⟩) xs.length cp) b o) 26)).alloc (.cells (ltC k n false) 33)).alloc (.cells (bl cs) 29)).alloc (.cells #[.int .i64 le] 2)).alloc (.cells #[.int .i64 mo] 2)).alloc (.cells #[.int .i64 0, .int .i64 0, .bool false] 33))
    have BW := Lib.hid (bnew (bnew (bnew (bnew (bnew (b0 w (.cells (plC (.slice (some ⟨G, 0, none⟩) xs.length cp) b o) 26)) (.cells (ltC k n false) 33)) (.cells (bl cs) 29)) (.cells #[.int .i64 le] 2)) (.cells #[.int .i64 mo] 2)) (.cells #[.int .i64 0, .int .i64 0, .bool false] 33))
    have hmf : ∀ (fn : Fn) (first cap : Array Value) (w : World), (Instr.makeFunc fn first cap).run Try.prog w = .ok (.func fn first cap) w := fun _ _ _ _ => rfl
    have KR := refusalOf_any 17 #[.pointer (some ⟨w.heap.size, 0, none⟩), .pointer (some ⟨w.heap.size + 1, 0, none⟩), .pointer (some ⟨w.heap.size + 1 + 1 + 1, 0, none⟩), .pointer (some ⟨w.heap.size + 1 + 1 + 1 + 1, 0, none⟩)] 0 ((((((w.alloc (.cells (plC (.slice (some ⟨G, 0, none⟩) xs.length cp) b o) 26)).alloc (.cells (ltC k n false) 33)).alloc (.cells (bl cs) 29)).alloc (.cells #[.int .i64 le] 2)).alloc (.cells #[.int .i64 mo] 2)).alloc (.cells #[.int .i64 0, .int .i64 0, .bool false] 33)) (fun _ => by kernel_rfl) (fun w1 hb => StepLight1_any cp zs _ _ _ _ _ _ _ _ G xs b o hW T k n le mo false (by omega) hlp (by omega) (by omega) (by omega) (by omega) (by omega) w1 (P0.step hb) (L0.step hb) (E0.step hb) (M0.step hb) (A0.step hb))
    have KF := fun w (A0 : At w G (slY xs zs) T) => fromGreen_any cp zs G xs b o cs hcs le mo k (n + 1) hk hx hW T w A0
    have hv : (if n + 1 < mo ∧ (n + 1 < le ∨ cal (sb xs k) cs 8 = true) then ltC k ((n + 1 : Nat) : Int) false else if b = 0 then ltC (((k : Int) + 1) % (xs.length : Int)) 0 false else ltC k 0 true) = ltC k' n' r' := by
      unfold stepT at hT
      rw [if_neg (by decide)] at hT
      generalize cal (sb xs k) cs 8 = c at hT ⊢
      by_cases h : (le ≤ n + 1 ∧ c = false) ∨ mo ≤ n + 1
      · rw [if_pos h] at hT
        have h7 : ¬ (n + 1 < mo ∧ (n + 1 < le ∨ c = true)) := by
          rintro ⟨q1, q2⟩
          rcases h with ⟨h1, h2⟩ | h1
          · rcases q2 with q | q
            · omega
            · rw [h2] at q; cases q
          · omega
        rw [if_neg h7]
        by_cases h3 : b = 0
        · rw [if_pos h3] at hT ⊢
          injection hT with t1 t2
          injection t2 with t2 t3
          subst t1 t2 t3
          simp
        · rw [if_neg h3] at hT ⊢
          injection hT with t1 t2
          injection t2 with t2 t3
          subst t1 t2 t3
          rfl
      · rw [if_neg h] at hT
        have h5 : n + 1 < mo := Nat.lt_of_not_le fun q => h (.inr q)
        have h6 : n + 1 < le ∨ c = true := by
          rcases Nat.lt_or_ge (n + 1) le with q | q
          · exact .inl q
          · right; cases hc : c
            · exact absurd (Or.inl ⟨q, hc⟩) h
            · rfl
        rw [if_pos ⟨h5, h6⟩]
        injection hT with t1 t2
        injection t2 with t2 t3
        subst t1 t2 t3
        rfl
    rw [hv] at KF
    have ec : ((n + 1 : Nat) : Int) = (n : Int) + 1 := by omega
    rw [ec] at KF
    have s3 : IntKind.i64.wrap ((n : Int) + 1) = (n : Int) + 1 := IntWalk.i64_in _ (by omega)
    have hbs : (bl cs).size = 8 := by rw [bl_size, hcs]
    have hsz := stC_size (aa := some ⟨G, 0, none⟩) (am := xs.length) (ac := cp) (b := b) (o := o) (k := k) (n := (n : Int) + 1) (r := false) (le := le) (mo := mo) hcs
    clear hv ec hT hlp
    go_enter Try.func9, Try.ntmps9
    go_wp2_with fail
    refine KR.mono ?_
    rintro e w1 ⟨rfl, hb⟩
    replace P0 := P0.step hb
    replace L0 := L0.step hb
    replace C0 := C0.step hb
    replace E0 := E0.step hb
    replace M0 := M0.step hb
    replace R0 := R0.step hb
    replace A0 := A0.step hb
    replace BW := Lib.hid (BW.out.trans (hb.mono BW.out.size))
    clear hb
    clear KR
    have c1 := L0.cell (ltC_1 _ _ _)
    have P2 := P0.setRow_other (k := w.heap.size + 1) (by omega) (ltC k ((n : Int) + 1) false)
    have L2 := L0.setRow (ltC k ((n : Int) + 1) false)
    have C2 := C0.setRow_other (k := w.heap.size + 1) (by omega) (ltC k ((n : Int) + 1) false)
    have E2 := E0.setRow_other (k := w.heap.size + 1) (by omega) (ltC k ((n : Int) + 1) false)
    have M2 := M0.setRow_other (k := w.heap.size + 1) (by omega) (ltC k ((n : Int) + 1) false)
    have R2 := R0.setRow_other (k := w.heap.size + 1) (by omega) (ltC k ((n : Int) + 1) false)
    have A2 := A0.setRow_other (k := w.heap.size + 1) (by omega) (ltC k ((n : Int) + 1) false)
    have B2 := Lib.hid (bset BW.out (g := w.heap.size + 1) (by omega) (ltC k ((n : Int) + 1) false))
    go_wp2_with (first | ((with_reducible refine is_store 2 _ _ rfl ?_); refine wpList_store_cell rfl 2 _ _ rfl _ 1 rfl (.int .i64 ((n : Int) + 1)) rfl (ltC k n false) _ L0 (by rw [ltC_size]; omega) (by kernel_rfl) rfl (ltC k ((n : Int) + 1) false) (ltC_s1 _ _ _ _) ?_) | ((with_reducible refine is_load 26 _ rfl ?_); refine hold ?_))
    generalize World.setRow _ _ _ = w2 at P2 L2 C2 E2 M2 R2 A2 B2 ⊢
    clear P0 L0 C0 E0 M0 R0 A0 BW c1
    refine Lib.hid ?_
    have ce := E2.cell (k := 0) (v := .int .i64 le) rfl
    have cm := M2.cell (k := 0) (v := .int .i64 mo) rfl
    have S0' := At.new w2 (stC (.slice none 0 0) 0 0 0 0 false (noes 8) 0 0) 51
    have S3 := S0'.setRow (stC (.slice (some ⟨G, 0, none⟩) xs.length cp) b o k ((n : Int) + 1) false cs le mo)
    have L3 := (L2.alloc (.cells (stC (.slice none 0 0) 0 0 0 0 false (noes 8) 0 0) 51)).setRow_other (k := w2.heap.size) (Nat.ne_of_lt L2.lt) (stC (.slice (some ⟨G, 0, none⟩) xs.length cp) b o k ((n : Int) + 1) false cs le mo)
    have R3 := (R2.alloc (.cells (stC (.slice none 0 0) 0 0 0 0 false (noes 8) 0 0) 51)).setRow_other (k := w2.heap.size) (Nat.ne_of_lt R2.lt) (stC (.slice (some ⟨G, 0, none⟩) xs.length cp) b o k ((n : Int) + 1) false cs le mo)
    have A3 := (A2.alloc (.cells (stC (.slice none 0 0) 0 0 0 0 false (noes 8) 0 0) 51)).setRow_other (k := w2.heap.size) (Nat.ne_of_lt A2.lt) (stC (.slice (some ⟨G, 0, none⟩) xs.length cp) b o k ((n : Int) + 1) false cs le mo)
    have B3 := Lib.hid (bset (B2.out.alloc B2.out.size (.cells (stC (.slice none 0 0) 0 0 0 0 false (noes 8) 0 0) 51)) (g := w2.heap.size) B2.out.size (stC (.slice (some ⟨G, 0, none⟩) xs.length cp) b o k ((n : Int) + 1) false cs le mo))
    go_wp2_with (first | ((with_reducible refine is_load 26 _ rfl ?_); refine wpList_load_at rfl 26 _ rfl _ rfl (plC (.slice (some ⟨G, 0, none⟩) xs.length cp) b o) _ P2 3 (plC_size _ _ _) _ Try.underlying26 rfl (by kernel_rfl) ?_) | ((with_reducible refine is_load 33 _ rfl ?_); refine wpList_load_at rfl 33 _ rfl _ rfl (ltC k ((n : Int) + 1) false) _ L2 3 (ltC_size _ _ _) _ Try.underlying33 rfl (by kernel_rfl) ?_) | ((with_reducible refine is_load 29 _ rfl ?_); refine wpList_load_at rfl 29 _ rfl _ rfl (bl cs) _ C2 8 (hbs) _ Try.underlying29 rfl (by kernel_rfl) ?_) | ((with_reducible refine is_bld 51 _ rfl ?_); refine wpList_bld rfl 51 _ rfl #[(0, .agg (plC (.slice (some ⟨G, 0, none⟩) xs.length cp) b o)), (1, .agg (ltC k ((n : Int) + 1) false)), (2, .agg (bl cs)), (3, .int .i64 le), (4, .int .i64 mo)] (by kernel_rfl) (stC (.slice (some ⟨G, 0, none⟩) xs.length cp) b o k ((n : Int) + 1) false cs le mo) (stC_bld hcs) ?_) | ((with_reducible refine is_store 51 _ _ rfl ?_); refine wpList_store_at rfl 51 _ _ rfl _ rfl (stC (.slice (some ⟨G, 0, none⟩) xs.length cp) b o k ((n : Int) + 1) false cs le mo) rfl (stC (.slice none 0 0) 0 0 0 0 false (noes 8) 0 0) _ S0' 16 hsz (stC_size (noes_len 8)) (by kernel_rfl) (stC_one hcs) ?_; refine hold ?_))
    rw [show (#[.slice none 0 0, .int .i64 0, .int .i64 0, .int .i64 0, .int .i64 0, .bool false, .bool false, .bool false, .bool false, .bool false, .bool false, .bool false, .bool false, .bool false, .int .i64 0, .int .i64 0] : Array Value) = stC (.slice none 0 0) 0 0 0 0 false (noes 8) 0 0 from by kernel_rfl]
    clear S0' P2 L2 C2 E2 M2 R2 A2 B2 ce cm
    generalize World.setRow _ _ _ = w3 at S3 L3 R3 A3 B3 ⊢
    refine Lib.hid ?_
    have cr := L3.cell (ltC_2 _ _ _)
    go_wp2_with ((with_reducible refine is_load 51 _ rfl ?_); refine wpList_load_at rfl 51 _ rfl _ rfl (stC (.slice (some ⟨G, 0, none⟩) xs.length cp) b o k ((n : Int) + 1) false cs le mo) _ S3 16 (hsz) _ Try.underlying51 rfl (by kernel_rfl) ?_)
    refine (KF _ A3).mono ?_
    rintro e w4 ⟨rfl, hb⟩
    replace R3 := R3.step hb
    replace B3 := Lib.hid (B3.out.trans (hb.mono B3.out.size))
    have R9 := R3.setRow (ltC k' n' r')
    have B9 := Lib.hid (bset B3.out (g := w.heap.size + 1 + 1 + 1 + 1 + 1) (by omega) (ltC k' n' r'))
    clear S3 L3 A3 cr hb KF
    go_wp2_with ((with_reducible refine is_store 33 _ _ rfl ?_); refine wpList_store_at rfl 33 _ _ rfl _ rfl (ltC k' n' r') rfl (#[.int .i64 0, .int .i64 0, .bool false]) _ R3 3 (ltC_size _ _ _) (rfl) (by kernel_rfl) (lt_one _ _ _) ?_)
    exact bodyPost_ret (v := .tuple #[.agg (ltC k' n' r'), .int .i64 0]) (results_at_tmp (p := 10) (ty := 33) rfl _ _ _ (ltC k' n' r') _ (.int .i64 0) rfl rfl R9 _ Try.underlying33 rfl 3 (ltC_size _ _ _) (by kernel_rfl)) rfl ⟨rfl, B9.out⟩
  · have P0 : At ((((((w.alloc (.cells (plC (.slice (some ⟨G, 0, none⟩) xs.length cp) b o) 26)).alloc (.cells (ltC k n true) 33)).alloc (.cells (bl cs) 29)).alloc (.cells #[.int .i64 le] 2)).alloc (.cells #[.int .i64 mo] 2)).alloc (.cells #[.int .i64 0, .int .i64 0, .bool false] 33)) (w.heap.size) (plC (.slice (some ⟨G, 0, none⟩) xs.length cp) b o) 26 := by
      have := At.new w (plC (.slice (some ⟨G, 0, none⟩) xs.length cp) b o) 26
      exact (((((this.alloc _).alloc _).alloc _).alloc _).alloc _)
    have L0 : At ((((((w.alloc (.cells (plC (.slice (some ⟨G, 0, none⟩) xs.length cp) b o) 26)).alloc (.cells (ltC k n true) 33)).alloc (.cells (bl cs) 29)).alloc (.cells #[.int .i64 le] 2)).alloc (.cells #[.int .i64 mo] 2)).alloc (.cells #[.int .i64 0, .int .i64 0, .bool false] 33)) (w.heap.size + 1) (ltC k n true) 33 := by
      have := At.new (w.alloc (.cells (plC (.slice (some ⟨G, 0, none⟩) xs.length cp) b o) 26)) (ltC k n true) 33
      rw [World.size_alloc] at this
      exact ((((this.alloc _).alloc _).alloc _).alloc _)
    have C0 : At ((((((w.alloc (.cells (plC (.slice (some ⟨G, 0, none⟩) xs.length cp) b o) 26)).alloc (.cells (ltC k n true) 33)).alloc (.cells (bl cs) 29)).alloc (.cells #[.int .i64 le] 2)).alloc (.cells #[.int .i64 mo] 2)).alloc (.cells #[.int .i64 0, .int .i64 0, .bool false] 33)) (w.heap.size + 1 + 1) (bl cs) 29 := by
      have := At.new ((w.alloc (.cells (plC (.slice (some ⟨G, 0, none⟩) xs.length cp) b o) 26)).alloc (.cells (ltC k n true) 33)) (bl cs) 29
      rw [World.size_alloc, World.size_alloc] at this
      exact (((this.alloc _).alloc _).alloc _)
    have E0 : At ((((((w.alloc (.cells (plC (.slice (some ⟨G, 0, none⟩) xs.length cp) b o) 26)).alloc (.cells (ltC k n true) 33)).alloc (.cells (bl cs) 29)).alloc (.cells #[.int .i64 le] 2)).alloc (.cells #[.int .i64 mo] 2)).alloc (.cells #[.int .i64 0, .int .i64 0, .bool false] 33)) (w.heap.size + 1 + 1 + 1) (#[.int .i64 le]) 2 := by
      have := At.new (((w.alloc (.cells (plC (.slice (some ⟨G, 0, none⟩) xs.length cp) b o) 26)).alloc (.cells (ltC k n true) 33)).alloc (.cells (bl cs) 29)) (#[.int .i64 le]) 2
      rw [World.size_alloc, World.size_alloc, World.size_alloc] at this
      exact ((this.alloc _).alloc _)
    have M0 : At ((((((w.alloc (.cells (plC (.slice (some ⟨G, 0, none⟩) xs.length cp) b o) 26)).alloc (.cells (ltC k n true) 33)).alloc (.cells (bl cs) 29)).alloc (.cells #[.int .i64 le] 2)).alloc (.cells #[.int .i64 mo] 2)).alloc (.cells #[.int .i64 0, .int .i64 0, .bool false] 33)) (w.heap.size + 1 + 1 + 1 + 1) (#[.int .i64 mo]) 2 := by
      have := At.new ((((w.alloc (.cells (plC (.slice (some ⟨G, 0, none⟩) xs.length cp) b o) 26)).alloc (.cells (ltC k n true) 33)).alloc (.cells (bl cs) 29)).alloc (.cells #[.int .i64 le] 2)) (#[.int .i64 mo]) 2
      rw [World.size_alloc, World.size_alloc, World.size_alloc, World.size_alloc] at this
      exact (this.alloc _)
    have R0 : At ((((((w.alloc (.cells (plC (.slice (some ⟨G, 0, none⟩) xs.length cp) b o) 26)).alloc (.cells (ltC k n true) 33)).alloc (.cells (bl cs) 29)).alloc (.cells #[.int .i64 le] 2)).alloc (.cells #[.int .i64 mo] 2)).alloc (.cells #[.int .i64 0, .int .i64 0, .bool false] 33)) (w.heap.size + 1 + 1 + 1 + 1 + 1) (#[.int .i64 0, .int .i64 0, .bool false]) 33 := by
      have := At.new (((((w.alloc (.cells (plC (.slice (some ⟨G, 0, none⟩) xs.length cp) b o) 26)).alloc (.cells (ltC k n true) 33)).alloc (.cells (bl cs) 29)).alloc (.cells #[.int .i64 le] 2)).alloc (.cells #[.int .i64 mo] 2)) (#[.int .i64 0, .int .i64 0, .bool false]) 33
      rw [World.size_alloc, World.size_alloc, World.size_alloc, World.size_alloc, World.size_alloc] at this
      exact this
    have hG := A0.lt
    replace A0 := ((((((A0.alloc (.cells (plC (.slice (some ⟨G, 0, none⟩) xs.length cp) b o) 26)).alloc (.cells (ltC k n true) 33)).alloc (.cells (bl cs) 29)).alloc (.cells #[.int .i64 le] 2)).alloc (.cells #[.int .i64 mo] 2)).alloc (.cells #[.int .i64 0, .int .i64 0, .bool false] 33))
    have BW := Lib.hid (bnew (bnew (bnew (bnew (bnew (b0 w (.cells (plC (.slice (some ⟨G, 0, none⟩) xs.length cp) b o) 26)) (.cells (ltC k n true) 33)) (.cells (bl cs) 29)) (.cells #[.int .i64 le] 2)) (.cells #[.int .i64 mo] 2)) (.cells #[.int .i64 0, .int .i64 0, .bool false] 33))
    have hmf : ∀ (fn : Fn) (first cap : Array Value) (w : World), (Instr.makeFunc fn first cap).run Try.prog w = .ok (.func fn first cap) w := fun _ _ _ _ => rfl
    have KR := refusalOf_any 17 #[.pointer (some ⟨w.heap.size, 0, none⟩), .pointer (some ⟨w.heap.size + 1, 0, none⟩), .pointer (some ⟨w.heap.size + 1 + 1 + 1, 0, none⟩), .pointer (some ⟨w.heap.size + 1 + 1 + 1 + 1, 0, none⟩)] 0 ((((((w.alloc (.cells (plC (.slice (some ⟨G, 0, none⟩) xs.length cp) b o) 26)).alloc (.cells (ltC k n true) 33)).alloc (.cells (bl cs) 29)).alloc (.cells #[.int .i64 le] 2)).alloc (.cells #[.int .i64 mo] 2)).alloc (.cells #[.int .i64 0, .int .i64 0, .bool false] 33)) (fun _ => by kernel_rfl) (fun w1 hb => StepLight1_any cp zs _ _ _ _ _ _ _ _ G xs b o hW T k n le mo true (by omega) hlp (by omega) (by omega) (by omega) (by omega) (by omega) w1 (P0.step hb) (L0.step hb) (E0.step hb) (M0.step hb) (A0.step hb))
    have KF := fun w => fromRed_any cp zs G xs b o cs hcs le mo k (n + 1) hk hx w
    have hv : (if n + 1 = b then ltC (((k : Int) + 1) % (xs.length : Int)) 0 false else ltC k ((n + 1 : Nat) : Int) true) = ltC k' n' r' := by
      unfold stepT at hT
      rw [if_pos rfl] at hT
      by_cases h : n + 1 = b
      · rw [if_pos h] at hT ⊢
        injection hT with t1 t2
        injection t2 with t2 t3
        subst t1 t2 t3
        simp
      · rw [if_neg h] at hT ⊢
        injection hT with t1 t2
        injection t2 with t2 t3
        subst t1 t2 t3
        rfl
    rw [hv] at KF
    have ec : ((n + 1 : Nat) : Int) = (n : Int) + 1 := by omega
    rw [ec] at KF
    have s3 : IntKind.i64.wrap ((n : Int) + 1) = (n : Int) + 1 := IntWalk.i64_in _ (by omega)
    have hbs : (bl cs).size = 8 := by rw [bl_size, hcs]
    have hsz := stC_size (aa := some ⟨G, 0, none⟩) (am := xs.length) (ac := cp) (b := b) (o := o) (k := k) (n := (n : Int) + 1) (r := true) (le := le) (mo := mo) hcs
    clear hv ec hT hlp
    go_enter Try.func9, Try.ntmps9
    go_wp2_with fail
    refine KR.mono ?_
    rintro e w1 ⟨rfl, hb⟩
    replace P0 := P0.step hb
    replace L0 := L0.step hb
    replace C0 := C0.step hb
    replace E0 := E0.step hb
    replace M0 := M0.step hb
    replace R0 := R0.step hb
    replace A0 := A0.step hb
    replace BW := Lib.hid (BW.out.trans (hb.mono BW.out.size))
    clear hb
    clear KR
    have c1 := L0.cell (ltC_1 _ _ _)
    have P2 := P0.setRow_other (k := w.heap.size + 1) (by omega) (ltC k ((n : Int) + 1) true)
    have L2 := L0.setRow (ltC k ((n : Int) + 1) true)
    have C2 := C0.setRow_other (k := w.heap.size + 1) (by omega) (ltC k ((n : Int) + 1) true)
    have E2 := E0.setRow_other (k := w.heap.size + 1) (by omega) (ltC k ((n : Int) + 1) true)
    have M2 := M0.setRow_other (k := w.heap.size + 1) (by omega) (ltC k ((n : Int) + 1) true)
    have R2 := R0.setRow_other (k := w.heap.size + 1) (by omega) (ltC k ((n : Int) + 1) true)
    have A2 := A0.setRow_other (k := w.heap.size + 1) (by omega) (ltC k ((n : Int) + 1) true)
    have B2 := Lib.hid (bset BW.out (g := w.heap.size + 1) (by omega) (ltC k ((n : Int) + 1) true))
    go_wp2_with (first | ((with_reducible refine is_store 2 _ _ rfl ?_); refine wpList_store_cell rfl 2 _ _ rfl _ 1 rfl (.int .i64 ((n : Int) + 1)) rfl (ltC k n true) _ L0 (by rw [ltC_size]; omega) (by kernel_rfl) rfl (ltC k ((n : Int) + 1) true) (ltC_s1 _ _ _ _) ?_) | ((with_reducible refine is_load 26 _ rfl ?_); refine hold ?_))
    generalize World.setRow _ _ _ = w2 at P2 L2 C2 E2 M2 R2 A2 B2 ⊢
    clear P0 L0 C0 E0 M0 R0 A0 BW c1
    refine Lib.hid ?_
    have ce := E2.cell (k := 0) (v := .int .i64 le) rfl
    have cm := M2.cell (k := 0) (v := .int .i64 mo) rfl
    have S0' := At.new w2 (stC (.slice none 0 0) 0 0 0 0 false (noes 8) 0 0) 51
    have S3 := S0'.setRow (stC (.slice (some ⟨G, 0, none⟩) xs.length cp) b o k ((n : Int) + 1) true cs le mo)
    have L3 := (L2.alloc (.cells (stC (.slice none 0 0) 0 0 0 0 false (noes 8) 0 0) 51)).setRow_other (k := w2.heap.size) (Nat.ne_of_lt L2.lt) (stC (.slice (some ⟨G, 0, none⟩) xs.length cp) b o k ((n : Int) + 1) true cs le mo)
    have R3 := (R2.alloc (.cells (stC (.slice none 0 0) 0 0 0 0 false (noes 8) 0 0) 51)).setRow_other (k := w2.heap.size) (Nat.ne_of_lt R2.lt) (stC (.slice (some ⟨G, 0, none⟩) xs.length cp) b o k ((n : Int) + 1) true cs le mo)
    have A3 := (A2.alloc (.cells (stC (.slice none 0 0) 0 0 0 0 false (noes 8) 0 0) 51)).setRow_other (k := w2.heap.size) (Nat.ne_of_lt A2.lt) (stC (.slice (some ⟨G, 0, none⟩) xs.length cp) b o k ((n : Int) + 1) true cs le mo)
    have B3 := Lib.hid (bset (B2.out.alloc B2.out.size (.cells (stC (.slice none 0 0) 0 0 0 0 false (noes 8) 0 0) 51)) (g := w2.heap.size) B2.out.size (stC (.slice (some ⟨G, 0, none⟩) xs.length cp) b o k ((n : Int) + 1) true cs le mo))
    go_wp2_with (first | ((with_reducible refine is_load 26 _ rfl ?_); refine wpList_load_at rfl 26 _ rfl _ rfl (plC (.slice (some ⟨G, 0, none⟩) xs.length cp) b o) _ P2 3 (plC_size _ _ _) _ Try.underlying26 rfl (by kernel_rfl) ?_) | ((with_reducible refine is_load 33 _ rfl ?_); refine wpList_load_at rfl 33 _ rfl _ rfl (ltC k ((n : Int) + 1) true) _ L2 3 (ltC_size _ _ _) _ Try.underlying33 rfl (by kernel_rfl) ?_) | ((with_reducible refine is_load 29 _ rfl ?_); refine wpList_load_at rfl 29 _ rfl _ rfl (bl cs) _ C2 8 (hbs) _ Try.underlying29 rfl (by kernel_rfl) ?_) | ((with_reducible refine is_bld 51 _ rfl ?_); refine wpList_bld rfl 51 _ rfl #[(0, .agg (plC (.slice (some ⟨G, 0, none⟩) xs.length cp) b o)), (1, .agg (ltC k ((n : Int) + 1) true)), (2, .agg (bl cs)), (3, .int .i64 le), (4, .int .i64 mo)] (by kernel_rfl) (stC (.slice (some ⟨G, 0, none⟩) xs.length cp) b o k ((n : Int) + 1) true cs le mo) (stC_bld hcs) ?_) | ((with_reducible refine is_store 51 _ _ rfl ?_); refine wpList_store_at rfl 51 _ _ rfl _ rfl (stC (.slice (some ⟨G, 0, none⟩) xs.length cp) b o k ((n : Int) + 1) true cs le mo) rfl (stC (.slice none 0 0) 0 0 0 0 false (noes 8) 0 0) _ S0' 16 hsz (stC_size (noes_len 8)) (by kernel_rfl) (stC_one hcs) ?_; refine hold ?_))
    rw [show (#[.slice none 0 0, .int .i64 0, .int .i64 0, .int .i64 0, .int .i64 0, .bool false, .bool false, .bool false, .bool false, .bool false, .bool false, .bool false, .bool false, .bool false, .int .i64 0, .int .i64 0] : Array Value) = stC (.slice none 0 0) 0 0 0 0 false (noes 8) 0 0 from by kernel_rfl]
    clear S0' P2 L2 C2 E2 M2 R2 A2 B2 ce cm
    generalize World.setRow _ _ _ = w3 at S3 L3 R3 A3 B3 ⊢
    refine Lib.hid ?_
    have cr := L3.cell (ltC_2 _ _ _)
    go_wp2_with ((with_reducible refine is_load 51 _ rfl ?_); refine wpList_load_at rfl 51 _ rfl _ rfl (stC (.slice (some ⟨G, 0, none⟩) xs.length cp) b o k ((n : Int) + 1) true cs le mo) _ S3 16 (hsz) _ Try.underlying51 rfl (by kernel_rfl) ?_)
    refine (KF _).mono ?_
    rintro e w4 ⟨rfl, hb⟩
    replace R3 := R3.step hb
    replace B3 := Lib.hid (B3.out.trans (hb.mono B3.out.size))
    have R9 := R3.setRow (ltC k' n' r')
    have B9 := Lib.hid (bset B3.out (g := w.heap.size + 1 + 1 + 1 + 1 + 1) (by omega) (ltC k' n' r'))
    clear S3 L3 A3 cr hb KF
    go_wp2_with ((with_reducible refine is_store 33 _ _ rfl ?_); refine wpList_store_at rfl 33 _ _ rfl _ rfl (ltC k' n' r') rfl (#[.int .i64 0, .int .i64 0, .bool false]) _ R3 3 (ltC_size _ _ _) (rfl) (by kernel_rfl) (lt_one _ _ _) ?_)
    exact bodyPost_ret (v := .tuple #[.agg (ltC k' n' r'), .int .i64 0]) (results_at_tmp (p := 10) (ty := 33) rfl _ _ _ (ltC k' n' r') _ (.int .i64 0) rfl rfl R9 _ Try.underlying33 rfl 3 (ltC_size _ _ _) (by kernel_rfl)) rfl ⟨rfl, B9.out⟩

end Go.Proofs.Ytldchcjnepnjnaa
