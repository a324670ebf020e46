/-
  CONTRACTS: lights of plans with a capacity.
-/
import Derived.Test.YtldchcjnepnjnaaLightI
import Derived.Test.YtldchcjnepnjnaaCyZ
import Derived.Test.YtldchcjnepnjnaaPlZ
namespace Go.Proofs.Ytldchcjnepnjnaa
open Go Go.ChangeShapes Go.WideShapes Go.ChangeAt Go.RowKit
set_option maxRecDepth 100000

theorem needLightZ_any (cp : Nat) (zs : Array Value) (G : Nat) (xs : Slots) (b o : Int) (hW : SlW xs) (T : TypeId) (s n : Int) (r : Bool) (hlen : xs.length ≤ 1048576) (w : World) (A0 : At w G (slY xs zs) T) :
    Calls Try.prog 18 #[.agg (plC (.slice (some ⟨G, 0, none⟩) xs.length cp) b o), .agg (ltC s n r)] w fun e w' => Chk (lpC xs b o s n r) e ∧ Below w.heap.size w w' := by
  have P0 : At ((w.alloc (.cells (plC (.slice (some ⟨G, 0, none⟩) xs.length cp) b o) 26)).alloc (.cells (ltC s n r) 33)) w.heap.size (plC (.slice (some ⟨G, 0, none⟩) xs.length cp) b o) 26 := (At.new w _ _).alloc _
  have L0 : At ((w.alloc (.cells (plC (.slice (some ⟨G, 0, none⟩) xs.length cp) b o) 26)).alloc (.cells (ltC s n r) 33)) (w.heap.size + 1) (ltC s n r) 33 := At.last1 w _ _ _
  have B0 := Lib.hid (bnew (b0 w (.cells (plC (.slice (some ⟨G, 0, none⟩) xs.length cp) b o) 26)) (.cells (ltC s n r) 33))
  have KN := needPlanZ_any cp zs G xs b o hW T _ ((A0.alloc (.cells (plC (.slice (some ⟨G, 0, none⟩) xs.length cp) b o) 26)).alloc (.cells (ltC s n r) 33))
  have KI := fun w' => isLightOf_any (some ⟨G, 0, none⟩) xs.length cp b o s n r (by omega) w'
  clear A0
  go_enter Try.func18, Try.ntmps18
  go_wp2_with (((with_reducible refine is_load 26 _ rfl ?_); refine wpList_load_at rfl 26 _ rfl _ rfl ((plC (.slice (some ⟨G, 0, none⟩) xs.length cp) b o)) _ (by with_reducible assumption) 3 (plC_size _ _ _) _ Try.underlying26 rfl (by kernel_rfl) ?_))
  refine KN.mono ?_
  rintro e w1 ⟨⟨h, rfl⟩ | ⟨h, x, hx, rfl⟩, hb1⟩
  · have hok := okC_zero' h
    have P1 := P0.step hb1
    have L1 := L0.step hb1
    have B1 := Lib.hid (bthen B0.out hb1)
    clear P0 L0 B0 hb1 KN
    cases hl : liB xs.length b s n r
    · rw [hl] at KI
      have hg : lpC xs b o s n r = 1 := lpC_no (by unfold lpB; rw [hok, hl]; rfl)
      go_wp2_with (first | ((with_reducible refine is_load 26 _ rfl ?_); refine wpList_load_at rfl 26 _ rfl _ rfl ((plC (.slice (some ⟨G, 0, none⟩) xs.length cp) b o)) _ (by with_reducible assumption) 3 (plC_size _ _ _) _ Try.underlying26 rfl (by kernel_rfl) ?_) | ((with_reducible refine is_load 33 _ rfl ?_); refine wpList_load_at rfl 33 _ rfl _ rfl ((ltC s n r)) _ (by with_reducible assumption) 3 (ltC_size _ _ _) _ Try.underlying33 rfl (by kernel_rfl) ?_))
      refine (KI _).mono ?_
      rintro e w2 ⟨rfl, hb2⟩
      have B2 := Lib.hid (bthen B1.out hb2)
      clear P1 L1 B1 hb2 KI
      go_wp2_with fail
      refine (need_bad 1 _).mono ?_
      rintro e w3 ⟨rfl, rfl⟩
      go_wp2_with fail
      exact ⟨rfl, .inr ⟨by rw [hg]; decide, _, .inl (by rw [hg]), rfl⟩, B2.out⟩
    · rw [hl] at KI
      have hg : lpC xs b o s n r = 0 := lpC_yes (by unfold lpB; rw [hok, hl]; rfl)
      go_wp2_with (first | ((with_reducible refine is_load 26 _ rfl ?_); refine wpList_load_at rfl 26 _ rfl _ rfl ((plC (.slice (some ⟨G, 0, none⟩) xs.length cp) b o)) _ (by with_reducible assumption) 3 (plC_size _ _ _) _ Try.underlying26 rfl (by kernel_rfl) ?_) | ((with_reducible refine is_load 33 _ rfl ?_); refine wpList_load_at rfl 33 _ rfl _ rfl ((ltC s n r)) _ (by with_reducible assumption) 3 (ltC_size _ _ _) _ Try.underlying33 rfl (by kernel_rfl) ?_))
      refine (KI _).mono ?_
      rintro e w2 ⟨rfl, hb2⟩
      have B2 := Lib.hid (bthen B1.out hb2)
      clear P1 L1 B1 hb2 KI
      go_wp2_with fail
      refine (need_ok 1 _).mono ?_
      rintro e w3 ⟨rfl, rfl⟩
      go_wp2_with fail
      go_end0
      exact ⟨.inl ⟨hg, rfl⟩, B2.out⟩
  · have hno := okC_not' h
    rw [okC_no hno] at hx h
    have hg : lpC xs b o s n r = 1 := lpC_no (by unfold lpB; rw [hno]; rfl)
    have B1 := Lib.hid (bthen B0.out hb1)
    go_wp2_with fail
    exact ⟨rfl, .inr ⟨by rw [hg]; decide, x, by rw [hg]; exact hx, rfl⟩, B1.out⟩

theorem LightPhase1Z_any (cp : Nat) (zs : Array Value) (g1 g2 : Nat) (T1 T2 : TypeId) (G : Nat) (xs : Slots) (b o : Int) (hW : SlW xs) (T : TypeId) (s n : Int) (r : Bool) (hlen : xs.length ≤ 1048576) (w : World) (P0 : At w g1 (plC (.slice (some ⟨G, 0, none⟩) xs.length cp) b o) T1) (L0 : At w g2 (ltC s n r) T2) (A0 : At w G (slY xs zs) T) :
    Calls Try.prog 24 #[.pointer (some ⟨g1, 0, none⟩), .pointer (some ⟨g2, 0, none⟩)] w fun e w' => Chk (lpC xs b o s n r) e ∧ Below w.heap.size w w' := by
  have KN := needLightZ_any cp zs G xs b o hW T s n r hlen w A0
  go_enter Try.func24, Try.ntmps24
  go_wp2_with (first | ((with_reducible refine is_load 26 _ rfl ?_); refine wpList_load_at rfl 26 _ rfl _ rfl ((plC (.slice (some ⟨G, 0, none⟩) xs.length cp) b o)) _ (by with_reducible assumption) 3 (plC_size _ _ _) _ Try.underlying26 rfl (by kernel_rfl) ?_) | ((with_reducible refine is_load 33 _ rfl ?_); refine wpList_load_at rfl 33 _ rfl _ rfl ((ltC s n r)) _ (by with_reducible assumption) 3 (ltC_size _ _ _) _ Try.underlying33 rfl (by kernel_rfl) ?_))
  refine KN.mono ?_
  rintro e w1 ⟨⟨h, rfl⟩ | ⟨h, x, hx, rfl⟩, hb1⟩
  · go_wp2_with fail
    go_end0
    exact ⟨.inl ⟨h, rfl⟩, hb1⟩
  · go_wp2_with fail
    exact ⟨rfl, .inr ⟨h, x, hx, rfl⟩, hb1⟩

set_option maxHeartbeats 400000 in
theorem LightPhaseZ_any (cp : Nat) (zs : Array Value) (G : Nat) (xs : Slots) (b o : Int) (hW : SlW xs) (T : TypeId) (s n : Int) (r : Bool) (hlen : xs.length ≤ 1048576) (w : World) (A0 : At w G (slY xs zs) T) :
    Calls Try.prog 11 #[.agg (plC (.slice (some ⟨G, 0, none⟩) xs.length cp) b o), .agg (ltC s n r)] w fun e w' => e = .returned (.tuple #[.agg (bl (vLp xs b o s n r).1), .int .i64 (vLp xs b o s n r).2]) ∧ Below w.heap.size w w' := by
  have hmf : ∀ (fn : Fn) (first cap : Array Value) (w : World), (Instr.makeFunc fn first cap).run Try.prog w = .ok (.func fn first cap) w := fun _ _ _ _ => rfl
  cases hok : lpB xs b o s n r
  · have P0 : At (((w.alloc (.cells (plC (.slice (some ⟨G, 0, none⟩) xs.length cp) b o) 26)).alloc (.cells (ltC s n r) 33)).alloc (.cells (bl (noes 8)) 29)) w.heap.size (plC (.slice (some ⟨G, 0, none⟩) xs.length cp) b o) 26 := ((At.new w _ _).alloc _).alloc _
    have L0 : At (((w.alloc (.cells (plC (.slice (some ⟨G, 0, none⟩) xs.length cp) b o) 26)).alloc (.cells (ltC s n r) 33)).alloc (.cells (bl (noes 8)) 29)) (w.heap.size + 1) (ltC s n r) 33 := (At.last1 w _ _ _).alloc _
    have R0 : At (((w.alloc (.cells (plC (.slice (some ⟨G, 0, none⟩) xs.length cp) b o) 26)).alloc (.cells (ltC s n r) 33)).alloc (.cells (bl (noes 8)) 29)) (w.heap.size + 1 + 1) (bl (noes 8)) 29 := by
      have := At.new ((w.alloc (.cells (plC (.slice (some ⟨G, 0, none⟩) xs.length cp) b o) 26)).alloc (.cells (ltC s n r) 33)) (bl (noes 8)) 29
      rwa [World.size_alloc, World.size_alloc] at this
    have A1 := ((A0.alloc (.cells (plC (.slice (some ⟨G, 0, none⟩) xs.length cp) b o) 26)).alloc (.cells (ltC s n r) 33)).alloc (.cells (bl (noes 8)) 29)
    have B0 := Lib.hid (bnew (bnew (b0 w (.cells (plC (.slice (some ⟨G, 0, none⟩) xs.length cp) b o) 26)) (.cells (ltC s n r) 33)) (.cells (bl (noes 8)) 29))
    have SZ0 : (bl (noes 8)).size = 8 := by rw [bl_size, noes_len]
    have KR := refusalOf_any 24 #[.pointer (some ⟨w.heap.size, 0, none⟩), .pointer (some ⟨w.heap.size + 1, 0, none⟩)] (lpC xs b o s n r) (((w.alloc (.cells (plC (.slice (some ⟨G, 0, none⟩) xs.length cp) b o) 26)).alloc (.cells (ltC s n r) 33)).alloc (.cells (bl (noes 8)) 29)) (fun _ => by kernel_rfl) (fun w1 hb => LightPhase1Z_any cp zs w.heap.size (w.heap.size + 1) 26 33 G xs b o hW T s n r hlen w1 (P0.step hb) (L0.step hb) (A1.step hb))
    rw [lpC_no hok] at KR
    have EQ : Ending.returned (Value.tuple #[.agg (bl (noes 8)), .int .i64 1]) = .returned (.tuple #[.agg (bl (vLp xs b o s n r).1), .int .i64 (vLp xs b o s n r).2]) := by rw [vLp_no hok]
    go_enter Try.func11, Try.ntmps11
    go_wp2_with fail
    refine KR.mono ?_
    rintro e w1 ⟨rfl, hb1⟩
    have R1 := R0.step hb1
    have B1 := Lib.hid (bthen B0.out hb1)
    have P1 := P0.step hb1
    have L1 := L0.step hb1
    have A2 := A1.step hb1
    clear P0 L0 R0 A1 B0 hb1 KR A0
    have R9 := R1.setRow (bl (noes 8))
    have B9 := Lib.hid (bset B1.out (g := w.heap.size + 1 + 1) (by omega) (bl (noes 8)))
    go_wp2_with (((with_reducible refine is_store 29 _ _ rfl ?_); refine wpList_store_at rfl 29 _ _ rfl _ rfl (bl (noes 8)) rfl (bl (noes 8)) _ (by with_reducible assumption) 8 (SZ0) (by rw [bl_size, noes_len]) (by kernel_rfl) (bl_one _) ?_))
    exact bodyPost_ret (v := .tuple #[.agg (bl (noes 8)), .int .i64 1]) (results_at_tmp (p := 4) (ty := 29) rfl _ _ _ (bl (noes 8)) _ (.int .i64 1) rfl rfl R9 _ Try.underlying29 rfl 8 (SZ0) (by kernel_rfl)) rfl ⟨EQ, B9.out⟩
  · obtain ⟨hP, h1, h2⟩ := lpB_parts hok
    cases r
    · obtain ⟨k, rfl⟩ : ∃ k : Nat, s = k := ⟨s.toNat, by omega⟩
      have hkl : k < xs.length := by omega
      have kd : (k : Int) < (xs.length : Int) := h2
      have hb8 := (hW.at hkl).1
      have SS := slY_size (zs := zs) hW
      have hle : k * 9 + 8 ≤ (slY xs zs).size := by omega
      have hph := slY_phase (zs := zs) hW hkl (k := k * 9) rfl
      have SZ8 : (bl (sb xs k)).size = 8 := by rw [bl_size, hb8]
      clear SS
      have P0 : At (((w.alloc (.cells (plC (.slice (some ⟨G, 0, none⟩) xs.length cp) b o) 26)).alloc (.cells (ltC (k : Int) n false) 33)).alloc (.cells (bl (noes 8)) 29)) w.heap.size (plC (.slice (some ⟨G, 0, none⟩) xs.length cp) b o) 26 := ((At.new w _ _).alloc _).alloc _
      have L0 : At (((w.alloc (.cells (plC (.slice (some ⟨G, 0, none⟩) xs.length cp) b o) 26)).alloc (.cells (ltC (k : Int) n false) 33)).alloc (.cells (bl (noes 8)) 29)) (w.heap.size + 1) (ltC (k : Int) n false) 33 := (At.last1 w _ _ _).alloc _
      have R0 : At (((w.alloc (.cells (plC (.slice (some ⟨G, 0, none⟩) xs.length cp) b o) 26)).alloc (.cells (ltC (k : Int) n false) 33)).alloc (.cells (bl (noes 8)) 29)) (w.heap.size + 1 + 1) (bl (noes 8)) 29 := by
        have := At.new ((w.alloc (.cells (plC (.slice (some ⟨G, 0, none⟩) xs.length cp) b o) 26)).alloc (.cells (ltC (k : Int) n false) 33)) (bl (noes 8)) 29
        rwa [World.size_alloc, World.size_alloc] at this
      have A1 := ((A0.alloc (.cells (plC (.slice (some ⟨G, 0, none⟩) xs.length cp) b o) 26)).alloc (.cells (ltC (k : Int) n false) 33)).alloc (.cells (bl (noes 8)) 29)
      have B0 := Lib.hid (bnew (bnew (b0 w (.cells (plC (.slice (some ⟨G, 0, none⟩) xs.length cp) b o) 26)) (.cells (ltC (k : Int) n false) 33)) (.cells (bl (noes 8)) 29))
      have SZ0 : (bl (noes 8)).size = 8 := by rw [bl_size, noes_len]
      have KR := refusalOf_any 24 #[.pointer (some ⟨w.heap.size, 0, none⟩), .pointer (some ⟨w.heap.size + 1, 0, none⟩)] (lpC xs b o k n false) (((w.alloc (.cells (plC (.slice (some ⟨G, 0, none⟩) xs.length cp) b o) 26)).alloc (.cells (ltC (k : Int) n false) 33)).alloc (.cells (bl (noes 8)) 29)) (fun _ => by kernel_rfl) (fun w1 hb => LightPhase1Z_any cp zs w.heap.size (w.heap.size + 1) 26 33 G xs b o hW T k n false hlen w1 (P0.step hb) (L0.step hb) (A1.step hb))
      rw [lpC_yes hok] at KR
      have EQ : Ending.returned (Value.tuple #[.agg (bl (sb xs k)), .int .i64 0]) = .returned (.tuple #[.agg (bl (vLp xs b o k n false).1), .int .i64 (vLp xs b o k n false).2]) := by rw [vLp_gr hok]
      clear hP hok h1 h2
      go_enter Try.func11, Try.ntmps11
      go_wp2_with fail
      refine KR.mono ?_
      rintro e w1 ⟨rfl, hb1⟩
      have R1 := R0.step hb1
      have B1 := Lib.hid (bthen B0.out hb1)
      have P1 := P0.step hb1
      have L1 := L0.step hb1
      have A2 := A1.step hb1
      clear P0 L0 R0 A1 B0 hb1 KR A0
      have R9 := R1.setRow (bl (sb xs k))
      have B9 := Lib.hid (bset B1.out (g := w.heap.size + 1 + 1) (by omega) (bl (sb xs k)))
      go_wp2_with (first | ((with_reducible refine is_load 4 _ rfl ?_); refine wpList_load_cell rfl 4 _ rfl _ 2 rfl ((ltC (k : Int) n false)) _ (by with_reducible assumption) _ Try.underlying4 rfl (.bool false) (ltC_2 _ _ _) ?_) | ((with_reducible refine is_load 2 _ rfl ?_); refine wpList_load_cell rfl 2 _ rfl _ 0 rfl ((ltC (k : Int) n false)) _ (by with_reducible assumption) _ Try.underlying2 rfl (.int .i64 (k : Int)) (ltC_0 _ _ _) ?_) | ((with_reducible refine is_load 24 _ rfl ?_); refine wpList_load_cell rfl 24 _ rfl _ 0 rfl ((plC (.slice (some ⟨G, 0, none⟩) xs.length cp) b o)) _ (by with_reducible assumption) _ Try.underlying24 rfl ((.slice (some ⟨G, 0, none⟩) xs.length cp)) (plC_0 _ _ _) ?_) | ((with_reducible refine is_load 29 _ rfl ?_); refine wpList_load_part rfl 29 _ rfl _ (k * 9) rfl (slY xs zs) _ (by with_reducible assumption) 8 (hle) _ Try.underlying29 rfl (by kernel_rfl) (bl (sb xs k)) (hph) ?_) | ((with_reducible refine is_store 29 _ _ rfl ?_); refine wpList_store_at rfl 29 _ _ rfl _ rfl (bl (sb xs k)) rfl (bl (noes 8)) _ (by with_reducible assumption) 8 (SZ8) (by rw [bl_size, noes_len]) (by kernel_rfl) (bl_one _) ?_))
      exact bodyPost_ret (v := .tuple #[.agg (bl (sb xs k)), .int .i64 0]) (results_at_tmp (p := 4) (ty := 29) rfl _ _ _ (bl (sb xs k)) _ (.int .i64 0) rfl rfl R9 _ Try.underlying29 rfl 8 (SZ8) (by kernel_rfl)) rfl ⟨EQ, B9.out⟩
    · have P0 : At (((w.alloc (.cells (plC (.slice (some ⟨G, 0, none⟩) xs.length cp) b o) 26)).alloc (.cells (ltC s n true) 33)).alloc (.cells (bl (noes 8)) 29)) w.heap.size (plC (.slice (some ⟨G, 0, none⟩) xs.length cp) b o) 26 := ((At.new w _ _).alloc _).alloc _
      have L0 : At (((w.alloc (.cells (plC (.slice (some ⟨G, 0, none⟩) xs.length cp) b o) 26)).alloc (.cells (ltC s n true) 33)).alloc (.cells (bl (noes 8)) 29)) (w.heap.size + 1) (ltC s n true) 33 := (At.last1 w _ _ _).alloc _
      have R0 : At (((w.alloc (.cells (plC (.slice (some ⟨G, 0, none⟩) xs.length cp) b o) 26)).alloc (.cells (ltC s n true) 33)).alloc (.cells (bl (noes 8)) 29)) (w.heap.size + 1 + 1) (bl (noes 8)) 29 := by
        have := At.new ((w.alloc (.cells (plC (.slice (some ⟨G, 0, none⟩) xs.length cp) b o) 26)).alloc (.cells (ltC s n true) 33)) (bl (noes 8)) 29
        rwa [World.size_alloc, World.size_alloc] at this
      have A1 := ((A0.alloc (.cells (plC (.slice (some ⟨G, 0, none⟩) xs.length cp) b o) 26)).alloc (.cells (ltC s n true) 33)).alloc (.cells (bl (noes 8)) 29)
      have B0 := Lib.hid (bnew (bnew (b0 w (.cells (plC (.slice (some ⟨G, 0, none⟩) xs.length cp) b o) 26)) (.cells (ltC s n true) 33)) (.cells (bl (noes 8)) 29))
      have SZ0 : (bl (noes 8)).size = 8 := by rw [bl_size, noes_len]
      have KR := refusalOf_any 24 #[.pointer (some ⟨w.heap.size, 0, none⟩), .pointer (some ⟨w.heap.size + 1, 0, none⟩)] (lpC xs b o s n true) (((w.alloc (.cells (plC (.slice (some ⟨G, 0, none⟩) xs.length cp) b o) 26)).alloc (.cells (ltC s n true) 33)).alloc (.cells (bl (noes 8)) 29)) (fun _ => by kernel_rfl) (fun w1 hb => LightPhase1Z_any cp zs w.heap.size (w.heap.size + 1) 26 33 G xs b o hW T s n true hlen w1 (P0.step hb) (L0.step hb) (A1.step hb))
      rw [lpC_yes hok] at KR
      have EQ : Ending.returned (Value.tuple #[.agg (bl (noes 8)), .int .i64 0]) = .returned (.tuple #[.agg (bl (vLp xs b o s n true).1), .int .i64 (vLp xs b o s n true).2]) := by rw [vLp_red hok]
      clear hP hok h1 h2
      go_enter Try.func11, Try.ntmps11
      go_wp2_with fail
      refine KR.mono ?_
      rintro e w1 ⟨rfl, hb1⟩
      have R1 := R0.step hb1
      have B1 := Lib.hid (bthen B0.out hb1)
      have P1 := P0.step hb1
      have L1 := L0.step hb1
      have A2 := A1.step hb1
      clear P0 L0 R0 A1 B0 hb1 KR A0
      have R9 := R1.setRow (bl (noes 8))
      have B9 := Lib.hid (bset B1.out (g := w.heap.size + 1 + 1) (by omega) (bl (noes 8)))
      go_wp2_with (first | ((with_reducible refine is_load 4 _ rfl ?_); refine wpList_load_cell rfl 4 _ rfl _ 2 rfl ((ltC s n true)) _ (by with_reducible assumption) _ Try.underlying4 rfl (.bool true) (ltC_2 _ _ _) ?_) | ((with_reducible refine is_store 29 _ _ rfl ?_); refine wpList_store_at rfl 29 _ _ rfl _ rfl (bl (noes 8)) rfl (bl (noes 8)) _ (by with_reducible assumption) 8 (SZ0) (by rw [bl_size, noes_len]) (by kernel_rfl) (bl_one _) ?_))
      exact bodyPost_ret (v := .tuple #[.agg (bl (noes 8)), .int .i64 0]) (results_at_tmp (p := 4) (ty := 29) rfl _ _ _ (bl (noes 8)) _ (.int .i64 0) rfl rfl R9 _ Try.underlying29 rfl 8 (SZ0) (by kernel_rfl)) rfl ⟨EQ, B9.out⟩

set_option maxHeartbeats 1000000 in
theorem l04LightZ_any (cp : Nat) (zs : Array Value) (g g2 : Nat) (T' T2 : TypeId) (G : Nat) (xs : Slots) (b o : Int) (hW : SlW xs) (T : TypeId) (s n : Int) (r : Bool) (hlen : xs.length ≤ 1048576) (w : World) (P0 : At w g (plC (.slice (some ⟨G, 0, none⟩) xs.length cp) b o) T') (L0 : At w g2 (ltC s n r) T2) (A0 : At w G (slY xs zs) T) :
    Calls Try.prog 22 #[.pointer (some ⟨g, 0, none⟩), .pointer (some ⟨g2, 0, none⟩)] w fun e w' => e = .returned (.bool (lpB xs b o s n r)) ∧ Below w.heap.size w w' := by
  have KO := fun w' (hw' : Cb w w') => l04OkZ_any cp zs g T' G xs b o hW T w' (P0.step hw') (A0.step hw')
  have KS := fun w' (_ : Cb w w') => l00In_c s 0 ((xs.length : Int) - 1) w'
  have KN := fun w' (_ : Cb w w') => l00In_c n 0 1000000 w'
  have hC := Cb.const w
  have s1 : IntKind.i64.wrap ((xs.length : Int) - 1) = (xs.length : Int) - 1 := IntWalk.i64_in _ (by omega)
  clear A0 hW
  unfold lpB
  generalize okP xs b o = ok at KO
  generalize xs.length = m at *
  cases ok
  · have hv := Lib.hid (Bool.false_and (liB m b s n r))
    go_enter Try.func22, Try.ntmps22
    go_wp2
    refine wp_region_cb (by kernel_rfl) (by kernel_rfl) ?_
    repeat (first
      | go_big_quiet_skip
      | (go_big_quiet_want; first
        | (refine q_one 24 _ rfl _ Try.underlying24 rfl 0 rfl P0 _ (plC_0 _ _ _) ?_; go_simp; go_big_quiet_on)
        | (refine q_one 2 _ rfl _ Try.underlying2 rfl 1 rfl P0 _ (plC_1 _ _ _) ?_; go_simp; go_big_quiet_on)
        | (refine q_one 2 _ rfl _ Try.underlying2 rfl 0 rfl L0 _ (ltC_0 _ _ _) ?_; go_simp; go_big_quiet_on)
        | (refine q_one 2 _ rfl _ Try.underlying2 rfl 1 rfl L0 _ (ltC_1 _ _ _) ?_; go_simp; go_big_quiet_on)
        | (refine q_one 4 _ rfl _ Try.underlying4 rfl 2 rfl L0 _ (ltC_2 _ _ _) ?_; go_simp; go_big_quiet_on)
        | (go_big_quiet_op; go_big_quiet_on)
        | (go_big_quiet_op; apply Exists.intro; refine ⟨fun w' hw' => ?_, ?_⟩; (go_at_call 33; (with_reducible show Calls _ _ #[_] _ _); exact (KO w' hw').mono fun _ _ h => ⟨h.1, hw'.step h.2⟩); go_big_quiet_on)))
    refine wpQuiet_nil ?_
    intro w9 hw9
    go_wp2
    go_ret
    exact ⟨by rw [hv.out]; rfl, hw9⟩
  · by_cases h1 : 0 ≤ s ∧ s < (m : Int)
    · rw [inB_yes (by omega : 0 ≤ s ∧ s ≤ (m : Int) - 1)] at KS
      by_cases h2 : 0 ≤ n ∧ n ≤ 1000000
      · rw [inB_yes h2] at KN
        have hv0 := liB_3 (b := b) (r := r) h1 h2
        clear h1 h2
        cases r
        · have hv := Lib.hid (show (true && liB m b s n false) = true from by rw [hv0]; rfl)
          go_enter Try.func22, Try.ntmps22
          go_wp2
          refine wp_region_cb (by kernel_rfl) (by kernel_rfl) ?_
          repeat (first
            | go_big_quiet_skip
            | (go_big_quiet_want; first
              | (refine q_one 24 _ rfl _ Try.underlying24 rfl 0 rfl P0 _ (plC_0 _ _ _) ?_; go_simp; go_big_quiet_on)
              | (refine q_one 2 _ rfl _ Try.underlying2 rfl 1 rfl P0 _ (plC_1 _ _ _) ?_; go_simp; go_big_quiet_on)
              | (refine q_one 2 _ rfl _ Try.underlying2 rfl 0 rfl L0 _ (ltC_0 _ _ _) ?_; go_simp; go_big_quiet_on)
              | (refine q_one 2 _ rfl _ Try.underlying2 rfl 1 rfl L0 _ (ltC_1 _ _ _) ?_; go_simp; go_big_quiet_on)
              | (refine q_one 4 _ rfl _ Try.underlying4 rfl 2 rfl L0 _ (ltC_2 _ _ _) ?_; go_simp; go_big_quiet_on)
              | (go_big_quiet_op; go_big_quiet_on)
              | (go_big_quiet_op; apply Exists.intro; refine ⟨fun w' hw' => ?_, ?_⟩; (go_at_call 33; (with_reducible show Calls _ _ #[_] _ _); exact (KO w' hw').mono fun _ _ h => ⟨h.1, hw'.step h.2⟩); go_big_quiet_on)
              | (go_big_quiet_op; apply Exists.intro; refine ⟨fun w' hw' => ?_, ?_⟩; (go_at_call 23; (with_reducible show Calls _ _ #[.int .i64 s, _, _] _ _); exact (KS w' hw').mono fun _ _ h => ⟨h.1, hw'.step h.2⟩); go_big_quiet_on)
              | (go_big_quiet_op; apply Exists.intro; refine ⟨fun w' hw' => ?_, ?_⟩; (go_at_call 23; (with_reducible show Calls _ _ #[.int .i64 n, _, _] _ _); exact (KN w' hw').mono fun _ _ h => ⟨h.1, hw'.step h.2⟩); go_big_quiet_on)))
          refine wpQuiet_nil ?_
          intro w9 hw9
          go_wp2
          go_ret
          exact ⟨by rw [hv.out]; rfl, hw9⟩
        · by_cases h5 : b = 0
          · subst h5
            have hv := Lib.hid (show (true && liB m 0 s n true) = false from by rw [hv0]; rfl)
            go_enter Try.func22, Try.ntmps22
            go_wp2
            refine wp_region_cb (by kernel_rfl) (by kernel_rfl) ?_
            repeat (first
              | go_big_quiet_skip
              | (go_big_quiet_want; first
                | (refine q_one 24 _ rfl _ Try.underlying24 rfl 0 rfl P0 _ (plC_0 _ _ _) ?_; go_simp; go_big_quiet_on)
                | (refine q_one 2 _ rfl _ Try.underlying2 rfl 1 rfl P0 _ (plC_1 _ _ _) ?_; go_simp; go_big_quiet_on)
                | (refine q_one 2 _ rfl _ Try.underlying2 rfl 0 rfl L0 _ (ltC_0 _ _ _) ?_; go_simp; go_big_quiet_on)
                | (refine q_one 2 _ rfl _ Try.underlying2 rfl 1 rfl L0 _ (ltC_1 _ _ _) ?_; go_simp; go_big_quiet_on)
                | (refine q_one 4 _ rfl _ Try.underlying4 rfl 2 rfl L0 _ (ltC_2 _ _ _) ?_; go_simp; go_big_quiet_on)
                | (go_big_quiet_op; go_big_quiet_on)
                | (go_big_quiet_op; apply Exists.intro; refine ⟨fun w' hw' => ?_, ?_⟩; (go_at_call 33; (with_reducible show Calls _ _ #[_] _ _); exact (KO w' hw').mono fun _ _ h => ⟨h.1, hw'.step h.2⟩); go_big_quiet_on)
                | (go_big_quiet_op; apply Exists.intro; refine ⟨fun w' hw' => ?_, ?_⟩; (go_at_call 23; (with_reducible show Calls _ _ #[.int .i64 s, _, _] _ _); exact (KS w' hw').mono fun _ _ h => ⟨h.1, hw'.step h.2⟩); go_big_quiet_on)
                | (go_big_quiet_op; apply Exists.intro; refine ⟨fun w' hw' => ?_, ?_⟩; (go_at_call 23; (with_reducible show Calls _ _ #[.int .i64 n, _, _] _ _); exact (KN w' hw').mono fun _ _ h => ⟨h.1, hw'.step h.2⟩); go_big_quiet_on)))
            refine wpQuiet_nil ?_
            intro w9 hw9
            go_wp2
            go_ret
            exact ⟨by rw [hv.out]; rfl, hw9⟩
          · have hb : (b == 0) = false := by simpa using h5
            have hv1 : liB m b s n true = true := by rw [hv0, decide_eq_false h5]; rfl
            clear hv0 h5
            have hv := Lib.hid (show (true && liB m b s n true) = true from by rw [hv1]; rfl)
            go_enter Try.func22, Try.ntmps22
            go_wp2
            refine wp_region_cb (by kernel_rfl) (by kernel_rfl) ?_
            repeat (first
              | go_big_quiet_skip
              | (go_big_quiet_want; first
                | (refine q_one 24 _ rfl _ Try.underlying24 rfl 0 rfl P0 _ (plC_0 _ _ _) ?_; go_simp; go_big_quiet_on)
                | (refine q_one 2 _ rfl _ Try.underlying2 rfl 1 rfl P0 _ (plC_1 _ _ _) ?_; go_simp; go_big_quiet_on)
                | (refine q_one 2 _ rfl _ Try.underlying2 rfl 0 rfl L0 _ (ltC_0 _ _ _) ?_; go_simp; go_big_quiet_on)
                | (refine q_one 2 _ rfl _ Try.underlying2 rfl 1 rfl L0 _ (ltC_1 _ _ _) ?_; go_simp; go_big_quiet_on)
                | (refine q_one 4 _ rfl _ Try.underlying4 rfl 2 rfl L0 _ (ltC_2 _ _ _) ?_; go_simp; go_big_quiet_on)
                | (go_big_quiet_op; go_big_quiet_on)
                | (go_big_quiet_op; apply Exists.intro; refine ⟨fun w' hw' => ?_, ?_⟩; (go_at_call 33; (with_reducible show Calls _ _ #[_] _ _); exact (KO w' hw').mono fun _ _ h => ⟨h.1, hw'.step h.2⟩); go_big_quiet_on)
                | (go_big_quiet_op; apply Exists.intro; refine ⟨fun w' hw' => ?_, ?_⟩; (go_at_call 23; (with_reducible show Calls _ _ #[.int .i64 s, _, _] _ _); exact (KS w' hw').mono fun _ _ h => ⟨h.1, hw'.step h.2⟩); go_big_quiet_on)
                | (go_big_quiet_op; apply Exists.intro; refine ⟨fun w' hw' => ?_, ?_⟩; (go_at_call 23; (with_reducible show Calls _ _ #[.int .i64 n, _, _] _ _); exact (KN w' hw').mono fun _ _ h => ⟨h.1, hw'.step h.2⟩); go_big_quiet_on)))
            refine wpQuiet_nil ?_
            intro w9 hw9
            go_wp2
            go_ret
            exact ⟨by rw [hv.out]; rfl, hw9⟩
      · rw [inB_no h2] at KN
        have hv0 := liB_2 (m := m) (b := b) (s := s) (r := r) h2
        clear h1 h2
        have hv := Lib.hid (show (true && liB m b s n r) = false from by rw [hv0]; rfl)
        go_enter Try.func22, Try.ntmps22
        go_wp2
        refine wp_region_cb (by kernel_rfl) (by kernel_rfl) ?_
        repeat (first
          | go_big_quiet_skip
          | (go_big_quiet_want; first
            | (refine q_one 24 _ rfl _ Try.underlying24 rfl 0 rfl P0 _ (plC_0 _ _ _) ?_; go_simp; go_big_quiet_on)
            | (refine q_one 2 _ rfl _ Try.underlying2 rfl 1 rfl P0 _ (plC_1 _ _ _) ?_; go_simp; go_big_quiet_on)
            | (refine q_one 2 _ rfl _ Try.underlying2 rfl 0 rfl L0 _ (ltC_0 _ _ _) ?_; go_simp; go_big_quiet_on)
            | (refine q_one 2 _ rfl _ Try.underlying2 rfl 1 rfl L0 _ (ltC_1 _ _ _) ?_; go_simp; go_big_quiet_on)
            | (refine q_one 4 _ rfl _ Try.underlying4 rfl 2 rfl L0 _ (ltC_2 _ _ _) ?_; go_simp; go_big_quiet_on)
            | (go_big_quiet_op; go_big_quiet_on)
            | (go_big_quiet_op; apply Exists.intro; refine ⟨fun w' hw' => ?_, ?_⟩; (go_at_call 33; (with_reducible show Calls _ _ #[_] _ _); exact (KO w' hw').mono fun _ _ h => ⟨h.1, hw'.step h.2⟩); go_big_quiet_on)
            | (go_big_quiet_op; apply Exists.intro; refine ⟨fun w' hw' => ?_, ?_⟩; (go_at_call 23; (with_reducible show Calls _ _ #[.int .i64 s, _, _] _ _); exact (KS w' hw').mono fun _ _ h => ⟨h.1, hw'.step h.2⟩); go_big_quiet_on)
            | (go_big_quiet_op; apply Exists.intro; refine ⟨fun w' hw' => ?_, ?_⟩; (go_at_call 23; (with_reducible show Calls _ _ #[.int .i64 n, _, _] _ _); exact (KN w' hw').mono fun _ _ h => ⟨h.1, hw'.step h.2⟩); go_big_quiet_on)))
        refine wpQuiet_nil ?_
        intro w9 hw9
        go_wp2
        go_ret
        exact ⟨by rw [hv.out]; rfl, hw9⟩
    · rw [inB_no (by omega : ¬ (0 ≤ s ∧ s ≤ (m : Int) - 1))] at KS
      have hv0 := liB_1 (m := m) (b := b) (n := n) (r := r) h1
      clear h1
      have hv := Lib.hid (show (true && liB m b s n r) = false from by rw [hv0]; rfl)
      go_enter Try.func22, Try.ntmps22
      go_wp2
      refine wp_region_cb (by kernel_rfl) (by kernel_rfl) ?_
      repeat (first
        | go_big_quiet_skip
        | (go_big_quiet_want; first
          | (refine q_one 24 _ rfl _ Try.underlying24 rfl 0 rfl P0 _ (plC_0 _ _ _) ?_; go_simp; go_big_quiet_on)
          | (refine q_one 2 _ rfl _ Try.underlying2 rfl 1 rfl P0 _ (plC_1 _ _ _) ?_; go_simp; go_big_quiet_on)
          | (refine q_one 2 _ rfl _ Try.underlying2 rfl 0 rfl L0 _ (ltC_0 _ _ _) ?_; go_simp; go_big_quiet_on)
          | (refine q_one 2 _ rfl _ Try.underlying2 rfl 1 rfl L0 _ (ltC_1 _ _ _) ?_; go_simp; go_big_quiet_on)
          | (refine q_one 4 _ rfl _ Try.underlying4 rfl 2 rfl L0 _ (ltC_2 _ _ _) ?_; go_simp; go_big_quiet_on)
          | (go_big_quiet_op; go_big_quiet_on)
          | (go_big_quiet_op; apply Exists.intro; refine ⟨fun w' hw' => ?_, ?_⟩; (go_at_call 33; (with_reducible show Calls _ _ #[_] _ _); exact (KO w' hw').mono fun _ _ h => ⟨h.1, hw'.step h.2⟩); go_big_quiet_on)
          | (go_big_quiet_op; apply Exists.intro; refine ⟨fun w' hw' => ?_, ?_⟩; (go_at_call 23; (with_reducible show Calls _ _ #[.int .i64 s, _, _] _ _); exact (KS w' hw').mono fun _ _ h => ⟨h.1, hw'.step h.2⟩); go_big_quiet_on)))
      refine wpQuiet_nil ?_
      intro w9 hw9
      go_wp2
      go_ret
      exact ⟨by rw [hv.out]; rfl, hw9⟩

end Go.Proofs.Ytldchcjnepnjnaa
