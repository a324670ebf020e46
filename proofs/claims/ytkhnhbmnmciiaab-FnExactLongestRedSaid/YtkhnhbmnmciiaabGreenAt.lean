/-
  CONTRACTS: the phase at a tick: contracts.
-/
import Derived.Test.YtkhnhbmnmciiaabAtI
namespace Go.Proofs.Ytkhnhbmnmciiaab
open Go Go.ChangeShapes Go.WideShapes Go.ChangeAt Go.RowKit
set_option maxRecDepth 100000

theorem results_cell_tmp2 {fn : Func} {p u1 u2 : Tmp} {ty : TypeId} (h : fn.results = #[.cell p ty, .tmp u1, .tmp u2]) (tmps : Array Value) (P : Program) (w : World) :
    (results fn tmps).run P w = ((asAddr (tmps.getD p undef)).run P w).andThen fun a w₁ => ((loadVar ty a).run P w₁).andThen fun v w₂ => .ok (.tuple #[v, tmps.getD u1 undef, tmps.getD u2 undef]) w₂ := by
  simp only [results, h]
  simp [Sem.run_bind, Result.andThen]
theorem results_at2 {P : Program} {fn : Func} {p u1 u2 : Tmp} {ty : TypeId} (h : fn.results = #[.cell p ty, .tmp u1, .tmp u2]) (tmps : Array Value) (W : World) (g : Nat) (c : Array Value) (T : TypeId) (v1 v2 : Value) (hp : tmps.getD p undef = .pointer (some ⟨g, 0, none⟩))
    (h1 : tmps.getD u1 undef = v1) (h2 : tmps.getD u2 undef = v2) (hA : At W g c T)
    (d : TypeDesc) (hu : P.underlying ty = some d) (hd : (match d with | .struct _ | .array _ _ => true | _ => false) = true) (n : Nat) (hn : c.size = n) (hi : (P.info? ty).map (·.size) = some n) :
    (results fn tmps).run P W = .ok (.tuple #[.agg c, v1, v2]) W := by
  rw [results_cell_tmp2 h, hp, h1, h2]
  have := run_loadVar_row (P := P) W g T ty c (0, 0) d hA hu hd (by rw [hn]; exact hi)
  simp only [asAddr, Sem.run_pure, Result.andThen_ok, this]
/-- the code of a plan and a tick -/
def gC (xs : Slots) (b o k : Int) : Int := if okP xs b o then (if inB 0 1000000000 k then 0 else 2) else 1
theorem gC_no {xs : Slots} {b o k : Int} (h : okP xs b o = false) : gC xs b o k = 1 := by unfold gC; rw [h]; rfl
theorem gC_bad {xs : Slots} {b o k : Int} (h : okP xs b o = true) (hk : inB 0 1000000000 k = false) : gC xs b o k = 2 := by unfold gC; rw [h, hk]; rfl
theorem gC_yes {xs : Slots} {b o k : Int} (h : okP xs b o = true) (hk : inB 0 1000000000 k = true) : gC xs b o k = 0 := by unfold gC; rw [h, hk]; rfl
/-- a phase, what is left, and a code -/
def vGr (xs : Slots) (b o k : Int) : List Bool × Int × Int := if gC xs b o k = 0 then ((atS b xs ((k - o) % cyc xs b)).1, (atS b xs ((k - o) % cyc xs b)).2, 0) else (noes 8, 0, gC xs b o k)
theorem vGr_yes {xs : Slots} {b o k : Int} (h : gC xs b o k = 0) : vGr xs b o k = ((atS b xs ((k - o) % cyc xs b)).1, (atS b xs ((k - o) % cyc xs b)).2, 0) := by unfold vGr; rw [if_pos h]
theorem vGr_no {xs : Slots} {b o k : Int} (h : gC xs b o k ≠ 0) : vGr xs b o k = (noes 8, 0, gC xs b o k) := by unfold vGr; rw [if_neg h]
theorem vGr_len {xs : Slots} {b o k : Int} (hW : SlW xs) : (vGr xs b o k).1.length = 8 := by
  unfold vGr
  split
  · exact atS_len hW
  · exact noes_len 8
theorem okC_zero {xs : Slots} {b o : Int} (h : okC xs b o = 0) : okP xs b o = true := by
  cases hk : okP xs b o
  · rw [okC_no hk] at h; cases h
  · rfl
theorem okC_not {xs : Slots} {b o : Int} (h : okC xs b o ≠ 0) : okP xs b o = false := by
  cases hk : okP xs b o
  · rfl
  · rw [okC_yes hk] at h; exact absurd rfl h

theorem GreenAt1_any (g1 g2 : Nat) (T1 T2 : TypeId) (G : Nat) (xs : Slots) (b o : Int) (hW : SlW xs) (T : TypeId) (k : Int) (w : World) (P0 : At w g1 (plC (.slice (some ⟨G, 0, none⟩) xs.length xs.length) b o) T1) (K0 : At w g2 #[.int .i64 k] T2) (A0 : At w G (slC xs) T) :
    Calls Try.prog 73 #[.pointer (some ⟨g1, 0, none⟩), .pointer (some ⟨g2, 0, none⟩)] w fun e w' => Chk (gC xs b o k) e ∧ Below w.heap.size w w' := by
  have KN := needPlan_any G xs b o hW T w A0
  go_enter Try.func73, Try.ntmps73
  go_wp2_with (((with_reducible refine is_load 29 _ rfl ?_); refine wpList_load_at rfl 29 _ rfl _ rfl ((plC (.slice (some ⟨G, 0, none⟩) xs.length xs.length) b o)) _ (by with_reducible assumption) 3 (plC_size _ _ _) _ Try.underlying29 rfl (by kernel_rfl) ?_))
  refine KN.mono ?_
  rintro e w1 ⟨⟨h, rfl⟩ | ⟨h, x, hx, rfl⟩, hb1⟩
  · have hok := okC_zero h
    have K1 := K0.step hb1
    have kc : w1.cell? ⟨g2, 0, none⟩ = some (.int .i64 k) := K1.cell rfl
    have B1 := Lib.hid hb1
    clear P0 K0 A0 KN hb1 K1
    have KT := isTick_b k w1
    cases ht : inB 0 1000000000 k
    · rw [ht] at KT
      have hg := gC_bad hok ht
      go_wp2_with fail
      refine KT.mono ?_
      rintro e w2 ⟨rfl, n2, rfl⟩
      go_wp2_with fail
      refine (need_bad 2 _).mono ?_
      rintro e w3 ⟨rfl, rfl⟩
      go_wp2_with fail
      exact ⟨rfl, .inr ⟨by rw [hg]; decide, _, .inl (by rw [hg]), rfl⟩, bdrew B1.out _⟩
    · rw [ht] at KT
      have hg := gC_yes hok ht
      go_wp2_with fail
      refine KT.mono ?_
      rintro e w2 ⟨rfl, n2, rfl⟩
      go_wp2_with fail
      refine (need_ok 2 _).mono ?_
      rintro e w3 ⟨rfl, rfl⟩
      go_wp2_with fail
      go_end0
      exact ⟨.inl ⟨hg, rfl⟩, bdrew B1.out _⟩
  · have hno := okC_not h
    rw [okC_no hno] at hx h
    have hg := gC_no (k := k) hno
    go_wp2_with fail
    exact ⟨rfl, .inr ⟨by rw [hg]; decide, x, by rw [hg]; exact hx, rfl⟩, hb1⟩

set_option maxHeartbeats 400000 in
theorem GreenAt_any (G : Nat) (xs : Slots) (b o : Int) (hW : SlW xs) (T : TypeId) (k : Int) (_hk : I64 k) (w : World) (A0 : At w G (slC xs) T) :
    Calls Try.prog 23 #[.agg (plC (.slice (some ⟨G, 0, none⟩) xs.length xs.length) b o), .int .i64 k] w fun e w' => e = .returned (.tuple #[.agg (bl (vGr xs b o k).1), .int .i64 (vGr xs b o k).2.1, .int .i64 (vGr xs b o k).2.2]) ∧ Below w.heap.size w w' := by
  have hmf : ∀ (fn : Fn) (first cap : Array Value) (w : World), (Instr.makeFunc fn first cap).run Try.prog w = .ok (.func fn first cap) w := fun _ _ _ _ => rfl
  clear _hk
  have P0 : At (((w.alloc (.cells (plC (.slice (some ⟨G, 0, none⟩) xs.length xs.length) b o) 29)).alloc (.cells #[.int .i64 k] 2)).alloc (.cells (bl (noes 8)) 36)) w.heap.size (plC (.slice (some ⟨G, 0, none⟩) xs.length xs.length) b o) 29 := ((At.new w _ _).alloc _).alloc _
  have K0 : At (((w.alloc (.cells (plC (.slice (some ⟨G, 0, none⟩) xs.length xs.length) b o) 29)).alloc (.cells #[.int .i64 k] 2)).alloc (.cells (bl (noes 8)) 36)) (w.heap.size + 1) #[.int .i64 k] 2 := (At.last1 w _ _ _).alloc _
  have R0 : At (((w.alloc (.cells (plC (.slice (some ⟨G, 0, none⟩) xs.length xs.length) b o) 29)).alloc (.cells #[.int .i64 k] 2)).alloc (.cells (bl (noes 8)) 36)) (w.heap.size + 1 + 1) (bl (noes 8)) 36 := by
    have := At.new ((w.alloc (.cells (plC (.slice (some ⟨G, 0, none⟩) xs.length xs.length) b o) 29)).alloc (.cells #[.int .i64 k] 2)) (bl (noes 8)) 36
    rwa [World.size_alloc, World.size_alloc] at this
  have A1 := ((A0.alloc (.cells (plC (.slice (some ⟨G, 0, none⟩) xs.length xs.length) b o) 29)).alloc (.cells #[.int .i64 k] 2)).alloc (.cells (bl (noes 8)) 36)
  have B0 := Lib.hid (bnew (bnew (b0 w (.cells (plC (.slice (some ⟨G, 0, none⟩) xs.length xs.length) b o) 29)) (.cells #[.int .i64 k] 2)) (.cells (bl (noes 8)) 36))
  have KR := refusalOf_any 73 #[.pointer (some ⟨w.heap.size, 0, none⟩), .pointer (some ⟨w.heap.size + 1, 0, none⟩)] (gC xs b o k) (((w.alloc (.cells (plC (.slice (some ⟨G, 0, none⟩) xs.length xs.length) b o) 29)).alloc (.cells #[.int .i64 k] 2)).alloc (.cells (bl (noes 8)) 36)) (fun _ => by kernel_rfl) (fun w1 hb => GreenAt1_any w.heap.size (w.heap.size + 1) 29 2 G xs b o hW T k w1 (P0.step hb) (K0.step hb) (A1.step hb))
  have SZ0 : (bl (noes 8)).size = 8 := by rw [bl_size, noes_len]
  by_cases hg : gC xs b o k = 0
  · rw [hg] at KR
    have hok : okP xs b o = true := by
      cases hk : okP xs b o
      · rw [gC_no hk] at hg; cases hg
      · rfl
    have hkr : 0 ≤ k ∧ k ≤ 1000000000 := by
      cases hk : inB 0 1000000000 k
      · rw [gC_bad hok hk] at hg; cases hg
      · simpa [inB] using hk
    have KG := fun wr hA => greenAt_any G xs b o hW T hok k ⟨hkr.1, by omega⟩ wr hA
    have EQ' := vGr_yes hg
    have SZV : (bl ((atS b xs ((k - o) % cyc xs b)).1)).size = 8 := by rw [bl_size, atS_len hW]
    generalize (atS b xs ((k - o) % cyc xs b)).1 = rw8 at KG EQ' SZV
    generalize (atS b xs ((k - o) % cyc xs b)).2 = lf at KG EQ'
    have EQ : Ending.returned (Value.tuple #[.agg (bl rw8), .int .i64 lf, .int .i64 0]) = .returned (.tuple #[.agg (bl (vGr xs b o k).1), .int .i64 (vGr xs b o k).2.1, .int .i64 (vGr xs b o k).2.2]) := by rw [EQ']
    clear EQ' hg hok hkr A0
    go_enter Try.func23, Try.ntmps23
    go_wp2_with fail
    refine KR.mono ?_
    rintro e w1 ⟨rfl, hb1⟩
    have P1 := P0.step hb1
    have K1 := K0.step hb1
    have R1 := R0.step hb1
    have A2 := A1.step hb1
    have B1 := Lib.hid (bthen B0.out hb1)
    have KG1 := KG w1 A2
    clear P0 K0 R0 A1 B0 hb1 KR KG
    go_wp2_with (first | ((with_reducible refine is_load 29 _ rfl ?_); refine wpList_load_at rfl 29 _ rfl _ rfl ((plC (.slice (some ⟨G, 0, none⟩) xs.length xs.length) b o)) _ (by with_reducible assumption) 3 (plC_size _ _ _) _ Try.underlying29 rfl (by kernel_rfl) ?_) | ((with_reducible refine is_load 2 _ rfl ?_); refine wpList_load_cell rfl 2 _ rfl _ 0 rfl (#[.int .i64 k]) _ (by with_reducible assumption) _ Try.underlying2 rfl (.int .i64 k) (rfl) ?_))
    refine KG1.mono ?_
    rintro e w2 ⟨rfl, hb2⟩
    have R2 := R1.step hb2
    have B2 := Lib.hid (bthen B1.out hb2)
    clear P1 K1 R1 A2 B1 hb2 KG1
    have N0 := At.new w2 #[.bool false, .bool false, .bool false, .bool false, .bool false, .bool false, .bool false, .bool false] 36
    have N1 := N0.setRow (bl rw8)
    have R3 := (R2.alloc (.cells #[.bool false, .bool false, .bool false, .bool false, .bool false, .bool false, .bool false, .bool false] 36)).setRow_other (k := w2.heap.size) (Nat.ne_of_lt R2.lt) (bl rw8)
    have B3 := Lib.hid (bset (bnew B2.out (.cells #[.bool false, .bool false, .bool false, .bool false, .bool false, .bool false, .bool false, .bool false] 36)) (g := w2.heap.size) B2.out.size (bl rw8))
    have R9 := R3.setRow (bl rw8)
    have B9 := Lib.hid (bset B3.out (g := w.heap.size + 1 + 1) (by omega) (bl rw8))
    clear R2 B2
    go_wp2_with (first | ((with_reducible refine is_store 36 _ _ rfl ?_); refine wpList_store_at rfl 36 _ _ rfl _ rfl (bl rw8) rfl (#[.bool false, .bool false, .bool false, .bool false, .bool false, .bool false, .bool false, .bool false]) _ (by with_reducible assumption) 8 (SZV) (rfl) (by kernel_rfl) (bl_one _) ?_) | ((with_reducible refine is_store 36 _ _ rfl ?_); refine wpList_store_at rfl 36 _ _ rfl _ rfl (bl rw8) rfl (bl (noes 8)) _ (by with_reducible assumption) 8 (SZV) (SZ0) (by kernel_rfl) (bl_one _) ?_) | ((with_reducible refine is_load 36 _ rfl ?_); refine wpList_load_at rfl 36 _ rfl _ rfl (bl rw8) _ (by with_reducible assumption) 8 (SZV) _ Try.underlying36 rfl (by kernel_rfl) ?_))
    exact bodyPost_ret (v := .tuple #[.agg (bl rw8), .int .i64 lf, .int .i64 0]) (results_at2 (p := 4) (ty := 36) rfl _ _ _ (bl rw8) _ (.int .i64 lf) (.int .i64 0) rfl rfl rfl R9 _ Try.underlying36 rfl 8 (SZV) (by kernel_rfl)) rfl ⟨EQ, B9.out⟩
  · have EQ : Ending.returned (Value.tuple #[.agg (bl (noes 8)), .int .i64 0, .int .i64 (gC xs b o k)]) = .returned (.tuple #[.agg (bl (vGr xs b o k).1), .int .i64 (vGr xs b o k).2.1, .int .i64 (vGr xs b o k).2.2]) := by rw [vGr_no hg]
    generalize hgg : gC xs b o k = cc at KR hg
    rw [hgg] at EQ
    have hne : (cc != 0) = true := by simpa using hg
    go_enter Try.func23, Try.ntmps23
    go_wp2_with fail
    refine KR.mono ?_
    rintro e w1 ⟨rfl, hb1⟩
    have R1 := R0.step hb1
    have B1 := Lib.hid (bthen B0.out hb1)
    clear P0 K0 R0 A1 B0 hb1 KR A0
    have R9 := R1.setRow (bl (noes 8))
    have B9 := Lib.hid (bset B1.out (g := w.heap.size + 1 + 1) (by omega) (bl (noes 8)))
    go_wp2_with (((with_reducible refine is_store 36 _ _ rfl ?_); refine wpList_store_at rfl 36 _ _ rfl _ rfl (bl (noes 8)) rfl (bl (noes 8)) _ (by with_reducible assumption) 8 (SZ0) (by rw [bl_size, noes_len]) (by kernel_rfl) (bl_one _) ?_))
    exact bodyPost_ret (v := .tuple #[.agg (bl (noes 8)), .int .i64 0, .int .i64 cc]) (results_at2 (p := 4) (ty := 36) rfl _ _ _ (bl (noes 8)) _ (.int .i64 0) (.int .i64 cc) rfl rfl rfl R9 _ Try.underlying36 rfl 8 (SZ0) (by kernel_rfl)) rfl ⟨EQ, B9.out⟩

set_option maxHeartbeats 400000 in
theorem sGreenAt_any (G : Nat) (xs : Slots) (b o : Int) (hW : SlW xs) (T : TypeId) (k : Int) (_hk : I64 k) (w : World) (A0 : At w G (slC xs) T) :
    Calls Try.prog 22 #[.agg (plC (.slice (some ⟨G, 0, none⟩) xs.length xs.length) b o), .int .i64 k] w fun e w' => e = .returned (.tuple #[.agg (bl (vGr xs b o k).1), .int .i64 (vGr xs b o k).2.1, .int .i64 (vGr xs b o k).2.2]) ∧ Below w.heap.size w w' := by
  clear _hk
  have P0 : At ((w.alloc (.cells (plC (.slice (some ⟨G, 0, none⟩) xs.length xs.length) b o) 29)).alloc (.cells (bl (noes 8)) 36)) w.heap.size (plC (.slice (some ⟨G, 0, none⟩) xs.length xs.length) b o) 29 := (At.new w _ _).alloc _
  have R0 : At ((w.alloc (.cells (plC (.slice (some ⟨G, 0, none⟩) xs.length xs.length) b o) 29)).alloc (.cells (bl (noes 8)) 36)) (w.heap.size + 1) (bl (noes 8)) 36 := At.last1 w _ _ _
  have A1 := (A0.alloc (.cells (plC (.slice (some ⟨G, 0, none⟩) xs.length xs.length) b o) 29)).alloc (.cells (bl (noes 8)) 36)
  have B0 := Lib.hid (bnew (b0 w (.cells (plC (.slice (some ⟨G, 0, none⟩) xs.length xs.length) b o) 29)) (.cells (bl (noes 8)) 36))
  have KO := l04Ok_any w.heap.size 29 G xs b o hW T _ P0 A1
  have SZ0 : (bl (noes 8)).size = 8 := by rw [bl_size, noes_len]
  cases hok : okP xs b o
  · rw [hok] at KO
    have hg := gC_no (k := k) hok
    have EQ : Ending.returned (Value.tuple #[.agg (bl (noes 8)), .int .i64 0, .int .i64 1]) = .returned (.tuple #[.agg (bl (vGr xs b o k).1), .int .i64 (vGr xs b o k).2.1, .int .i64 (vGr xs b o k).2.2]) := by rw [vGr_no (by rw [hg]; decide), hg]
    go_enter Try.func22, Try.ntmps22
    go_wp2_with fail
    refine KO.mono ?_
    rintro e w1 ⟨rfl, hb1⟩
    have R1 := R0.step hb1
    have B1 := Lib.hid (bthen B0.out hb1)
    clear P0 R0 A1 B0 hb1 KO A0
    have R9 := R1.setRow (bl (noes 8))
    have B9 := Lib.hid (bset B1.out (g := w.heap.size + 1) (by omega) (bl (noes 8)))
    go_wp2_with (((with_reducible refine is_store 36 _ _ rfl ?_); refine wpList_store_at rfl 36 _ _ rfl _ rfl (bl (noes 8)) rfl (bl (noes 8)) _ (by with_reducible assumption) 8 (SZ0) (by rw [bl_size, noes_len]) (by kernel_rfl) (bl_one _) ?_))
    exact bodyPost_ret (v := .tuple #[.agg (bl (noes 8)), .int .i64 0, .int .i64 1]) (results_at2 (p := 4) (ty := 36) rfl _ _ _ (bl (noes 8)) _ (.int .i64 0) (.int .i64 1) rfl rfl rfl R9 _ Try.underlying36 rfl 8 (SZ0) (by kernel_rfl)) rfl ⟨EQ, B9.out⟩
  · rw [hok] at KO
    go_enter Try.func22, Try.ntmps22
    go_wp2_with fail
    refine KO.mono ?_
    rintro e w1 ⟨rfl, hb1⟩
    have P1 := P0.step hb1
    have R1 := R0.step hb1
    have A2 := A1.step hb1
    have B1 := Lib.hid (bthen B0.out hb1)
    clear P0 R0 A1 B0 hb1 KO A0
    have KT := l04Tick_b k w1
    cases ht : inB 0 1000000000 k
    · rw [ht] at KT
      have hg := gC_bad hok ht
      have EQ : Ending.returned (Value.tuple #[.agg (bl (noes 8)), .int .i64 0, .int .i64 2]) = .returned (.tuple #[.agg (bl (vGr xs b o k).1), .int .i64 (vGr xs b o k).2.1, .int .i64 (vGr xs b o k).2.2]) := by rw [vGr_no (by rw [hg]; decide), hg]
      go_wp2_with fail
      refine KT.mono ?_
      rintro e w2 ⟨rfl, n2, rfl⟩
      have R2 := R1.drewN n2
      have B2 := Lib.hid (bdrew B1.out n2)
      have R9 := R2.setRow (bl (noes 8))
      have B9 := Lib.hid (bset B2.out (g := w.heap.size + 1) (by omega) (bl (noes 8)))
      clear R1 B1 P1 A2 KT
      go_wp2_with (((with_reducible refine is_store 36 _ _ rfl ?_); refine wpList_store_at rfl 36 _ _ rfl _ rfl (bl (noes 8)) rfl (bl (noes 8)) _ (by with_reducible assumption) 8 (SZ0) (by rw [bl_size, noes_len]) (by kernel_rfl) (bl_one _) ?_))
      exact bodyPost_ret (v := .tuple #[.agg (bl (noes 8)), .int .i64 0, .int .i64 2]) (results_at2 (p := 4) (ty := 36) rfl _ _ _ (bl (noes 8)) _ (.int .i64 0) (.int .i64 2) rfl rfl rfl R9 _ Try.underlying36 rfl 8 (SZ0) (by kernel_rfl)) rfl ⟨EQ, B9.out⟩
    · rw [ht] at KT
      have hg := gC_yes hok ht
      have hkr : 0 ≤ k ∧ k ≤ 1000000000 := by simpa [inB] using ht
      obtain ⟨hl, hb, htk, hc, ho⟩ := okP_parts hok
      have KP := fun wr hP hA => l04Place_any w.heap.size 29 G xs b o hW T hok k ⟨hkr.1, by omega⟩ wr hP hA
      have hr1 := Int.emod_nonneg (k - o) (show cyc xs b ≠ 0 by omega)
      have hr2 := Int.emod_lt_of_pos (k - o) (show 0 < cyc xs b by omega)
      have KA := fun wr hP hA => l04At_any w.heap.size 29 G xs b o hW T hl.2 hb htk ((k - o) % cyc xs b) ⟨hr1, by omega⟩ wr hP hA
      have EQ' := vGr_yes hg
      have SZV : (bl ((atS b xs ((k - o) % cyc xs b)).1)).size = 8 := by rw [bl_size, atS_len hW]
      generalize (k - o) % cyc xs b = c0 at KP KA EQ' SZV
      generalize (atS b xs c0).1 = rw8 at KA EQ' SZV
      generalize (atS b xs c0).2 = lf at KA EQ'
      have EQ : Ending.returned (Value.tuple #[.agg (bl rw8), .int .i64 lf, .int .i64 0]) = .returned (.tuple #[.agg (bl (vGr xs b o k).1), .int .i64 (vGr xs b o k).2.1, .int .i64 (vGr xs b o k).2.2]) := by rw [EQ']
      clear EQ' hg hkr ht hl hb htk hc ho hr1 hr2 hok
      go_wp2_with fail
      refine KT.mono ?_
      rintro e w2 ⟨rfl, n2, rfl⟩
      have P2 := P1.drewN n2
      have R2 := R1.drewN n2
      have A3 := A2.drewN n2
      have B2 := Lib.hid (bdrew B1.out n2)
      have KP1 := KP _ P2 A3
      clear P1 R1 A2 B1 KT KP
      go_wp2_with fail
      refine KP1.mono ?_
      rintro e w3 ⟨rfl, hb3⟩
      have P3 := P2.step hb3
      have R3 := R2.step hb3
      have A4 := A3.step hb3
      have B3 := Lib.hid (bthen B2.out hb3)
      have KA1 := KA _ P3 A4
      clear P2 R2 A3 B2 KP1 KA hb3
      go_wp2_with fail
      refine KA1.mono ?_
      rintro e w4 ⟨rfl, hb4⟩
      have R4 := R3.step hb4
      have B4 := Lib.hid (bthen B3.out hb4)
      clear P3 R3 A4 B3 KA1 hb4
      have N0 := At.new w4 #[.bool false, .bool false, .bool false, .bool false, .bool false, .bool false, .bool false, .bool false] 36
      have N1 := N0.setRow (bl rw8)
      have R5 := (R4.alloc (.cells #[.bool false, .bool false, .bool false, .bool false, .bool false, .bool false, .bool false, .bool false] 36)).setRow_other (k := w4.heap.size) (Nat.ne_of_lt R4.lt) (bl rw8)
      have B5 := Lib.hid (bset (bnew B4.out (.cells #[.bool false, .bool false, .bool false, .bool false, .bool false, .bool false, .bool false, .bool false] 36)) (g := w4.heap.size) B4.out.size (bl rw8))
      have R9 := R5.setRow (bl rw8)
      have B9 := Lib.hid (bset B5.out (g := w.heap.size + 1) (by omega) (bl rw8))
      clear R4 B4
      go_wp2_with (first | ((with_reducible refine is_store 36 _ _ rfl ?_); refine wpList_store_at rfl 36 _ _ rfl _ rfl (bl rw8) rfl (#[.bool false, .bool false, .bool false, .bool false, .bool false, .bool false, .bool false, .bool false]) _ (by with_reducible assumption) 8 (SZV) (rfl) (by kernel_rfl) (bl_one _) ?_) | ((with_reducible refine is_store 36 _ _ rfl ?_); refine wpList_store_at rfl 36 _ _ rfl _ rfl (bl rw8) rfl (bl (noes 8)) _ (by with_reducible assumption) 8 (SZV) (SZ0) (by kernel_rfl) (bl_one _) ?_) | ((with_reducible refine is_load 36 _ rfl ?_); refine wpList_load_at rfl 36 _ rfl _ rfl (bl rw8) _ (by with_reducible assumption) 8 (SZV) _ Try.underlying36 rfl (by kernel_rfl) ?_))
      exact bodyPost_ret (v := .tuple #[.agg (bl rw8), .int .i64 lf, .int .i64 0]) (results_at2 (p := 4) (ty := 36) rfl _ _ _ (bl rw8) _ (.int .i64 lf) (.int .i64 0) rfl rfl rfl R9 _ Try.underlying36 rfl 8 (SZV) (by kernel_rfl)) rfl ⟨EQ, B9.out⟩

end Go.Proofs.Ytkhnhbmnmciiaab
