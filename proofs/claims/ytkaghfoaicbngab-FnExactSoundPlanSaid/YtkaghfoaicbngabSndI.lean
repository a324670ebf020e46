/-
  CONTRACTS: the program's SoundPlan.
-/
import Derived.Test.YtkaghfoaicbngabSndS
import Derived.Test.YtkaghfoaicbngabNeedP
import Derived.Test.YtkaghfoaicbngabGreenAt
namespace Go.Proofs.Ytkaghfoaicbngab
open Go Go.ChangeShapes Go.WideShapes Go.ChangeAt Go.RowKit
set_option maxRecDepth 100000

/-- the code of a table and a plan -/
def sC (ts : List Bool) (xs : Slots) (b o : Int) : Int := if okT ts && okP xs b o then 0 else 1

theorem sC_yes {ts : List Bool} {xs : Slots} {b o : Int} (h : (okT ts && okP xs b o) = true) : sC ts xs b o = 0 := by unfold sC; rw [if_pos h]

theorem sC_no {ts : List Bool} {xs : Slots} {b o : Int} (h : (okT ts && okP xs b o) = false) : sC ts xs b o = 1 := by unfold sC; rw [h]; rfl

theorem SoundPlan1_any (g1 g2 : Nat) (T1 T2 : TypeId) (ts : List Bool) (hl : ts.length = 64) (G : Nat) (xs : Slots) (b o : Int) (hW : SlW xs) (T : TypeId) (w : World) (T0 : At w g1 (bl ts) T1) (P0 : At w g2 (plC (.slice (some ⟨G, 0, none⟩) xs.length xs.length) b o) T2) (A0 : At w G (slC xs) T) :
    Calls Try.prog 60 #[.pointer (some ⟨g1, 0, none⟩), .pointer (some ⟨g2, 0, none⟩)] w fun e w' => Chk (sC ts xs b o) e ∧ Below w.heap.size w w' := by
  have KV := ValidTable_any ts hl w
  cases hT : okT ts
  · rw [hT] at KV
    have hc := sC_no (show (okT ts && okP xs b o) = false from by rw [hT]; rfl)
    go_enter Try.func60, Try.ntmps60
    go_wp2_with (((with_reducible refine is_load 45 _ rfl ?_); refine wpList_load_at rfl 45 _ rfl _ rfl (bl ts) _ (by with_reducible assumption) 64 (by rw [bl_size, hl]) _ Try.underlying45 rfl (by kernel_rfl) ?_))
    refine KV.mono ?_
    rintro e w1 ⟨rfl, hb1⟩
    have B1 := Lib.hid hb1
    clear T0 P0 A0 KV hb1
    go_wp2_with fail
    refine (need_bad 1 _).mono ?_
    rintro e w3 ⟨rfl, rfl⟩
    go_wp2_with fail
    exact ⟨rfl, .inr ⟨by rw [hc]; decide, _, .inl (by rw [hc]), rfl⟩, B1.out⟩
  · rw [hT] at KV
    go_enter Try.func60, Try.ntmps60
    go_wp2_with (((with_reducible refine is_load 45 _ rfl ?_); refine wpList_load_at rfl 45 _ rfl _ rfl (bl ts) _ (by with_reducible assumption) 64 (by rw [bl_size, hl]) _ Try.underlying45 rfl (by kernel_rfl) ?_))
    refine KV.mono ?_
    rintro e w1 ⟨rfl, hb1⟩
    have P1 := P0.step hb1
    have A1 := A0.step hb1
    have B1 := Lib.hid hb1
    clear T0 P0 A0 KV hb1
    have KN := needPlan_any G xs b o hW T w1 A1
    go_wp2_with fail
    refine (need_ok 1 _).mono ?_
    rintro e w3 ⟨rfl, rfl⟩
    go_wp2_with (((with_reducible refine is_load 49 _ rfl ?_); refine wpList_load_at rfl 49 _ rfl _ rfl ((plC (.slice (some ⟨G, 0, none⟩) xs.length xs.length) b o)) _ (by with_reducible assumption) 3 (plC_size _ _ _) _ Try.underlying49 rfl (by kernel_rfl) ?_))
    refine KN.mono ?_
    rintro e w4 ⟨⟨h, rfl⟩ | ⟨h, x, hx, rfl⟩, hb4⟩
    · have hok := okC_zero h
      have hc := sC_yes (show (okT ts && okP xs b o) = true from by rw [hT, hok]; rfl)
      clear KN P1 A1
      go_wp2
      go_end0
      exact ⟨.inl ⟨hc, rfl⟩, bthen B1.out hb4⟩
    · have hok := okC_not h
      have hc := sC_no (show (okT ts && okP xs b o) = false from by rw [hok, Bool.and_false])
      rw [okC_no hok] at hx
      clear KN P1 A1
      go_wp2
      exact ⟨rfl, .inr ⟨by rw [hc]; decide, x, by rw [hc]; exact hx, rfl⟩, bthen B1.out hb4⟩

set_option maxHeartbeats 1000000 in
theorem SoundPlan_any (ts : List Bool) (hl : ts.length = 64) (G : Nat) (xs : Slots) (b o : Int) (hW : SlW xs) (hn : xs.length ≤ 1048576) (T : TypeId) (w : World) (A0 : At w G (slC xs) T) :
    Calls Try.prog 25 #[.agg (bl ts), .agg (plC (.slice (some ⟨G, 0, none⟩) xs.length xs.length) b o)] w fun e w' => e = .returned (.tuple #[.int .i64 (vSnd ts xs b o).1, .int .i64 (vSnd ts xs b o).2.1, .int .i64 (vSnd ts xs b o).2.2.1, .int .i64 (vSnd ts xs b o).2.2.2]) ∧ Below w.heap.size w w' := by
  have hmf : ∀ (fn : Fn) (first cap : Array Value) (w : World), (Instr.makeFunc fn first cap).run Try.prog w = .ok (.func fn first cap) w := fun _ _ _ _ => rfl
  have T0 : At ((w.alloc (.cells (bl ts) 45)).alloc (.cells (plC (.slice (some ⟨G, 0, none⟩) xs.length xs.length) b o) 49)) w.heap.size (bl ts) 45 := (At.new w _ _).alloc _
  have P0 : At ((w.alloc (.cells (bl ts) 45)).alloc (.cells (plC (.slice (some ⟨G, 0, none⟩) xs.length xs.length) b o) 49)) (w.heap.size + 1) (plC (.slice (some ⟨G, 0, none⟩) xs.length xs.length) b o) 49 := At.last1 w _ _ _
  have G0 := (A0.alloc (.cells (bl ts) 45)).alloc (.cells (plC (.slice (some ⟨G, 0, none⟩) xs.length xs.length) b o) 49)
  have B0 := Lib.hid (bnew (b0 w (.cells (bl ts) 45)) (.cells (plC (.slice (some ⟨G, 0, none⟩) xs.length xs.length) b o) 49))
  have hg := A0.lt
  have KR := refusalOf_any 60 #[.pointer (some ⟨w.heap.size, 0, none⟩), .pointer (some ⟨w.heap.size + 1, 0, none⟩)] (sC ts xs b o) ((w.alloc (.cells (bl ts) 45)).alloc (.cells (plC (.slice (some ⟨G, 0, none⟩) xs.length xs.length) b o) 49)) (fun _ => by kernel_rfl) (fun w1 hb => SoundPlan1_any w.heap.size (w.heap.size + 1) 45 49 ts hl G xs b o hW T w1 (T0.step hb) (P0.step hb) (G0.step hb))
  clear A0
  cases hTP : (okT ts && okP xs b o)
  · have hv := Lib.hid (vSnd_no hTP)
    rw [sC_no hTP] at KR
    clear hTP T0 P0 G0 hg
    go_enter Try.func25, Try.ntmps25
    go_wp2_with fail
    refine KR.mono ?_
    rintro e w1 ⟨rfl, hb1⟩
    go_wp2_with fail
    exact bodyPost_ret (v := .tuple #[.int .i64 0, .int .i64 0, .int .i64 0, .int .i64 1]) (results_four rfl _ _ _ rfl) rfl ⟨by rw [hv.out], bthen B0.out hb1⟩
  · have HTP := Lib.hid hTP
    rw [sC_yes hTP] at KR
    clear hTP
    obtain ⟨n, hnn⟩ : ∃ n, n = xs.length := ⟨_, rfl⟩
    have HN := Lib.hid hnn
    rw [← hnn] at hn P0 KR T0 G0 B0 ⊢
    clear hnn
    go_enter Try.func25, Try.ntmps25
    go_wp2_with fail
    refine KR.mono ?_
    rintro e w1 ⟨rfl, hb1⟩
    have T1 := T0.step hb1
    have P1 := P0.step hb1
    have G1 := G0.step hb1
    have B1 := Lib.hid (bthen B0.out hb1)
    clear KR T0 P0 G0 B0 hb1
    go_wp2_with (((with_reducible refine is_load 45 _ rfl ?_); refine wpList_load_at rfl 45 _ rfl _ rfl (bl ts) _ (by with_reducible assumption) 64 (by rw [bl_size, hl]) _ Try.underlying45 rfl (by kernel_rfl) ?_))
    refine (watchOver_any ts hl _).mono ?_
    rintro e w2 ⟨r, rfl, M2, hr, hb2⟩
    have P2 := P1.step hb2
    have G2 := G1.step hb2
    have B2 := Lib.hid (bthen B1.out hb2)
    have hsr := P1.lt
    have hrs := M2.lt
    have SW := wt_size hl r
    have W2 := At.new w2 (Try.zeroCells105) 105
    have W3 := W2.setRow (wt ts r)
    have P3 := (P2.alloc (.cells (Try.zeroCells105) 105)).setRow_other (k := w2.heap.size) (Nat.ne_of_lt P2.lt) (wt ts r)
    have G3 := (G2.alloc (.cells (Try.zeroCells105) 105)).setRow_other (k := w2.heap.size) (Nat.ne_of_lt G2.lt) (wt ts r)
    have B3 := Lib.hid (bset (bnew B2.out (.cells (Try.zeroCells105) 105)) (g := w2.heap.size) B2.out.size (wt ts r))
    have M3 := (M2.step (b0 w2 (.cells (Try.zeroCells105) 105))).of (w' := (w2.alloc (.cells (Try.zeroCells105) 105)).setRow w2.heap.size (wt ts r)) (heap_setRow_other _ _ _ _ (by omega))
    have c3 := P3.cell (plC_0 _ _ _)
    clear T1 P1 G1 B1 hb2 P2 G2 B2 M2
    go_wp2_with (((with_reducible refine is_store 105 _ _ rfl ?_); refine wpList_store_at rfl 105 _ _ rfl _ rfl (wt ts r) rfl (Try.zeroCells105) _ W2 65 SW (by kernel_rfl) (by kernel_rfl) (wt_one _ _) ?_))
    obtain ⟨w3, hw3⟩ : ∃ w3, w3 = (w2.alloc (.cells (Try.zeroCells105) 105)).setRow w2.heap.size (wt ts r) := ⟨_, rfl⟩
    rw [← hw3] at W3 P3 G3 B3 M3 c3 ⊢
    have hw2 : r < w2.heap.size := hrs
    obtain ⟨gw, hgw⟩ : ∃ gw, gw = w2.heap.size := ⟨_, rfl⟩
    rw [← hgw] at W3 hw2 ⊢
    clear hw3 W2 c3 hgw hrs
    go_loopw [23] (fun iv wr => ∃ k : Nat, k ≤ n ∧ iv = .int .i64 (k : Int) ∧ Hid (∀ j, j < k → badS ts xs j = false) ∧ Hid (∃ L, MpB wr r (cfV ts) L) ∧ Hid (Ce r w3 wr)) (fun iv _ => n - (intOf iv).toNat)
    case atStart => exact ⟨0, by omega, rfl, Lib.hid (fun j hj => by omega), Lib.hid ⟨_, M3⟩, Lib.hid (Ce.refl _ _)⟩
    case round =>
      obtain ⟨k, hk, rfl, hal, M4, C4⟩ := hrel
      have W4 := C4.out.at W3 (by omega)
      have P4 := C4.out.at P3 (by omega)
      have G4 := C4.out.at G3 (by omega)
      by_cases hlt : k < n
      · have kd : (k : Int) < (n : Int) := by omega
        have s2 : IntKind.i64.wrap ((k : Int) + 1) = (k : Int) + 1 := IntWalk.i64_in _ (by omega)
        have hkl : k < xs.length := by rw [← HN.out]; exact hlt
        have hp8 : (sb xs k).length = 8 := (hW.at hkl).1
        obtain ⟨L4, M4⟩ := M4.out
        have hrl := M4.lt
        have hsl : (sl1 (sb xs k) (st xs k)).size = 9 := sl1_size hp8 _
        have HL9 := Lib.hid (show k * 9 + 9 ≤ (slC xs).size from by rw [slC_size hW]; omega)
        have HP9 := Lib.hid (slC_slot hW hkl (k := k * 9) rfl)
        have HPH := Lib.hid (sl1_phase hp8 (st xs k))
        have S0 := At.new wr (#[.bool false, .bool false, .bool false, .bool false, .bool false, .bool false, .bool false, .bool false, .int .i64 0]) 96
        have S1 := S0.setRow (sl1 (sb xs k) (st xs k))
        have W5 := (W4.alloc (.cells (#[.bool false, .bool false, .bool false, .bool false, .bool false, .bool false, .bool false, .bool false, .int .i64 0]) 96)).setRow_other (k := wr.heap.size) (Nat.ne_of_lt W4.lt) (sl1 (sb xs k) (st xs k))
        have D5 := Lib.hid (bset (b0 wr (.cells (#[.bool false, .bool false, .bool false, .bool false, .bool false, .bool false, .bool false, .bool false, .int .i64 0]) 96)) (g := wr.heap.size) (Nat.le_refl _) (sl1 (sb xs k) (st xs k)))
        have M5 := M4.step D5.out
        have KC := conflictOf_any ts (sb xs k) hl hp8 r L4 _ M5
        have C5 := Lib.hid (C4.out.trans (Ce.of (gR := r) D5.out))
        obtain ⟨bb, hbb⟩ : ∃ bb, bb = badS ts xs k := ⟨_, rfl⟩
        have HBB := Lib.hid hbb
        have hcv := Lib.hid (show cfV ts (sb xs k) = .agg #[.int .i64 (cfI (conf ts (sb xs k))), .int .i64 (cfK (conf ts (sb xs k))), .bool bb] from by rw [hbb]; rfl)
        rw [hcv.out] at KC
        clear hbb hp8 W4 P4 M4 C4 M5
        go_wp2_with (first | ((with_reducible refine is_load 96 _ rfl ?_); refine wpList_load_part rfl 96 _ rfl _ _ rfl (slC xs) _ G4 9 (HL9.out) _ Try.underlying96 rfl (by kernel_rfl) (sl1 (sb xs k) (st xs k)) (HP9.out) ?_) | ((with_reducible refine is_store 96 _ _ rfl ?_); refine wpList_store_at rfl 96 _ _ rfl _ rfl (sl1 (sb xs k) (st xs k)) rfl (#[.bool false, .bool false, .bool false, .bool false, .bool false, .bool false, .bool false, .bool false, .int .i64 0]) _ S0 9 hsl rfl (by kernel_rfl) (sl1_one _ _) ?_) | ((with_reducible refine is_load 105 _ rfl ?_); refine wpList_load_at rfl 105 _ rfl _ rfl (wt ts r) _ (by with_reducible assumption) 65 (SW) _ Try.underlying105 rfl (by kernel_rfl) ?_) | ((with_reducible refine is_load 84 _ rfl ?_); refine wpList_load_part rfl 84 _ rfl _ 0 rfl (sl1 (sb xs k) (st xs k)) _ S1 8 (by rw [hsl]; omega) _ Try.underlying84 rfl (by kernel_rfl) (bl (sb xs k)) (HPH.out) ?_))
        refine KC.mono ?_
        rintro e u2 ⟨rfl, ⟨L6, M6⟩, C6⟩
        have hru := M6.lt
        have Q0 := At.new u2 (#[.int .i64 0, .int .i64 0, .bool false]) 108
        have Q1 := Q0.setRow #[.int .i64 (cfI (conf ts (sb xs k))), .int .i64 (cfK (conf ts (sb xs k))), .bool bb]
        have q0 := Q1.cell (k := 0) (v := .int .i64 (cfI (conf ts (sb xs k)))) rfl
        have q1 := Q1.cell (k := 1) (v := .int .i64 (cfK (conf ts (sb xs k)))) rfl
        have q2 := Q1.cell (k := 2) (v := .bool bb) rfl
        have D7 := Lib.hid (bset (b0 u2 (.cells (#[.int .i64 0, .int .i64 0, .bool false]) 108)) (g := u2.heap.size) (Nat.le_refl _) #[.int .i64 (cfI (conf ts (sb xs k))), .int .i64 (cfK (conf ts (sb xs k))), .bool bb])
        have M7 := Lib.hid (M6.step D7.out)
        have C7 := Lib.hid ((C5.out.trans C6).trans (Ce.of (gR := r) D7.out))
        have BB := Lib.hid (B3.out.trans (C7.out.below (B := w.heap.size) (by omega) (by have := W3.lt; omega)))
        clear KC D5 C5 S0 S1 W5 M6 C6 D7 Q1 HL9 HP9 HPH hru G4
        cases bb
        · go_wp2_with (((with_reducible refine is_store 108 _ _ rfl ?_); refine wpList_store_at rfl 108 _ _ rfl _ rfl _ rfl (#[.int .i64 0, .int .i64 0, .bool false]) _ Q0 3 rfl rfl (by kernel_rfl) (cf3_one _ _ _) ?_))
          exact ⟨⟨k + 1, by omega, by go_num, Lib.hid (fun j hj => by
            rcases Nat.lt_or_ge j k with c | c
            · exact hal.out j c
            · obtain rfl : j = k := by omega
              exact HBB.out.symm), Lib.hid ⟨_, M7.out⟩, C7⟩, by simp [intOf]; omega⟩
        · have hv := Lib.hid (vSnd_hit HTP.out hkl HBB.out.symm hal.out)
          go_wp2_with (((with_reducible refine is_store 108 _ _ rfl ?_); refine wpList_store_at rfl 108 _ _ rfl _ rfl _ rfl (#[.int .i64 0, .int .i64 0, .bool false]) _ Q0 3 rfl rfl (by kernel_rfl) (cf3_one _ _ _) ?_))
          generalize World.setRow _ _ _ = u3 at q0 q1 BB ⊢
          go_quiet (fail)
          go_wp2_with fail
          exact bodyPost_ret (v := .tuple #[.int .i64 (k : Int), .int .i64 (cfI (conf ts (sb xs k))), .int .i64 (cfK (conf ts (sb xs k))), .int .i64 8]) (results_four rfl _ _ _ rfl) rfl ⟨by rw [hv.out], bdrew BB.out _⟩
      · obtain rfl : n = k := by omega
        have hv := Lib.hid (vSnd_none HTP.out (fun j hj => hal.out j (by rw [HN.out]; exact hj)))
        have BB := Lib.hid (B3.out.trans (C4.out.below (B := w.heap.size) (by omega) (by have := W3.lt; omega)))
        go_wp2_with fail
        exact bodyPost_ret (v := .tuple #[.int .i64 (-1), .int .i64 0, .int .i64 0, .int .i64 0]) (results_four rfl _ _ _ rfl) rfl ⟨by rw [hv.out], BB.out⟩

end Go.Proofs.Ytkaghfoaicbngab
