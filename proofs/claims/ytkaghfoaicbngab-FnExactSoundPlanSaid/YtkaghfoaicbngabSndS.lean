/-
  CONTRACTS: the model's SoundPlan.
-/
import Derived.Test.YtkaghfoaicbngabWatch
import Derived.Test.YtkaghfoaicbngabVPlanS
import Derived.Test.YtkaghfoaicbngabClear
import Derived.Test.YtkaghfoaicbngabNeedP
namespace Go.Proofs.Ytkaghfoaicbngab
open Go Go.ChangeShapes Go.WideShapes Go.ChangeAt Go.RowKit
set_option maxRecDepth 100000

/-- a slot whose phase has a conflict -/
def badS (ts : List Bool) (xs : Slots) (k : Nat) : Bool := cfB (conf ts (sb xs k))

/-- what SoundPlan tells -/
def vSnd (ts : List Bool) (xs : Slots) (b o : Int) : Int × Int × Int × Int :=
  if okT ts && okP xs b o then (match (List.range xs.length).find? (badS ts xs) with
    | some k => ((k : Int), cfI (conf ts (sb xs k)), cfK (conf ts (sb xs k)), 8)
    | none => (-1, 0, 0, 0)) else (0, 0, 0, 1)

section
variable {ts : List Bool} {xs : Slots} {b o : Int}
theorem vSnd_no (h : (okT ts && okP xs b o) = false) : vSnd ts xs b o = (0, 0, 0, 1) := by unfold vSnd; rw [h]; rfl

theorem vSnd_none (h : (okT ts && okP xs b o) = true) (hall : ∀ j, j < xs.length → badS ts xs j = false) : vSnd ts xs b o = (-1, 0, 0, 0) := by
  unfold vSnd
  rw [if_pos h]
  have : (List.range xs.length).find? (badS ts xs) = none := List.find?_eq_none.2 fun j hj => by simpa using hall j (List.mem_range.1 hj)
  rw [this]

theorem vSnd_hit (h : (okT ts && okP xs b o) = true) {k : Nat} (hk : k < xs.length) (hb : badS ts xs k = true) (hall : ∀ j, j < k → badS ts xs j = false) : vSnd ts xs b o = ((k : Int), cfI (conf ts (sb xs k)), cfK (conf ts (sb xs k)), 8) := by
  unfold vSnd
  rw [if_pos h]
  have : (List.range xs.length).find? (badS ts xs) = some k := by
    rw [List.find?_range_eq_some]
    exact ⟨hb, List.mem_range.2 hk, fun j hj => by simpa using hall j hj⟩
  rw [this]
end

theorem results_four {P : Program} {fn : Func} {u0 u1 u2 u3 : Tmp} (h : fn.results = #[.tmp u0, .tmp u1, .tmp u2, .tmp u3]) (tmps : Array Value) (w : World) (v : Value) (hv : .tuple #[tmps.getD u0 undef, tmps.getD u1 undef, tmps.getD u2 undef, tmps.getD u3 undef] = v) :
    (results fn tmps).run P w = .ok v w := by
  subst hv
  simp [results, h, Sem.run_bind]

theorem Ce.trans {gR : Nat} {W a c : World} (h : Ce gR W a) (k : Ce gR a c) : Ce gR W c := by
  obtain ⟨B, hB, hb, hk⟩ := h.sub
  obtain ⟨B2, hB2, hb2, hk2⟩ := k.sub
  have hs := h.size
  refine ⟨⟨min B B2, by omega, (hb.mono (Nat.min_le_left _ _)).trans (hb2.mono (Nat.min_le_right _ _)), fun i h1 h2 h3 => ?_⟩, Nat.le_trans hs k.size⟩
  have e1 : a.heap[i]? = W.heap[i]? := by
    rcases Nat.lt_or_ge i B with c | c
    · exact hb.block i c
    · exact hk i c h2 h3
  rw [← e1]
  rcases Nat.lt_or_ge i B2 with c | c
  · exact hb2.block i c
  · exact hk2 i c (by omega) h3

set_option maxHeartbeats 1000000 in
theorem sSoundPlan_any (ts : List Bool) (hl : ts.length = 64) (G : Nat) (xs : Slots) (b o : Int) (hW : SlW xs) (hn : xs.length ≤ 1048576) (T : TypeId) (w : World) (A0 : At w G (slC xs) T) :
    Calls Try.prog 22 #[.agg (bl ts), .agg (plC (.slice (some ⟨G, 0, none⟩) xs.length xs.length) b o)] w fun e w' => e = .returned (.tuple #[.int .i64 (vSnd ts xs b o).1, .int .i64 (vSnd ts xs b o).2.1, .int .i64 (vSnd ts xs b o).2.2.1, .int .i64 (vSnd ts xs b o).2.2.2]) ∧ Below w.heap.size w w' := by
  have T0 : At ((w.alloc (.cells (bl ts) 45)).alloc (.cells (plC (.slice (some ⟨G, 0, none⟩) xs.length xs.length) b o) 49)) w.heap.size (bl ts) 45 := (At.new w _ _).alloc _
  have P0 : At ((w.alloc (.cells (bl ts) 45)).alloc (.cells (plC (.slice (some ⟨G, 0, none⟩) xs.length xs.length) b o) 49)) (w.heap.size + 1) (plC (.slice (some ⟨G, 0, none⟩) xs.length xs.length) b o) 49 := At.last1 w _ _ _
  have G0 := (A0.alloc (.cells (bl ts) 45)).alloc (.cells (plC (.slice (some ⟨G, 0, none⟩) xs.length xs.length) b o) 49)
  have B0 := Lib.hid (bnew (b0 w (.cells (bl ts) 45)) (.cells (plC (.slice (some ⟨G, 0, none⟩) xs.length xs.length) b o) 49))
  have KT := l04Table_any ts hl w.heap.size 45 _ T0
  have KOk := fun w' P' G' => l04Ok_any (w.heap.size + 1) 49 G xs b o hW T w' P' G'
  clear A0
  cases hT : okT ts
  · rw [hT] at KT
    have hv := Lib.hid (vSnd_no (show (okT ts && okP xs b o) = false from by rw [hT]; rfl))
    clear T0 P0 G0 hT KOk
    go_enter Try.func22, Try.ntmps22
    go_wp2_with fail
    refine KT.mono ?_
    rintro e w1 ⟨rfl, hb1⟩
    go_wp2_with fail
    exact bodyPost_ret (v := .tuple #[.int .i64 (0), .int .i64 (0), .int .i64 (0), .int .i64 (1)]) (results_four rfl _ _ _ rfl) rfl ⟨by rw [hv.out], bthen B0.out hb1⟩
  · rw [hT] at KT
    cases hP : okP xs b o
    · have hv := Lib.hid (vSnd_no (show (okT ts && okP xs b o) = false from by rw [hP, Bool.and_false]))
      rw [hP] at KOk
      clear hT hP
      go_enter Try.func22, Try.ntmps22
      go_wp2_with fail
      refine KT.mono ?_
      rintro e w1 ⟨rfl, hb1⟩
      have P1 := P0.step hb1
      have G1 := G0.step hb1
      have B1 := Lib.hid (bthen B0.out hb1)
      clear KT T0 P0 G0 B0 hb1
      go_wp2_with fail
      refine (KOk _ P1 G1).mono ?_
      rintro e w2 ⟨rfl, hb2⟩
      go_wp2_with fail
      exact bodyPost_ret (v := .tuple #[.int .i64 (0), .int .i64 (0), .int .i64 (0), .int .i64 (1)]) (results_four rfl _ _ _ rfl) rfl ⟨by rw [hv.out], bthen B1.out hb2⟩
    · have hTP : (okT ts && okP xs b o) = true := by rw [hT, hP]; rfl
      have HTP := Lib.hid hTP
      rw [hP] at KOk
      clear hT hP hTP
      obtain ⟨n, hnn⟩ : ∃ n, n = xs.length := ⟨_, rfl⟩
      have HN := Lib.hid hnn
      rw [← hnn] at hn P0 KT KOk T0 G0 B0 ⊢
      clear hnn
      go_enter Try.func22, Try.ntmps22
      go_wp2_with fail
      refine KT.mono ?_
      rintro e w1 ⟨rfl, hb1⟩
      have T1 := T0.step hb1
      have P1 := P0.step hb1
      have G1 := G0.step hb1
      have B1 := Lib.hid (bthen B0.out hb1)
      clear KT T0 P0 G0 B0 hb1
      go_wp2_with fail
      refine (KOk _ P1 G1).mono ?_
      rintro e w2 ⟨rfl, hb2⟩
      have T2 := T1.step hb2
      have P2 := P1.step hb2
      have G2 := G1.step hb2
      have B2 := Lib.hid (bthen B1.out hb2)
      clear KOk T1 P1 G1 B1 hb2
      go_wp2_with fail
      go_loopw [8] (fun iv wr => ∃ k : Nat, k ≤ n ∧ iv = .int .i64 (k : Int) ∧ Hid (∀ j, j < k → badS ts xs j = false) ∧ Hid (Below w.heap.size w wr) ∧ Hid (Below w2.heap.size w2 wr)) (fun iv _ => n - (intOf iv).toNat)
      case atStart => exact ⟨0, by omega, rfl, Lib.hid (fun j hj => by omega), B2, Lib.hid (Below.refl _ _)⟩
      case round =>
        clear B2
        obtain ⟨k, hk, rfl, hal, B3, D3⟩ := hrel
        have T3 := T2.step D3.out
        have P3 := P2.step D3.out
        have G3 := G2.step D3.out
        have c3 := P3.cell (plC_0 _ _ _)
        by_cases hlt : k < n
        · have kd : (k : Int) < (n : Int) := by omega
          have s2 : IntKind.i64.wrap ((k : Int) + 1) = (k : Int) + 1 := IntWalk.i64_in _ (by omega)
          have hkl : k < xs.length := by rw [← HN.out]; exact hlt
          have hp8 : (sb xs k).length = 8 := (hW.at hkl).1
          have HLE := Lib.hid (show k * 9 + 8 ≤ (slC xs).size from by rw [slC_size hW]; omega)
          have HPH := Lib.hid (slC_phase hW hkl (k := k * 9) rfl)
          have KC := l04Conflict_any ts (sb xs k) hl hp8 w.heap.size 45 wr T3
          obtain ⟨bb, hbb⟩ : ∃ bb, bb = badS ts xs k := ⟨_, rfl⟩
          rw [show cfB (conf ts (sb xs k)) = bb from by rw [hbb]; rfl] at KC
          have HBB := Lib.hid hbb
          clear hbb hp8
          go_wp2_with (first | ((with_reducible refine is_load 84 _ rfl ?_); refine wpList_load_part rfl 84 _ rfl _ _ rfl (slC xs) _ (by with_reducible assumption) 8 (HLE.out) _ Try.underlying84 rfl (by kernel_rfl) (bl (sb xs k)) (HPH.out) ?_))
          refine KC.mono ?_
          rintro e w4 ⟨rfl, hb4⟩
          have B5 := Lib.hid (bthen B3.out hb4)
          have D5 := Lib.hid (bthen D3.out hb4)
          clear KC B3 D3 hb4 T3 P3 G3 c3 HLE HPH
          cases bb
          · go_wp2_with fail
            exact ⟨⟨k + 1, by omega, by go_num, Lib.hid (fun j hj => by
              rcases Nat.lt_or_ge j k with c | c
              · exact hal.out j c
              · obtain rfl : j = k := by omega
                exact HBB.out.symm), B5, D5⟩, by simp [intOf]; omega⟩
          · have hv := Lib.hid (vSnd_hit HTP.out hkl HBB.out.symm hal.out)
            go_wp2_with fail
            exact bodyPost_ret (v := .tuple #[.int .i64 ((k : Int)), .int .i64 (cfI (conf ts (sb xs k))), .int .i64 (cfK (conf ts (sb xs k))), .int .i64 (8)]) (results_four rfl _ _ _ rfl) rfl ⟨by rw [hv.out], B5.out⟩
        · obtain rfl : n = k := by omega
          have hv := Lib.hid (vSnd_none HTP.out (fun j hj => hal.out j (by rw [HN.out]; exact hj)))
          go_wp2_with fail
          exact bodyPost_ret (v := .tuple #[.int .i64 (-1), .int .i64 (0), .int .i64 (0), .int .i64 (0)]) (results_four rfl _ _ _ rfl) rfl ⟨by rw [hv.out], B3.out⟩

end Go.Proofs.Ytkaghfoaicbngab
