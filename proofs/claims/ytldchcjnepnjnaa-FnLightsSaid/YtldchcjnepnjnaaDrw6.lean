/-
  CONTRACTS: plans drawn from bytes, by existence.
-/
import Derived.Test.YtldchcjnepnjnaaDrw5
namespace Go.Proofs.Ytldchcjnepnjnaa
open Go Go.ChangeShapes Go.WideShapes Go.ChangeAt Go.RowKit Go.Deep
set_option maxRecDepth 100000

theorem built_slot (ps : List Bool) (hb : ps.length = 8) (t : Int) : Try.prog.built 40 [(0, .agg (bl ps)), (1, .int .i64 t)] = some (sl1 ps t) :=
  match ps, hb with
  | [_, _, _, _, _, _, _, _], _ => by kernel_rfl

set_option maxHeartbeats 8000000 in
theorem planDrawn_e {w0 w : World} {g : Nat} {ad : Option Addr} {cp : Nat} {bs : List Nat} {k : Nat} (h : Draws w0 g ad cp bs k w) (hk : k < 900) :
    Calls Try.prog 12 #[.pointer (some ⟨g, 0, none⟩)] w fun e w' => ∃ (G cap : Nat) (zs : Array Value) (xs : Slots) (b o : Nat), e = .returned (.agg (plC (.slice (some ⟨G, 0, none⟩) xs.length cap) b o)) ∧ w.heap.size ≤ G ∧ At w' G (slY xs zs) 40 ∧ SlW xs ∧ okP xs b o = true ∧ 1 ≤ xs.length ∧ xs.length ≤ 4 ∧ tkD xs ∧ b < 3 ∧ Only g w w' ∧ Draws w0 g ad cp bs (k + 60) w' := by
  obtain ⟨i1, hi1, hy0, hy1, hy2⟩ := info_slot
  have hgw := h.lt
  have hlo := h.lo
  have R0 := At.new w (#[.slice none 0 0, .int .i64 0, .int .i64 0]) 26
  have D0 := h.step (b0 w (.cells (#[.slice none 0 0, .int .i64 0, .int .i64 0]) 26))
  have N0 := Lib.hid ((Only.refl g w).step (Nat.le_of_lt hgw) (b0 w (.cells (#[.slice none 0 0, .int .i64 0, .int .i64 0]) 26)))
  clear h
  go_enter Try.func12, Try.ntmps12
  go_wp2_with fail
  refine (pick_e D0 (by omega) 3 (by omega) (by omega)).mono ?_
  rintro e w1 ⟨b, rfl, hb, Oa, D1⟩
  have R1 := Oa.at R0 (by omega)
  have N1 := Lib.hid (N0.out.trans Oa)
  clear R0 D0 N0 Oa
  obtain ⟨PB, hPB⟩ : ∃ PB, PB = w1.heap.size := ⟨_, rfl⟩
  have hP1 : w.heap.size < PB := by rw [hPB]; exact R1.lt
  have V1 := At.new w1 (#[.slice none 0 0, .int .i64 0, .int .i64 0]) 26
  have P2 := V1.setRow (plC (.slice none 0 0) b 0)
  have R2 := (R1.alloc (.cells (#[.slice none 0 0, .int .i64 0, .int .i64 0]) 26)).setRow_other (k := w1.heap.size) (Nat.ne_of_lt R1.lt) (plC (.slice none 0 0) b 0)
  have D2 := (D1.step (b0 w1 (.cells (#[.slice none 0 0, .int .i64 0, .int .i64 0]) 26))).row (r := w1.heap.size) (by omega) (by have := D1.lt; omega) (plC (.slice none 0 0) b 0)
  have N2 := Lib.hid ((N1.out.trans ((Only.refl g w1).step (Nat.le_of_lt D1.lt) (b0 w1 (.cells (#[.slice none 0 0, .int .i64 0, .int .i64 0]) 26)))).row (r := w1.heap.size) (by omega) (by have := D1.lt; omega) (plC (.slice none 0 0) b 0))
  go_wp2_with (first
    | ((with_reducible refine is_bld 26 _ rfl ?_); refine wpList_bld rfl 26 _ rfl #[(1, .int .i64 b)] (by kernel_rfl) (plC (.slice none 0 0) b 0) (by kernel_rfl) ?_)
    | ((with_reducible refine is_store 26 _ _ rfl ?_); refine wpList_store_at rfl 26 _ _ rfl _ rfl (plC (.slice none 0 0) b 0) rfl (#[.slice none 0 0, .int .i64 0, .int .i64 0]) _ V1 3 (plC_size _ _ _) rfl (by kernel_rfl) (pl_one _ rfl _ _) ?_))
  clear V1 R1 D1 N1
  rw [← hPB] at P2 R2 D2 N2 ⊢
  generalize World.setRow _ PB _ = w2 at P2 R2 D2 N2 ⊢
  clear hPB
  refine (pick_e D2 (by omega) 4 (by omega) (by omega)).mono ?_
  rintro e w3 ⟨j0, rfl, hj0, Oa, D3⟩
  have hsj : IntKind.i64.wrap (1 + (j0 : Int)) = ((j0 + 1 : Nat) : Int) := by rw [IntWalk.i64_in _ (by omega)]; omega
  have hg1 := D2.lt
  have P3 := Oa.at P2 (by omega)
  have R3 := Oa.at R2 (by omega)
  have N3 := Lib.hid (N2.out.trans Oa)
  clear P2 R2 D2 N2 Oa
  obtain ⟨B, hB⟩ : ∃ B, B = PB + 1 := ⟨_, rfl⟩
  have O3 : OwnSl w3 B (.slice none 0 0) [] := OwnSl.nil _ _
  have hgB : g < B := by omega
  have hBP : PB < B := by omega
  have hB2 : B ≤ PB + 1 := by omega
  clear hB
  go_wp2_with fail
  go_loopw [4] (fun n wr => ∃ (j : Nat) (va : Option Addr) (vc : Nat) (xs : Slots), n = .int .i64 (j : Int) ∧ xs.length + j ≤ 4 ∧ 1 ≤ xs.length + j ∧ OwnSl wr B (.slice va xs.length vc) xs ∧ At wr PB (plC (.slice va xs.length vc) b 0) 26 ∧ At wr w.heap.size (#[.slice none 0 0, .int .i64 0, .int .i64 0]) 26 ∧ tkD xs ∧ SlW xs ∧ Draws w0 g ad cp bs (k + 2 + 9 * xs.length) wr ∧ Hid (Only g w wr)) (fun n _ => (intOf n).toNat)
  case atStart => exact ⟨j0 + 1, none, 0, [], rfl, by rw [List.length_nil]; omega, by rw [List.length_nil]; omega, O3, P3, R3, fun i hi => absurd hi (Nat.not_lt_zero i), fun s hs => by simp at hs, D3, N3⟩
  case round =>
    clear O3 P3 R3 D3 N3 hsj
    obtain ⟨j, va, vc, xs, rfl, hj, hj0', O3, P3, R3, hT, hW, D3, N3⟩ := hrel
    by_cases hlt : 0 < j
    · have s1 : IntKind.i64.wrap ((j : Int) - 1) = ((j - 1 : Nat) : Int) := by rw [IntWalk.i64_in _ (by omega)]; omega
      have jd : (j : Int) > 0 := by omega
      go_wp2_with fail
      refine wp_region_held (S := fun _ => True) (by kernel_rfl) ?_
      show wpAnyH _ _ _ _ _ 12 (Array.replicate 12 false) _ _
      have P4 : At { wr with drawn := wr.drawn + 1 } PB (plC (.slice va xs.length vc) b 0) 26 := P3
      have R4 : At { wr with drawn := wr.drawn + 1 } w.heap.size (#[.slice none 0 0, .int .i64 0, .int .i64 0]) 26 := R3
      have hbd : Below wr.heap.size wr { wr with drawn := wr.drawn + 1 } := bdrew (Below.refl _ _) 1
      have O4 := O3.step hbd
      have D4 := D3.step hbd
      have N4 := Lib.hid (N3.out.step (Nat.le_of_lt hgw) hbd)
      generalize ({ wr with drawn := wr.drawn + 1 } : World) = w4 at P4 R4 O4 D4 N4 ⊢
      clear P3 R3 O3 D3 N3 hbd
      refine wpAnyH_take (i := 0) (v := .pointer (some ⟨PB, 0, none⟩)) rfl (by kernel_rfl) (by kernel_rfl) (by kernel_rfl) (fun _ _ _ h => h) (yif rfl fun w2 hw2 => by kernel_rfl) trivial ?_
      refine wpAnyH_take (i := 2) (v := .pointer (some ⟨g, 0, none⟩)) rfl (by kernel_rfl) (by kernel_rfl) (by kernel_rfl) (fun _ _ _ h => h) (yif rfl fun w2 hw2 => by kernel_rfl) trivial ?_
      refine wpAnyH_take (i := 4) (v := .pointer (some ⟨g, 0, none⟩)) rfl (by kernel_rfl) (by kernel_rfl) (by kernel_rfl) (fun _ _ _ h => h) (yif rfl fun w2 hw2 => by kernel_rfl) trivial ?_
      refine wpAnyH_all (rs := [1, 3]) (by kernel_rfl) (by simp) fun i5 hi5 => ?_
      rcases two_of5 hi5 with rfl | rfl
      · refine op_value (v := .slice va xs.length vc) (w' := w4) rfl rfl (x_cell 24 (.tmp 15) rfl ⟨PB, 0, none⟩ (by kernel_rfl) _ Try.underlying24 rfl (P4.cell (plC_0 _ _ _))) ⟨trivial, ?_⟩
        refine wpAnyH_all (rs := [3]) (by kernel_rfl) (by simp) fun _ hi5 => ?_
        obtain rfl := one_of hi5
        refine op_call (f := 14) (args := #[.pointer (some ⟨g, 0, none⟩)]) rfl rfl (by kernel_rfl) ((phase_d D4 (by omega)).mono ?_)
        rintro e w5 ⟨ps, rfl, hps, Ob, D5⟩
        have P5 := Ob.at P4 (by omega)
        have R5 := Ob.at R4 (by omega)
        have O5 := O4.only Ob (by omega)
        have N5 := Lib.hid (N4.out.trans Ob)
        clear P4 R4 O4 D4 N4 Ob
        refine ⟨_, rfl, trivial, ?_⟩
        refine wpAnyH_all (rs := [5]) (by kernel_rfl) (by simp) fun _ hi5 => ?_
        obtain rfl := one_of hi5
        refine op_call (f := 15) (args := #[.pointer (some ⟨g, 0, none⟩), .int .i64 6]) rfl rfl (by kernel_rfl) ((pick_e D5 (by omega) 6 (by omega) (by omega)).mono ?_)
        rintro e w6 ⟨tk, rfl, htk, Ob, D6⟩
        have P6 := Ob.at P5 (by omega)
        have R6 := Ob.at R5 (by omega)
        have O6 := O5.only Ob (by omega)
        have N6 := Lib.hid (N5.out.trans Ob)
        clear P5 R5 O5 D5 N5 Ob
        refine ⟨_, rfl, trivial, ?_⟩
        have hti : IntKind.i64.wrap (1 + (tk : Int)) = ((tk + 1 : Nat) : Int) := by rw [IntWalk.i64_in _ (by omega)]; omega
        have hadd : ∀ W, (binOp .add 2 (.int .i64 1) (.int .i64 (tk : Int))).run Try.prog W = .ok (.int .i64 ((tk + 1 : Nat) : Int)) W := fun W => by rw [← hti]; rfl
        refine wpAnyH_take (i := 6) (v := .int .i64 ((tk + 1 : Nat) : Int)) rfl (by kernel_rfl) (by kernel_rfl) (by kernel_rfl) (fun _ _ _ h => h) (yif rfl fun w2 hw2 => hx_addI 2 _ _ rfl _ _ (by kernel_rfl) (by kernel_rfl) (hadd _)) trivial ?_
        refine wpAnyH_take (i := 7) (v := .agg (sl1 ps ((tk + 1 : Nat) : Int))) rfl (by kernel_rfl) (by kernel_rfl) (by kernel_rfl) (fun _ _ _ h => h) (yif rfl fun w2 hw2 => x_bld 40 _ rfl #[(0, .agg (bl ps)), (1, .int .i64 ((tk + 1 : Nat) : Int))] (by kernel_rfl) (sl1 ps ((tk + 1 : Nat) : Int)) (built_slot ps hps _)) trivial ?_
        refine wpAnyH_all (rs := [8]) (by kernel_rfl) (by simp) fun _ hi5 => ?_
        obtain rfl := one_of hi5
        refine op_value (v := .slice (some ⟨w6.heap.size, 0, none⟩) 1 1) (w' := w6.alloc (.cells (sl1 ps ((tk + 1 : Nat) : Int)) 40)) rfl rfl (x_bslice 24 1 _ rfl #[(0, .agg (sl1 ps ((tk + 1 : Nat) : Int)))] (by kernel_rfl) (run_oneSl _ ps hps _)) ⟨trivial, ?_⟩
        have hcell := one_cellsSl w6 (ps, ((tk + 1 : Nat) : Int))
        obtain ⟨gn, hgn⟩ : ∃ gn, gn = w6.heap.size := ⟨_, rfl⟩
        rw [← hgn]
        rw [← hgn] at hcell
        obtain ⟨w7, hw7⟩ : ∃ w9, w9 = w6.alloc (.cells (sl1 ps ((tk + 1 : Nat) : Int)) 40) := ⟨_, rfl⟩
        change ∀ j u, _ → (w6.alloc (.cells (sl1 ps ((tk + 1 : Nat) : Int)) 40)).cell? _ = _ at hcell
        have P7 := P6.alloc (.cells (sl1 ps ((tk + 1 : Nat) : Int)) 40)
        have R7 := R6.alloc (.cells (sl1 ps ((tk + 1 : Nat) : Int)) 40)
        have O7 := O6.step (b0 w6 (.cells (sl1 ps ((tk + 1 : Nat) : Int)) 40))
        have D7 := D6.step (b0 w6 (.cells (sl1 ps ((tk + 1 : Nat) : Int)) 40))
        have N7 := Lib.hid (N6.out.trans ((Only.refl g w6).step (Nat.le_of_lt D6.lt) (b0 w6 (.cells (sl1 ps ((tk + 1 : Nat) : Int)) 40))))
        have hs7 : B ≤ (w6.alloc (.cells (sl1 ps ((tk + 1 : Nat) : Int)) 40)).heap.size := by have := P6.lt; rw [World.size_alloc]; omega
        rw [← hw7] at hcell P7 R7 O7 D7 N7 hs7 ⊢
        clear P6 R6 O6 D6 N6 hw7 hgn
        refine wpAnyH_all (rs := [9]) (by kernel_rfl) (by simp) fun _ hi5 => ?_
        obtain rfl := one_of hi5
        refine op_wp rfl rfl fun Q' => wp_append_own _ (.tmp 16) (.tmp 23) 24 rfl B 40 i1 (.agg #[.bool false, .bool false, .bool false, .bool false, .bool false, .bool false, .bool false, .bool false, .int .i64 0]) 9 16 Try.underlying24 hi1 hy0 hy1 hy2 rfl (by decide) (.slice va xs.length vc) xs.length _ (by kernel_rfl) O7 ⟨gn, 0, none⟩ 1 1 (sll (ps, ((tk + 1 : Nat) : Int))) (by kernel_rfl) (sll_len (s := (ps, ((tk + 1 : Nat) : Int))) hps) hcell (sll_one _) (by unfold maxLen; omega) (by omega) hs7 ?_
        intro v' w8 hown hgrow _
        have O8 : OwnSl w8 B v' (xs ++ [(ps, ((tk + 1 : Nat) : Int))]) := OwnSl.grown hown
        have hba : Below B w7 w8 := BelowSl.grownBy hgrow hs7 (fun q hq => (O7.block q hq).1)
        have P8 := P7.keepP hgrow (fun q hq e => by have := (O7.block q hq).1; omega)
        have R8 := R7.keepP hgrow (fun q hq e => by have := (O7.block q hq).1; omega)
        have D8 := D7.keepD hba (by omega)
        have N8 := Lib.hid (N7.out.keepB hba (by omega) (by omega))
        clear P7 R7 O7 D7 N7 hown hgrow hcell hba
        refine ⟨trivial, ?_⟩
        obtain ⟨xa, xc, hv'⟩ := O8.any
        subst hv'
        refine wpAnyH_take (i := 10) (v := .pointer (some ⟨PB, 0, none⟩)) rfl (by kernel_rfl) (by kernel_rfl) (by kernel_rfl) (fun _ _ _ h => h) (yif rfl fun w2 hw2 => by kernel_rfl) trivial ?_
        have hst : (Instr.storeAt 24 (.pointer (some ⟨PB, 0, none⟩)) (.slice xa (xs ++ [(ps, ((tk + 1 : Nat) : Int))]).length xc)).run Try.prog w8 = .ok () (w8.setRow PB (plC (.slice xa (xs ++ [(ps, ((tk + 1 : Nat) : Int))]).length xc) b 0)) := by
          have := run_storeAt_one (P := Try.prog) w8 PB 0 26 24 (plC (.slice va xs.length vc) b 0) (.slice xa (xs ++ [(ps, ((tk + 1 : Nat) : Int))]).length xc) P8 (by kernel_rfl) (by rw [plC_size]; omega) rfl
          rwa [plC_s0] at this
        refine wpAnyH_all (rs := [11]) (by kernel_rfl) (by simp) fun _ hi5 => ?_
        obtain rfl := one_of hi5
        refine op_skip (w' := w8.setRow PB (plC (.slice xa (xs ++ [(ps, ((tk + 1 : Nat) : Int))]).length xc) b 0)) rfl rfl (hx_store 24 (.tmp 25) (.tmp 24) rfl (.pointer (some ⟨PB, 0, none⟩)) (.slice xa (xs ++ [(ps, ((tk + 1 : Nat) : Int))]).length xc) (by kernel_rfl) (by kernel_rfl) hst) ⟨trivial, ?_⟩
        refine wpAnyH_done (by kernel_rfl) ?_ _
        have P9 := P8.setRow (plC (.slice xa (xs ++ [(ps, ((tk + 1 : Nat) : Int))]).length xc) b 0)
        have R9 := R8.setRow_other (k := PB) (by omega) (plC (.slice xa (xs ++ [(ps, ((tk + 1 : Nat) : Int))]).length xc) b 0)
        have O9 := O8.setRow_other (g := PB) (fun q hq => by have := (O8.block q hq).1; omega) (plC (.slice xa (xs ++ [(ps, ((tk + 1 : Nat) : Int))]).length xc) b 0)
        have D9 := (D8.row (r := PB) (by omega) (by omega) (plC (.slice xa (xs ++ [(ps, ((tk + 1 : Nat) : Int))]).length xc) b 0)).more (k2 := k + 2 + 9 * (xs ++ [(ps, ((tk + 1 : Nat) : Int))]).length) (by rw [List.length_append, List.length_singleton]; omega)
        have N9 := Lib.hid (N8.out.row (r := PB) (by omega) (by omega) (plC (.slice xa (xs ++ [(ps, ((tk + 1 : Nat) : Int))]).length xc) b 0))
        have hT9 := hT.next (ps := ps) htk
        have hW9 := hW.next hps htk
        have hj9 : (xs ++ [(ps, ((tk + 1 : Nat) : Int))]).length + (j - 1) ≤ 4 := by rw [List.length_append, List.length_singleton]; omega
        have hj1 : 1 ≤ (xs ++ [(ps, ((tk + 1 : Nat) : Int))]).length + (j - 1) := by rw [List.length_append, List.length_singleton]; omega
        clear P8 R8 O8 D8 N8 hst hT hW
        generalize hxx : xs ++ [(ps, ((tk + 1 : Nat) : Int))] = xs' at *
        clear hxx
        generalize World.setRow _ PB _ = w9 at P9 R9 O9 D9 N9 ⊢
        go_simp
        go_wp2_with fail
        exact ⟨⟨j - 1, xa, xc, xs', rfl, hj9, hj1, O9, P9, R9, hT9, hW9, D9, N9⟩, by simp [intOf]; omega⟩
      · refine op_call (f := 14) (args := #[.pointer (some ⟨g, 0, none⟩)]) rfl rfl (by kernel_rfl) ((phase_d D4 (by omega)).mono ?_)
        rintro e w5 ⟨ps, rfl, hps, Ob, D5⟩
        have P5 := Ob.at P4 (by omega)
        have R5 := Ob.at R4 (by omega)
        have O5 := O4.only Ob (by omega)
        have N5 := Lib.hid (N4.out.trans Ob)
        clear P4 R4 O4 D4 N4 Ob
        refine ⟨_, rfl, trivial, ?_⟩
        refine wpAnyH_all (rs := [1, 5]) (by kernel_rfl) (by simp) fun i5 hi5 => ?_
        rcases two_of5 hi5 with rfl | rfl
        · refine op_value (v := .slice va xs.length vc) (w' := w5) rfl rfl (x_cell 24 (.tmp 15) rfl ⟨PB, 0, none⟩ (by kernel_rfl) _ Try.underlying24 rfl (P5.cell (plC_0 _ _ _))) ⟨trivial, ?_⟩
          refine wpAnyH_all (rs := [5]) (by kernel_rfl) (by simp) fun _ hi5 => ?_
          obtain rfl := one_of hi5
          refine op_call (f := 15) (args := #[.pointer (some ⟨g, 0, none⟩), .int .i64 6]) rfl rfl (by kernel_rfl) ((pick_e D5 (by omega) 6 (by omega) (by omega)).mono ?_)
          rintro e w6 ⟨tk, rfl, htk, Ob, D6⟩
          have P6 := Ob.at P5 (by omega)
          have R6 := Ob.at R5 (by omega)
          have O6 := O5.only Ob (by omega)
          have N6 := Lib.hid (N5.out.trans Ob)
          clear P5 R5 O5 D5 N5 Ob
          refine ⟨_, rfl, trivial, ?_⟩
          have hti : IntKind.i64.wrap (1 + (tk : Int)) = ((tk + 1 : Nat) : Int) := by rw [IntWalk.i64_in _ (by omega)]; omega
          have hadd : ∀ W, (binOp .add 2 (.int .i64 1) (.int .i64 (tk : Int))).run Try.prog W = .ok (.int .i64 ((tk + 1 : Nat) : Int)) W := fun W => by rw [← hti]; rfl
          refine wpAnyH_take (i := 6) (v := .int .i64 ((tk + 1 : Nat) : Int)) rfl (by kernel_rfl) (by kernel_rfl) (by kernel_rfl) (fun _ _ _ h => h) (yif rfl fun w2 hw2 => hx_addI 2 _ _ rfl _ _ (by kernel_rfl) (by kernel_rfl) (hadd _)) trivial ?_
          refine wpAnyH_take (i := 7) (v := .agg (sl1 ps ((tk + 1 : Nat) : Int))) rfl (by kernel_rfl) (by kernel_rfl) (by kernel_rfl) (fun _ _ _ h => h) (yif rfl fun w2 hw2 => x_bld 40 _ rfl #[(0, .agg (bl ps)), (1, .int .i64 ((tk + 1 : Nat) : Int))] (by kernel_rfl) (sl1 ps ((tk + 1 : Nat) : Int)) (built_slot ps hps _)) trivial ?_
          refine wpAnyH_all (rs := [8]) (by kernel_rfl) (by simp) fun _ hi5 => ?_
          obtain rfl := one_of hi5
          refine op_value (v := .slice (some ⟨w6.heap.size, 0, none⟩) 1 1) (w' := w6.alloc (.cells (sl1 ps ((tk + 1 : Nat) : Int)) 40)) rfl rfl (x_bslice 24 1 _ rfl #[(0, .agg (sl1 ps ((tk + 1 : Nat) : Int)))] (by kernel_rfl) (run_oneSl _ ps hps _)) ⟨trivial, ?_⟩
          have hcell := one_cellsSl w6 (ps, ((tk + 1 : Nat) : Int))
          obtain ⟨gn, hgn⟩ : ∃ gn, gn = w6.heap.size := ⟨_, rfl⟩
          rw [← hgn]
          rw [← hgn] at hcell
          obtain ⟨w7, hw7⟩ : ∃ w9, w9 = w6.alloc (.cells (sl1 ps ((tk + 1 : Nat) : Int)) 40) := ⟨_, rfl⟩
          change ∀ j u, _ → (w6.alloc (.cells (sl1 ps ((tk + 1 : Nat) : Int)) 40)).cell? _ = _ at hcell
          have P7 := P6.alloc (.cells (sl1 ps ((tk + 1 : Nat) : Int)) 40)
          have R7 := R6.alloc (.cells (sl1 ps ((tk + 1 : Nat) : Int)) 40)
          have O7 := O6.step (b0 w6 (.cells (sl1 ps ((tk + 1 : Nat) : Int)) 40))
          have D7 := D6.step (b0 w6 (.cells (sl1 ps ((tk + 1 : Nat) : Int)) 40))
          have N7 := Lib.hid (N6.out.trans ((Only.refl g w6).step (Nat.le_of_lt D6.lt) (b0 w6 (.cells (sl1 ps ((tk + 1 : Nat) : Int)) 40))))
          have hs7 : B ≤ (w6.alloc (.cells (sl1 ps ((tk + 1 : Nat) : Int)) 40)).heap.size := by have := P6.lt; rw [World.size_alloc]; omega
          rw [← hw7] at hcell P7 R7 O7 D7 N7 hs7 ⊢
          clear P6 R6 O6 D6 N6 hw7 hgn
          refine wpAnyH_all (rs := [9]) (by kernel_rfl) (by simp) fun _ hi5 => ?_
          obtain rfl := one_of hi5
          refine op_wp rfl rfl fun Q' => wp_append_own _ (.tmp 16) (.tmp 23) 24 rfl B 40 i1 (.agg #[.bool false, .bool false, .bool false, .bool false, .bool false, .bool false, .bool false, .bool false, .int .i64 0]) 9 16 Try.underlying24 hi1 hy0 hy1 hy2 rfl (by decide) (.slice va xs.length vc) xs.length _ (by kernel_rfl) O7 ⟨gn, 0, none⟩ 1 1 (sll (ps, ((tk + 1 : Nat) : Int))) (by kernel_rfl) (sll_len (s := (ps, ((tk + 1 : Nat) : Int))) hps) hcell (sll_one _) (by unfold maxLen; omega) (by omega) hs7 ?_
          intro v' w8 hown hgrow _
          have O8 : OwnSl w8 B v' (xs ++ [(ps, ((tk + 1 : Nat) : Int))]) := OwnSl.grown hown
          have hba : Below B w7 w8 := BelowSl.grownBy hgrow hs7 (fun q hq => (O7.block q hq).1)
          have P8 := P7.keepP hgrow (fun q hq e => by have := (O7.block q hq).1; omega)
          have R8 := R7.keepP hgrow (fun q hq e => by have := (O7.block q hq).1; omega)
          have D8 := D7.keepD hba (by omega)
          have N8 := Lib.hid (N7.out.keepB hba (by omega) (by omega))
          clear P7 R7 O7 D7 N7 hown hgrow hcell hba
          refine ⟨trivial, ?_⟩
          obtain ⟨xa, xc, hv'⟩ := O8.any
          subst hv'
          refine wpAnyH_take (i := 10) (v := .pointer (some ⟨PB, 0, none⟩)) rfl (by kernel_rfl) (by kernel_rfl) (by kernel_rfl) (fun _ _ _ h => h) (yif rfl fun w2 hw2 => by kernel_rfl) trivial ?_
          have hst : (Instr.storeAt 24 (.pointer (some ⟨PB, 0, none⟩)) (.slice xa (xs ++ [(ps, ((tk + 1 : Nat) : Int))]).length xc)).run Try.prog w8 = .ok () (w8.setRow PB (plC (.slice xa (xs ++ [(ps, ((tk + 1 : Nat) : Int))]).length xc) b 0)) := by
            have := run_storeAt_one (P := Try.prog) w8 PB 0 26 24 (plC (.slice va xs.length vc) b 0) (.slice xa (xs ++ [(ps, ((tk + 1 : Nat) : Int))]).length xc) P8 (by kernel_rfl) (by rw [plC_size]; omega) rfl
            rwa [plC_s0] at this
          refine wpAnyH_all (rs := [11]) (by kernel_rfl) (by simp) fun _ hi5 => ?_
          obtain rfl := one_of hi5
          refine op_skip (w' := w8.setRow PB (plC (.slice xa (xs ++ [(ps, ((tk + 1 : Nat) : Int))]).length xc) b 0)) rfl rfl (hx_store 24 (.tmp 25) (.tmp 24) rfl (.pointer (some ⟨PB, 0, none⟩)) (.slice xa (xs ++ [(ps, ((tk + 1 : Nat) : Int))]).length xc) (by kernel_rfl) (by kernel_rfl) hst) ⟨trivial, ?_⟩
          refine wpAnyH_done (by kernel_rfl) ?_ _
          have P9 := P8.setRow (plC (.slice xa (xs ++ [(ps, ((tk + 1 : Nat) : Int))]).length xc) b 0)
          have R9 := R8.setRow_other (k := PB) (by omega) (plC (.slice xa (xs ++ [(ps, ((tk + 1 : Nat) : Int))]).length xc) b 0)
          have O9 := O8.setRow_other (g := PB) (fun q hq => by have := (O8.block q hq).1; omega) (plC (.slice xa (xs ++ [(ps, ((tk + 1 : Nat) : Int))]).length xc) b 0)
          have D9 := (D8.row (r := PB) (by omega) (by omega) (plC (.slice xa (xs ++ [(ps, ((tk + 1 : Nat) : Int))]).length xc) b 0)).more (k2 := k + 2 + 9 * (xs ++ [(ps, ((tk + 1 : Nat) : Int))]).length) (by rw [List.length_append, List.length_singleton]; omega)
          have N9 := Lib.hid (N8.out.row (r := PB) (by omega) (by omega) (plC (.slice xa (xs ++ [(ps, ((tk + 1 : Nat) : Int))]).length xc) b 0))
          have hT9 := hT.next (ps := ps) htk
          have hW9 := hW.next hps htk
          have hj9 : (xs ++ [(ps, ((tk + 1 : Nat) : Int))]).length + (j - 1) ≤ 4 := by rw [List.length_append, List.length_singleton]; omega
          have hj1 : 1 ≤ (xs ++ [(ps, ((tk + 1 : Nat) : Int))]).length + (j - 1) := by rw [List.length_append, List.length_singleton]; omega
          clear P8 R8 O8 D8 N8 hst hT hW
          generalize hxx : xs ++ [(ps, ((tk + 1 : Nat) : Int))] = xs' at *
          clear hxx
          generalize World.setRow _ PB _ = w9 at P9 R9 O9 D9 N9 ⊢
          go_simp
          go_wp2_with fail
          exact ⟨⟨j - 1, xa, xc, xs', rfl, hj9, hj1, O9, P9, R9, hT9, hW9, D9, N9⟩, by simp [intOf]; omega⟩
        · refine op_call (f := 15) (args := #[.pointer (some ⟨g, 0, none⟩), .int .i64 6]) rfl rfl (by kernel_rfl) ((pick_e D5 (by omega) 6 (by omega) (by omega)).mono ?_)
          rintro e w6 ⟨tk, rfl, htk, Ob, D6⟩
          have P6 := Ob.at P5 (by omega)
          have R6 := Ob.at R5 (by omega)
          have O6 := O5.only Ob (by omega)
          have N6 := Lib.hid (N5.out.trans Ob)
          clear P5 R5 O5 D5 N5 Ob
          refine ⟨_, rfl, trivial, ?_⟩
          have hti : IntKind.i64.wrap (1 + (tk : Int)) = ((tk + 1 : Nat) : Int) := by rw [IntWalk.i64_in _ (by omega)]; omega
          have hadd : ∀ W, (binOp .add 2 (.int .i64 1) (.int .i64 (tk : Int))).run Try.prog W = .ok (.int .i64 ((tk + 1 : Nat) : Int)) W := fun W => by rw [← hti]; rfl
          refine wpAnyH_take (i := 6) (v := .int .i64 ((tk + 1 : Nat) : Int)) rfl (by kernel_rfl) (by kernel_rfl) (by kernel_rfl) (fun _ _ _ h => h) (yif rfl fun w2 hw2 => hx_addI 2 _ _ rfl _ _ (by kernel_rfl) (by kernel_rfl) (hadd _)) trivial ?_
          refine wpAnyH_take (i := 7) (v := .agg (sl1 ps ((tk + 1 : Nat) : Int))) rfl (by kernel_rfl) (by kernel_rfl) (by kernel_rfl) (fun _ _ _ h => h) (yif rfl fun w2 hw2 => x_bld 40 _ rfl #[(0, .agg (bl ps)), (1, .int .i64 ((tk + 1 : Nat) : Int))] (by kernel_rfl) (sl1 ps ((tk + 1 : Nat) : Int)) (built_slot ps hps _)) trivial ?_
          refine wpAnyH_all (rs := [1, 8]) (by kernel_rfl) (by simp) fun i5 hi5 => ?_
          rcases two_of5 hi5 with rfl | rfl
          · refine op_value (v := .slice va xs.length vc) (w' := w6) rfl rfl (x_cell 24 (.tmp 15) rfl ⟨PB, 0, none⟩ (by kernel_rfl) _ Try.underlying24 rfl (P6.cell (plC_0 _ _ _))) ⟨trivial, ?_⟩
            refine wpAnyH_all (rs := [8]) (by kernel_rfl) (by simp) fun _ hi5 => ?_
            obtain rfl := one_of hi5
            refine op_value (v := .slice (some ⟨w6.heap.size, 0, none⟩) 1 1) (w' := w6.alloc (.cells (sl1 ps ((tk + 1 : Nat) : Int)) 40)) rfl rfl (x_bslice 24 1 _ rfl #[(0, .agg (sl1 ps ((tk + 1 : Nat) : Int)))] (by kernel_rfl) (run_oneSl _ ps hps _)) ⟨trivial, ?_⟩
            have hcell := one_cellsSl w6 (ps, ((tk + 1 : Nat) : Int))
            obtain ⟨gn, hgn⟩ : ∃ gn, gn = w6.heap.size := ⟨_, rfl⟩
            rw [← hgn]
            rw [← hgn] at hcell
            obtain ⟨w7, hw7⟩ : ∃ w9, w9 = w6.alloc (.cells (sl1 ps ((tk + 1 : Nat) : Int)) 40) := ⟨_, rfl⟩
            change ∀ j u, _ → (w6.alloc (.cells (sl1 ps ((tk + 1 : Nat) : Int)) 40)).cell? _ = _ at hcell
            have P7 := P6.alloc (.cells (sl1 ps ((tk + 1 : Nat) : Int)) 40)
            have R7 := R6.alloc (.cells (sl1 ps ((tk + 1 : Nat) : Int)) 40)
            have O7 := O6.step (b0 w6 (.cells (sl1 ps ((tk + 1 : Nat) : Int)) 40))
            have D7 := D6.step (b0 w6 (.cells (sl1 ps ((tk + 1 : Nat) : Int)) 40))
            have N7 := Lib.hid (N6.out.trans ((Only.refl g w6).step (Nat.le_of_lt D6.lt) (b0 w6 (.cells (sl1 ps ((tk + 1 : Nat) : Int)) 40))))
            have hs7 : B ≤ (w6.alloc (.cells (sl1 ps ((tk + 1 : Nat) : Int)) 40)).heap.size := by have := P6.lt; rw [World.size_alloc]; omega
            rw [← hw7] at hcell P7 R7 O7 D7 N7 hs7 ⊢
            clear P6 R6 O6 D6 N6 hw7 hgn
            refine wpAnyH_all (rs := [9]) (by kernel_rfl) (by simp) fun _ hi5 => ?_
            obtain rfl := one_of hi5
            refine op_wp rfl rfl fun Q' => wp_append_own _ (.tmp 16) (.tmp 23) 24 rfl B 40 i1 (.agg #[.bool false, .bool false, .bool false, .bool false, .bool false, .bool false, .bool false, .bool false, .int .i64 0]) 9 16 Try.underlying24 hi1 hy0 hy1 hy2 rfl (by decide) (.slice va xs.length vc) xs.length _ (by kernel_rfl) O7 ⟨gn, 0, none⟩ 1 1 (sll (ps, ((tk + 1 : Nat) : Int))) (by kernel_rfl) (sll_len (s := (ps, ((tk + 1 : Nat) : Int))) hps) hcell (sll_one _) (by unfold maxLen; omega) (by omega) hs7 ?_
            intro v' w8 hown hgrow _
            have O8 : OwnSl w8 B v' (xs ++ [(ps, ((tk + 1 : Nat) : Int))]) := OwnSl.grown hown
            have hba : Below B w7 w8 := BelowSl.grownBy hgrow hs7 (fun q hq => (O7.block q hq).1)
            have P8 := P7.keepP hgrow (fun q hq e => by have := (O7.block q hq).1; omega)
            have R8 := R7.keepP hgrow (fun q hq e => by have := (O7.block q hq).1; omega)
            have D8 := D7.keepD hba (by omega)
            have N8 := Lib.hid (N7.out.keepB hba (by omega) (by omega))
            clear P7 R7 O7 D7 N7 hown hgrow hcell hba
            refine ⟨trivial, ?_⟩
            obtain ⟨xa, xc, hv'⟩ := O8.any
            subst hv'
            refine wpAnyH_take (i := 10) (v := .pointer (some ⟨PB, 0, none⟩)) rfl (by kernel_rfl) (by kernel_rfl) (by kernel_rfl) (fun _ _ _ h => h) (yif rfl fun w2 hw2 => by kernel_rfl) trivial ?_
            have hst : (Instr.storeAt 24 (.pointer (some ⟨PB, 0, none⟩)) (.slice xa (xs ++ [(ps, ((tk + 1 : Nat) : Int))]).length xc)).run Try.prog w8 = .ok () (w8.setRow PB (plC (.slice xa (xs ++ [(ps, ((tk + 1 : Nat) : Int))]).length xc) b 0)) := by
              have := run_storeAt_one (P := Try.prog) w8 PB 0 26 24 (plC (.slice va xs.length vc) b 0) (.slice xa (xs ++ [(ps, ((tk + 1 : Nat) : Int))]).length xc) P8 (by kernel_rfl) (by rw [plC_size]; omega) rfl
              rwa [plC_s0] at this
            refine wpAnyH_all (rs := [11]) (by kernel_rfl) (by simp) fun _ hi5 => ?_
            obtain rfl := one_of hi5
            refine op_skip (w' := w8.setRow PB (plC (.slice xa (xs ++ [(ps, ((tk + 1 : Nat) : Int))]).length xc) b 0)) rfl rfl (hx_store 24 (.tmp 25) (.tmp 24) rfl (.pointer (some ⟨PB, 0, none⟩)) (.slice xa (xs ++ [(ps, ((tk + 1 : Nat) : Int))]).length xc) (by kernel_rfl) (by kernel_rfl) hst) ⟨trivial, ?_⟩
            refine wpAnyH_done (by kernel_rfl) ?_ _
            have P9 := P8.setRow (plC (.slice xa (xs ++ [(ps, ((tk + 1 : Nat) : Int))]).length xc) b 0)
            have R9 := R8.setRow_other (k := PB) (by omega) (plC (.slice xa (xs ++ [(ps, ((tk + 1 : Nat) : Int))]).length xc) b 0)
            have O9 := O8.setRow_other (g := PB) (fun q hq => by have := (O8.block q hq).1; omega) (plC (.slice xa (xs ++ [(ps, ((tk + 1 : Nat) : Int))]).length xc) b 0)
            have D9 := (D8.row (r := PB) (by omega) (by omega) (plC (.slice xa (xs ++ [(ps, ((tk + 1 : Nat) : Int))]).length xc) b 0)).more (k2 := k + 2 + 9 * (xs ++ [(ps, ((tk + 1 : Nat) : Int))]).length) (by rw [List.length_append, List.length_singleton]; omega)
            have N9 := Lib.hid (N8.out.row (r := PB) (by omega) (by omega) (plC (.slice xa (xs ++ [(ps, ((tk + 1 : Nat) : Int))]).length xc) b 0))
            have hT9 := hT.next (ps := ps) htk
            have hW9 := hW.next hps htk
            have hj9 : (xs ++ [(ps, ((tk + 1 : Nat) : Int))]).length + (j - 1) ≤ 4 := by rw [List.length_append, List.length_singleton]; omega
            have hj1 : 1 ≤ (xs ++ [(ps, ((tk + 1 : Nat) : Int))]).length + (j - 1) := by rw [List.length_append, List.length_singleton]; omega
            clear P8 R8 O8 D8 N8 hst hT hW
            generalize hxx : xs ++ [(ps, ((tk + 1 : Nat) : Int))] = xs' at *
            clear hxx
            generalize World.setRow _ PB _ = w9 at P9 R9 O9 D9 N9 ⊢
            go_simp
            go_wp2_with fail
            exact ⟨⟨j - 1, xa, xc, xs', rfl, hj9, hj1, O9, P9, R9, hT9, hW9, D9, N9⟩, by simp [intOf]; omega⟩
          · refine op_value (v := .slice (some ⟨w6.heap.size, 0, none⟩) 1 1) (w' := w6.alloc (.cells (sl1 ps ((tk + 1 : Nat) : Int)) 40)) rfl rfl (x_bslice 24 1 _ rfl #[(0, .agg (sl1 ps ((tk + 1 : Nat) : Int)))] (by kernel_rfl) (run_oneSl _ ps hps _)) ⟨trivial, ?_⟩
            have hcell := one_cellsSl w6 (ps, ((tk + 1 : Nat) : Int))
            obtain ⟨gn, hgn⟩ : ∃ gn, gn = w6.heap.size := ⟨_, rfl⟩
            rw [← hgn]
            rw [← hgn] at hcell
            obtain ⟨w7, hw7⟩ : ∃ w9, w9 = w6.alloc (.cells (sl1 ps ((tk + 1 : Nat) : Int)) 40) := ⟨_, rfl⟩
            change ∀ j u, _ → (w6.alloc (.cells (sl1 ps ((tk + 1 : Nat) : Int)) 40)).cell? _ = _ at hcell
            have P7 := P6.alloc (.cells (sl1 ps ((tk + 1 : Nat) : Int)) 40)
            have R7 := R6.alloc (.cells (sl1 ps ((tk + 1 : Nat) : Int)) 40)
            have O7 := O6.step (b0 w6 (.cells (sl1 ps ((tk + 1 : Nat) : Int)) 40))
            have D7 := D6.step (b0 w6 (.cells (sl1 ps ((tk + 1 : Nat) : Int)) 40))
            have N7 := Lib.hid (N6.out.trans ((Only.refl g w6).step (Nat.le_of_lt D6.lt) (b0 w6 (.cells (sl1 ps ((tk + 1 : Nat) : Int)) 40))))
            have hs7 : B ≤ (w6.alloc (.cells (sl1 ps ((tk + 1 : Nat) : Int)) 40)).heap.size := by have := P6.lt; rw [World.size_alloc]; omega
            rw [← hw7] at hcell P7 R7 O7 D7 N7 hs7 ⊢
            clear P6 R6 O6 D6 N6 hw7 hgn
            refine wpAnyH_all (rs := [1]) (by kernel_rfl) (by simp) fun _ hi5 => ?_
            obtain rfl := one_of hi5
            refine op_value (v := .slice va xs.length vc) (w' := w7) rfl rfl (x_cell 24 (.tmp 15) rfl ⟨PB, 0, none⟩ (by kernel_rfl) _ Try.underlying24 rfl (P7.cell (plC_0 _ _ _))) ⟨trivial, ?_⟩
            refine wpAnyH_all (rs := [9]) (by kernel_rfl) (by simp) fun _ hi5 => ?_
            obtain rfl := one_of hi5
            refine op_wp rfl rfl fun Q' => wp_append_own _ (.tmp 16) (.tmp 23) 24 rfl B 40 i1 (.agg #[.bool false, .bool false, .bool false, .bool false, .bool false, .bool false, .bool false, .bool false, .int .i64 0]) 9 16 Try.underlying24 hi1 hy0 hy1 hy2 rfl (by decide) (.slice va xs.length vc) xs.length _ (by kernel_rfl) O7 ⟨gn, 0, none⟩ 1 1 (sll (ps, ((tk + 1 : Nat) : Int))) (by kernel_rfl) (sll_len (s := (ps, ((tk + 1 : Nat) : Int))) hps) hcell (sll_one _) (by unfold maxLen; omega) (by omega) hs7 ?_
            intro v' w8 hown hgrow _
            have O8 : OwnSl w8 B v' (xs ++ [(ps, ((tk + 1 : Nat) : Int))]) := OwnSl.grown hown
            have hba : Below B w7 w8 := BelowSl.grownBy hgrow hs7 (fun q hq => (O7.block q hq).1)
            have P8 := P7.keepP hgrow (fun q hq e => by have := (O7.block q hq).1; omega)
            have R8 := R7.keepP hgrow (fun q hq e => by have := (O7.block q hq).1; omega)
            have D8 := D7.keepD hba (by omega)
            have N8 := Lib.hid (N7.out.keepB hba (by omega) (by omega))
            clear P7 R7 O7 D7 N7 hown hgrow hcell hba
            refine ⟨trivial, ?_⟩
            obtain ⟨xa, xc, hv'⟩ := O8.any
            subst hv'
            refine wpAnyH_take (i := 10) (v := .pointer (some ⟨PB, 0, none⟩)) rfl (by kernel_rfl) (by kernel_rfl) (by kernel_rfl) (fun _ _ _ h => h) (yif rfl fun w2 hw2 => by kernel_rfl) trivial ?_
            have hst : (Instr.storeAt 24 (.pointer (some ⟨PB, 0, none⟩)) (.slice xa (xs ++ [(ps, ((tk + 1 : Nat) : Int))]).length xc)).run Try.prog w8 = .ok () (w8.setRow PB (plC (.slice xa (xs ++ [(ps, ((tk + 1 : Nat) : Int))]).length xc) b 0)) := by
              have := run_storeAt_one (P := Try.prog) w8 PB 0 26 24 (plC (.slice va xs.length vc) b 0) (.slice xa (xs ++ [(ps, ((tk + 1 : Nat) : Int))]).length xc) P8 (by kernel_rfl) (by rw [plC_size]; omega) rfl
              rwa [plC_s0] at this
            refine wpAnyH_all (rs := [11]) (by kernel_rfl) (by simp) fun _ hi5 => ?_
            obtain rfl := one_of hi5
            refine op_skip (w' := w8.setRow PB (plC (.slice xa (xs ++ [(ps, ((tk + 1 : Nat) : Int))]).length xc) b 0)) rfl rfl (hx_store 24 (.tmp 25) (.tmp 24) rfl (.pointer (some ⟨PB, 0, none⟩)) (.slice xa (xs ++ [(ps, ((tk + 1 : Nat) : Int))]).length xc) (by kernel_rfl) (by kernel_rfl) hst) ⟨trivial, ?_⟩
            refine wpAnyH_done (by kernel_rfl) ?_ _
            have P9 := P8.setRow (plC (.slice xa (xs ++ [(ps, ((tk + 1 : Nat) : Int))]).length xc) b 0)
            have R9 := R8.setRow_other (k := PB) (by omega) (plC (.slice xa (xs ++ [(ps, ((tk + 1 : Nat) : Int))]).length xc) b 0)
            have O9 := O8.setRow_other (g := PB) (fun q hq => by have := (O8.block q hq).1; omega) (plC (.slice xa (xs ++ [(ps, ((tk + 1 : Nat) : Int))]).length xc) b 0)
            have D9 := (D8.row (r := PB) (by omega) (by omega) (plC (.slice xa (xs ++ [(ps, ((tk + 1 : Nat) : Int))]).length xc) b 0)).more (k2 := k + 2 + 9 * (xs ++ [(ps, ((tk + 1 : Nat) : Int))]).length) (by rw [List.length_append, List.length_singleton]; omega)
            have N9 := Lib.hid (N8.out.row (r := PB) (by omega) (by omega) (plC (.slice xa (xs ++ [(ps, ((tk + 1 : Nat) : Int))]).length xc) b 0))
            have hT9 := hT.next (ps := ps) htk
            have hW9 := hW.next hps htk
            have hj9 : (xs ++ [(ps, ((tk + 1 : Nat) : Int))]).length + (j - 1) ≤ 4 := by rw [List.length_append, List.length_singleton]; omega
            have hj1 : 1 ≤ (xs ++ [(ps, ((tk + 1 : Nat) : Int))]).length + (j - 1) := by rw [List.length_append, List.length_singleton]; omega
            clear P8 R8 O8 D8 N8 hst hT hW
            generalize hxx : xs ++ [(ps, ((tk + 1 : Nat) : Int))] = xs' at *
            clear hxx
            generalize World.setRow _ PB _ = w9 at P9 R9 O9 D9 N9 ⊢
            go_simp
            go_wp2_with fail
            exact ⟨⟨j - 1, xa, xc, xs', rfl, hj9, hj1, O9, P9, R9, hT9, hW9, D9, N9⟩, by simp [intOf]; omega⟩
    · obtain rfl : j = 0 := by omega
      have hn0 : xs.length ≠ 0 := by omega
      obtain ⟨G, cap, zs, hv, hlG, A3⟩ := O3.atZ hn0 hW
      injection hv with hv1 _ hv2
      replace hv2 := hv2.symm
      subst hv1
      subst hv2
      obtain ⟨c, hc, hc1, hc2⟩ := tkD_cyc hT (b := b) (by omega) (by omega) hb
      have KC := l04CycleZ_any cap zs PB 26 G xs b 0 hW 40 (by omega) (by omega) wr P3 A3
      have hco := tkD_cOk hT hb hc hc2
      go_wp2_with fail
      refine KC.mono ?_
      rintro e w5 ⟨s, rfl, hs, hb5⟩
      have hs1 := hs.1 hco
      rw [hc] at hs1
      subst hs1
      have P5 := P3.step hb5
      have R5 := R3.step hb5
      have A5 := A3.step hb5
      have D5 := D3.step hb5
      have N5 := Lib.hid (N3.out.trans ((Only.refl g wr).step (Nat.le_of_lt D3.lt) hb5))
      clear KC P3 R3 A3 D3 N3 O3 hb5 hs
      go_wp2_with fail
      refine (pick_z D5 (by omega) c (by omega) (by omega)).mono ?_
      rintro e w6 ⟨o, rfl, ho, Oa, D6⟩
      have P6 := Oa.at P5 (by omega)
      have R6 := Oa.at R5 (by omega)
      have A6 := Oa.at A5 (by omega)
      have N6 := Lib.hid (N5.out.trans Oa)
      clear P5 R5 A5 D5 N5 Oa
      have P7 := P6.setRow (plC (.slice (some ⟨G, 0, none⟩) xs.length cap) b o)
      have R7 := R6.setRow_other (k := PB) (by omega) (plC (.slice (some ⟨G, 0, none⟩) xs.length cap) b o)
      have A7 := A6.setRow_other (k := PB) (by omega) (plC (.slice (some ⟨G, 0, none⟩) xs.length cap) b o)
      have D7 := D6.row (r := PB) (by omega) (by omega) (plC (.slice (some ⟨G, 0, none⟩) xs.length cap) b o)
      have N7 := Lib.hid (N6.out.row (r := PB) (by omega) (by omega) (plC (.slice (some ⟨G, 0, none⟩) xs.length cap) b o))
      have R8 := R7.setRow (plC (.slice (some ⟨G, 0, none⟩) xs.length cap) b o)
      have A8 := A7.setRow_other (k := w.heap.size) (by omega) (plC (.slice (some ⟨G, 0, none⟩) xs.length cap) b o)
      have D8 := (D7.row (r := w.heap.size) (by omega) (by omega) (plC (.slice (some ⟨G, 0, none⟩) xs.length cap) b o)).more (k2 := k + 60) (by omega)
      have N8 := Lib.hid (N7.out.row (r := w.heap.size) (by omega) (by omega) (plC (.slice (some ⟨G, 0, none⟩) xs.length cap) b o))
      go_wp2_with (first
        | ((with_reducible refine is_store 2 _ _ rfl ?_); refine wpList_store_cell rfl 2 _ _ rfl _ 2 rfl (.int .i64 o) rfl (plC (.slice (some ⟨G, 0, none⟩) xs.length cap) b 0) _ P6 (by rw [plC_size]; omega) (by kernel_rfl) rfl (plC (.slice (some ⟨G, 0, none⟩) xs.length cap) b o) (plC_s2 _ _ _ _) ?_)
        | ((with_reducible refine is_load 26 _ rfl ?_); refine wpList_load_at rfl 26 _ rfl _ rfl (plC (.slice (some ⟨G, 0, none⟩) xs.length cap) b o) _ P7 3 (plC_size _ _ _) _ Try.underlying26 rfl (by kernel_rfl) ?_)
        | ((with_reducible refine is_store 26 _ _ rfl ?_); refine wpList_store_at rfl 26 _ _ rfl _ rfl (plC (.slice (some ⟨G, 0, none⟩) xs.length cap) b o) rfl (#[.slice none 0 0, .int .i64 0, .int .i64 0]) _ R7 3 (plC_size _ _ _) rfl (by kernel_rfl) (pl_one _ rfl _ _) ?_))
      exact bodyPost_ret (v := .agg (plC (.slice (some ⟨G, 0, none⟩) xs.length cap) b o)) (results_at (p := 2) (ty := 26) rfl _ _ _ (plC (.slice (some ⟨G, 0, none⟩) xs.length cap) b o) _ rfl R8 _ Try.underlying26 rfl 3 (plC_size _ _ _) (by kernel_rfl)) rfl ⟨G, cap, zs, xs, b, o, rfl, by omega, A8, hW, tkD_okP hT (by omega) (by omega) hb hc hc2 ho, by omega, by omega, hT, hb, N8.out, D8⟩

end Go.Proofs.Ytldchcjnepnjnaa
