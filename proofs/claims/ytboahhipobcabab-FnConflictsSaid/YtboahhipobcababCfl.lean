/-
  CONTRACTS: conflicts of a phase.
-/
import Derived.Test.YtboahhipobcababTab
import Derived.OwnWalk
namespace Go.Proofs.Ytboahhipobcabab
open Go Go.ChangeShapes Go.WideShapes Go.ChangeAt Go.RowKit
set_option maxRecDepth 100000

def cfA (c : Option (Nat × Nat)) : Array Value := #[.int .i64 (cfI c), .int .i64 (cfK c), .bool (cfB c)]
theorem cf3_one (i k : Int) (b : Bool) : (#[.int .i64 i, .int .i64 k, .bool b] : Array Value).all (·.oneCell') = true := by simp [Value.oneCell']
theorem conflictIn_any (ts ps : List Bool) (hl : ts.length = 64) (hp : ps.length = 8) (w : World) :
    Calls Try.prog 92 #[.agg (bl ts), .agg (bl ps)] w fun e w' => e = .returned (.agg #[.int .i64 (cfI (conf ts ps)), .int .i64 (cfK (conf ts ps)), .bool (cfB (conf ts ps))]) ∧ Below w.heap.size w w' := by
  have A0 : At (((w.alloc (.cells (bl ts) 65)).alloc (.cells (bl ps) 69)).alloc (.cells #[.int .i64 0, .int .i64 0, .bool false] 143)) w.heap.size (bl ts) 65 := ((At.new w _ _).alloc _).alloc _
  have P0 : At (((w.alloc (.cells (bl ts) 65)).alloc (.cells (bl ps) 69)).alloc (.cells #[.int .i64 0, .int .i64 0, .bool false] 143)) (w.heap.size + 1) (bl ps) 69 := (At.last1 w _ _ _).alloc _
  have R0 : At (((w.alloc (.cells (bl ts) 65)).alloc (.cells (bl ps) 69)).alloc (.cells #[.int .i64 0, .int .i64 0, .bool false] 143)) (w.heap.size + 1 + 1) #[.int .i64 0, .int .i64 0, .bool false] 143 := by
    have := At.new ((w.alloc (.cells (bl ts) 65)).alloc (.cells (bl ps) 69)) #[.int .i64 0, .int .i64 0, .bool false] 143
    rwa [World.size_alloc, World.size_alloc] at this
  have B0 := Lib.hid (bnew (bnew (b0 w (.cells (bl ts) 65)) (.cells (bl ps) 69)) (.cells #[.int .i64 0, .int .i64 0, .bool false] 143))
  go_enter Try.func92, Try.ntmps92
  go_wp2
  go_loopw [7] (fun c wr => ∃ i : Nat, i ≤ 8 ∧ c = .int .i64 i ∧ Hid (hits ts ps (8 - i) = conf ts ps) ∧ At wr w.heap.size (bl ts) 65 ∧ At wr (w.heap.size + 1) (bl ps) 69 ∧ At wr (w.heap.size + 1 + 1) #[.int .i64 0, .int .i64 0, .bool false] 143 ∧ Hid (Below w.heap.size w wr)) (fun c _ => 8 - (intOf c).toNat)
  case atStart => exact ⟨0, by omega, rfl, Lib.hid rfl, A0, P0, R0, B0⟩
  case round =>
    clear A0 P0 R0 B0
    obtain ⟨i, hi, rfl, hall, A1, P1, R1, B1⟩ := hrel
    by_cases hlt : i < 8
    · have s2 : IntKind.i64.wrap ((i : Int) + 1) = (i : Int) + 1 := IntWalk.i64_in _ (by omega)
      go_wp2
      go_loopw [6] (fun c wr => ∃ k : Nat, i < k ∧ k ≤ 8 ∧ c = .int .i64 k ∧ Hid (rowHit ts ps i (8 - k) = rowHit ts ps i (7 - i)) ∧ At wr w.heap.size (bl ts) 65 ∧ At wr (w.heap.size + 1) (bl ps) 69 ∧ At wr (w.heap.size + 1 + 1) #[.int .i64 0, .int .i64 0, .bool false] 143 ∧ Hid (Below w.heap.size w wr)) (fun c _ => 8 - (intOf c).toNat)
      case atStart => exact ⟨i + 1, by omega, by omega, by go_num, Lib.hid (by rw [show 8 - (i + 1) = 7 - i from by omega]), A1, P1, R1, B1⟩
      case round =>
        clear A1 P1 R1 B1
        obtain ⟨k, hik, hk, rfl, hrow, A1, P1, R1, B1⟩ := hrel
        by_cases hk8 : k < 8
        · have s3 : IntKind.i64.wrap ((k : Int) + 1) = (k : Int) + 1 := IntWalk.i64_in _ (by omega)
          have c1 := ph_cell hp P1 (i := i) (by omega)
          have c2 := ph_cell hp P1 (i := k) (by omega)
          have c3 := tb_cell hl A1 (i := i) (k := k) (by omega) (by omega)
          cases ha : bn ps i
          · rw [ha] at c1
            have hno := Lib.hid (rowHit_no (ts := ts) hk8 rfl rfl (hit_a (k := k) ha))
            clear ha c2 c3
            go_wp2
            exact ⟨⟨k + 1, by omega, by omega, by go_num, Lib.hid (hno.out.symm.trans hrow.out), A1, P1, R1, B1⟩, by simp [intOf]; omega⟩
          · rw [ha] at c1
            cases hb : bn ps k
            · rw [hb] at c2
              have hno := Lib.hid (rowHit_no (ts := ts) hk8 rfl rfl (hit_b (i := i) hb))
              clear ha hb c3
              go_wp2
              exact ⟨⟨k + 1, by omega, by omega, by go_num, Lib.hid (hno.out.symm.trans hrow.out), A1, P1, R1, B1⟩, by simp [intOf]; omega⟩
            · rw [hb] at c2
              cases hc : tb ts i k
              · rw [hc] at c3
                have hno := Lib.hid (rowHit_no (ps := ps) hk8 rfl rfl (hit_c hc))
                clear ha hb hc
                go_wp2
                exact ⟨⟨k + 1, by omega, by omega, by go_num, Lib.hid (hno.out.symm.trans hrow.out), A1, P1, R1, B1⟩, by simp [intOf]; omega⟩
              · rw [hc] at c3
                have hyes := hits_yes hlt rfl (hrow.out.symm.trans (rowHit_yes hk8 rfl (hit_y ha hb hc)))
                clear ha hb hc
                have EV : conf ts ps = some (i, k) := hall.out.symm.trans hyes
                have EQ : Ending.returned (Value.agg #[.int .i64 (i : Int), .int .i64 (k : Int), .bool true]) = .returned (.agg #[.int .i64 (cfI (conf ts ps)), .int .i64 (cfK (conf ts ps)), .bool (cfB (conf ts ps))]) := by rw [EV]; rfl
                clear EV hyes
                have R9 := R1.setRow #[.int .i64 (i : Int), .int .i64 (k : Int), .bool true]
                have B9 := Lib.hid (bset B1.out (g := w.heap.size + 1 + 1) (by omega) #[.int .i64 (i : Int), .int .i64 (k : Int), .bool true])
                go_wp2_with (((with_reducible refine is_store 143 _ _ rfl ?_); refine wpList_store_at rfl 143 _ _ rfl _ rfl (#[.int .i64 (i : Int), .int .i64 (k : Int), .bool true]) rfl (#[.int .i64 0, .int .i64 0, .bool false]) _ (by assumption) 3 (rfl) (rfl) (by kernel_rfl) (cf3_one _ _ _) ?_))
                exact bodyPost_ret (v := .agg #[.int .i64 (i : Int), .int .i64 (k : Int), .bool true]) (results_at (p := 4) (ty := 143) rfl _ _ _ #[.int .i64 (i : Int), .int .i64 (k : Int), .bool true] _ rfl R9 _ Try.underlying143 rfl 3 rfl (by kernel_rfl)) rfl ⟨EQ, B9.out⟩
        · obtain rfl : k = 8 := by omega
          have hn := Lib.hid (hits_no hlt rfl rfl hrow.out.symm)
          go_wp2
          exact ⟨⟨i + 1, by omega, by go_num, Lib.hid (hn.out.symm.trans hall.out), A1, P1, R1, B1⟩, by simp [intOf]; omega⟩
    · obtain rfl : i = 8 := by omega
      have EV : conf ts ps = none := hall.out.symm
      have EQ : Ending.returned (Value.agg #[.int .i64 0, .int .i64 0, .bool false]) = .returned (.agg #[.int .i64 (cfI (conf ts ps)), .int .i64 (cfK (conf ts ps)), .bool (cfB (conf ts ps))]) := by rw [EV]; rfl
      clear EV
      have R9 := R1.setRow #[.int .i64 0, .int .i64 0, .bool false]
      have B9 := Lib.hid (bset B1.out (g := w.heap.size + 1 + 1) (by omega) #[.int .i64 0, .int .i64 0, .bool false])
      go_wp2_with (((with_reducible refine is_store 143 _ _ rfl ?_); refine wpList_store_at rfl 143 _ _ rfl _ rfl (#[.int .i64 0, .int .i64 0, .bool false]) rfl (#[.int .i64 0, .int .i64 0, .bool false]) _ (by assumption) 3 (rfl) (rfl) (by kernel_rfl) (cf3_one _ _ _) ?_))
      exact bodyPost_ret (v := .agg #[.int .i64 0, .int .i64 0, .bool false]) (results_at (p := 4) (ty := 143) rfl _ _ _ #[.int .i64 0, .int .i64 0, .bool false] _ rfl R9 _ Try.underlying143 rfl 3 rfl (by kernel_rfl)) rfl ⟨EQ, B9.out⟩

theorem l04Conflict_any (ts ps : List Bool) (hl : ts.length = 64) (hp : ps.length = 8) (g : Nat) (T : TypeId) (w : World) (A0 : At w g (bl ts) T) :
    Calls Try.prog 93 #[.pointer (some ⟨g, 0, none⟩), .agg (bl ps)] w fun e w' => e = .returned (.tuple #[.int .i64 (cfI (conf ts ps)), .int .i64 (cfK (conf ts ps)), .bool (cfB (conf ts ps))]) ∧ Below w.heap.size w w' := by
  have A0 := A0.alloc (.cells (bl ps) 69)
  have P0 := At.new w (bl ps) 69
  have B0 := Lib.hid (b0 w (.cells (bl ps) 69))
  go_enter Try.func93, Try.ntmps93
  go_wp2
  go_loopw [7] (fun c wr => ∃ i : Nat, i ≤ 8 ∧ c = .int .i64 i ∧ Hid (hits ts ps (8 - i) = conf ts ps) ∧ At wr g (bl ts) T ∧ At wr w.heap.size (bl ps) 69 ∧ Hid (Below w.heap.size w wr)) (fun c _ => 8 - (intOf c).toNat)
  case atStart => exact ⟨0, by omega, rfl, Lib.hid rfl, A0, P0, B0⟩
  case round =>
    clear A0 P0 B0
    obtain ⟨i, hi, rfl, hall, A1, P1, B1⟩ := hrel
    by_cases hlt : i < 8
    · have s2 : IntKind.i64.wrap ((i : Int) + 1) = (i : Int) + 1 := IntWalk.i64_in _ (by omega)
      go_wp2
      go_loopw [8] (fun c wr => ∃ k : Nat, i < k ∧ k ≤ 8 ∧ c = .int .i64 k ∧ Hid (rowHit ts ps i (8 - k) = rowHit ts ps i (7 - i)) ∧ At wr g (bl ts) T ∧ At wr w.heap.size (bl ps) 69 ∧ Hid (Below w.heap.size w wr)) (fun c _ => 8 - (intOf c).toNat)
      case atStart => exact ⟨i + 1, by omega, by omega, by go_num, Lib.hid (by rw [show 8 - (i + 1) = 7 - i from by omega]), A1, P1, B1⟩
      case round =>
        clear A1 P1 B1
        obtain ⟨k, hik, hk, rfl, hrow, A1, P1, B1⟩ := hrel
        by_cases hk8 : k < 8
        · have s3 : IntKind.i64.wrap ((k : Int) + 1) = (k : Int) + 1 := IntWalk.i64_in _ (by omega)
          have c1 := ph_cell hp P1 (i := i) (by omega)
          have c2 := ph_cell hp P1 (i := k) (by omega)
          have c3 := tb_cell hl A1 (i := i) (k := k) (by omega) (by omega)
          cases ha : bn ps i
          · rw [ha] at c1
            have hno := Lib.hid (rowHit_no (ts := ts) hk8 rfl rfl (hit_a (k := k) ha))
            clear ha c2 c3
            go_wp2
            exact ⟨⟨k + 1, by omega, by omega, by go_num, Lib.hid (hno.out.symm.trans hrow.out), A1, P1, B1⟩, by simp [intOf]; omega⟩
          · rw [ha] at c1
            cases hb : bn ps k
            · rw [hb] at c2
              have hno := Lib.hid (rowHit_no (ts := ts) hk8 rfl rfl (hit_b (i := i) hb))
              clear ha hb c3
              go_wp2
              exact ⟨⟨k + 1, by omega, by omega, by go_num, Lib.hid (hno.out.symm.trans hrow.out), A1, P1, B1⟩, by simp [intOf]; omega⟩
            · rw [hb] at c2
              cases hc : tb ts i k
              · rw [hc] at c3
                have hno := Lib.hid (rowHit_no (ps := ps) hk8 rfl rfl (hit_c hc))
                clear ha hb hc
                go_wp2
                exact ⟨⟨k + 1, by omega, by omega, by go_num, Lib.hid (hno.out.symm.trans hrow.out), A1, P1, B1⟩, by simp [intOf]; omega⟩
              · rw [hc] at c3
                have hyes := hits_yes hlt rfl (hrow.out.symm.trans (rowHit_yes hk8 rfl (hit_y ha hb hc)))
                clear ha hb hc
                have EV : conf ts ps = some (i, k) := hall.out.symm.trans hyes
                clear hyes
                go_wp2
                go_ret3
                exact ⟨by rw [EV]; rfl, B1.out⟩
        · obtain rfl : k = 8 := by omega
          have hn := Lib.hid (hits_no hlt rfl rfl hrow.out.symm)
          go_wp2
          exact ⟨⟨i + 1, by omega, by go_num, Lib.hid (hn.out.symm.trans hall.out), A1, P1, B1⟩, by simp [intOf]; omega⟩
    · obtain rfl : i = 8 := by omega
      have EV : conf ts ps = none := hall.out.symm
      go_wp2
      go_ret3
      exact ⟨by rw [EV]; rfl, B1.out⟩

end Go.Proofs.Ytboahhipobcabab
