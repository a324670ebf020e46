/-
  SEVERAL TEXTS IN ONE.
-/
import Derived.Test.YtboahhipobcabaaGreatG6
import Derived.Test.YtboahhipobcabaaGreatG5
import Derived.Deep.LoopGhost
import Derived.IntWalk
import Derived.Test.YtboahhipobcabaaGreatG8

/-
  CONTRACTS: four rows of four numbers, a law's made the program's, and held against each other.
-/
namespace Go.Proofs.YtboahhipobcabaaGreat
open Go Go.RowKit
set_option maxRecDepth 100000

theorem toFlows_any (ts : List Nat) (hl : ts.length = 16) (w : World) :
    Calls Tryz.prog 138 #[.agg (fl ts)] w fun e w' => e = .returned (.agg (fl ts)) ∧ Below w.heap.size w w' := by
  have A0 : At (((w.alloc (.cells (fl ts) 66)).alloc (.cells (fl (zeros 16)) 67)).alloc (.cells (fl (zeros 16)) 67)) w.heap.size (fl ts) 66 := ((At.new w _ _).alloc _).alloc _
  have R0 : At (((w.alloc (.cells (fl ts) 66)).alloc (.cells (fl (zeros 16)) 67)).alloc (.cells (fl (zeros 16)) 67)) (w.heap.size + 1) (fl (zeros 16)) 67 := (At.last1 w _ _ _).alloc _
  have L0 : At (((w.alloc (.cells (fl ts) 66)).alloc (.cells (fl (zeros 16)) 67)).alloc (.cells (fl (zeros 16)) 67)) (w.heap.size + 1 + 1) (fl (cpR ts 0)) 67 := by
    have := At.new ((w.alloc (.cells (fl ts) 66)).alloc (.cells (fl (zeros 16)) 67)) (fl (zeros 16)) 67
    rw [cpR_zero]
    rwa [World.size_alloc, World.size_alloc] at this
  have B0 := Lib.hid (bnew (bnew (b0 w (.cells (fl ts) 66)) (.cells (fl (zeros 16)) 67)) (.cells (fl (zeros 16)) 67))
  have SZ : (fl ts).size = 16 := by rw [fl_size, hl]
  go_enter Tryz.func138, Tryz.ntmps138
  go_wp2
  go_loopw [4] (fun i wr => ∃ k : Nat, k ≤ 4 ∧ i = .int .i64 k ∧ At wr w.heap.size (fl ts) 66 ∧ At wr (w.heap.size + 1) (fl (zeros 16)) 67 ∧ At wr (w.heap.size + 1 + 1) (fl (cpR ts k)) 67 ∧ Hid (Below w.heap.size w wr)) (fun i _ => 4 - (intOf i).toNat)
  case atStart => exact ⟨0, by omega, rfl, A0, R0, L0, B0⟩
  case round =>
    clear A0 R0 L0 B0
    obtain ⟨k, hk, rfl, A1, R1, L1, B1⟩ := hrel
    by_cases hlt : k < 4
    · have rl := row4_len hl hlt
      have s2 : IntKind.i64.wrap ((k : Int) + 1) = (k : Int) + 1 := IntWalk.i64_in _ (by omega)
      go_wp2_with (((with_reducible refine is_load 65 _ rfl ?_); refine wpList_load_part rfl 65 _ rfl _ _ rfl (fl ts) _ (by assumption) 4 (by rw [SZ]; omega) _ Tryz.underlying65 rfl (by kernel_rfl) (fl (row4 ts k)) (fl_row hl hlt (by omega)) ?_))
      refine (toFloat32A4_any (row4 ts k) rl _).mono ?_
      rintro e w2 ⟨rfl, hb2⟩
      have A2 := A1.step hb2
      have R2 := R1.step hb2
      have L2 := L1.step hb2
      have B2 := Lib.hid (bthen B1.out hb2)
      clear A1 R1 L1 B1 hb2
      have A3 := A2.setRow_other (k := w.heap.size + 1 + 1) (by omega) (fl (cpR ts (k + 1)))
      have R3 := R2.setRow_other (k := w.heap.size + 1 + 1) (by omega) (fl (cpR ts (k + 1)))
      have L3 := L2.setRow (fl (cpR ts (k + 1)))
      have B3 := Lib.hid (bset B2.out (g := w.heap.size + 1 + 1) (by omega) (fl (cpR ts (k + 1))))
      go_wp2_with (((with_reducible refine is_store 65 (.tmp 14) (.tmp 13) rfl ?_); refine wpList_store_part rfl 65 (.tmp 14) (.tmp 13) rfl _ _ rfl (fl (row4 ts k)) rfl (fl (cpR ts k)) _ (by assumption) 4 (by rw [fl_size, rl]) (by rw [fl_size, cpR_len hl (by omega)]; omega) (by kernel_rfl) (fl_one _) (fl (cpR ts (k + 1))) (cpR_splice hl hlt (by omega)) ?_))
      exact ⟨⟨k + 1, by omega, by go_num, A3, R3, L3, B3⟩, by simp [intOf]; omega⟩
    · obtain rfl : k = 4 := by omega
      rw [cpR_all hl] at L1
      have R9 := R1.setRow (fl ts)
      have B9 := Lib.hid (bset B1.out (g := w.heap.size + 1) (by omega) (fl ts))
      go_wp2_with (first | ((with_reducible refine is_load 67 _ rfl ?_); refine wpList_load_at rfl 67 _ rfl _ rfl (fl ts) _ (by assumption) 16 (SZ) _ Tryz.underlying67 rfl (by kernel_rfl) ?_) | ((with_reducible refine is_store 67 (.tmp 2) (.tmp 15) rfl ?_); refine wpList_store_at rfl 67 (.tmp 2) (.tmp 15) rfl _ rfl (fl ts) rfl (fl (zeros 16)) _ (by assumption) 16 (SZ) (by rw [fl_size, zeros_len]) (by kernel_rfl) (fl_one _) ?_))
      exact bodyPost_ret (v := .agg (fl ts)) (results_at (p := 2) (ty := 67) rfl _ _ _ (fl ts) _ rfl R9 _ Tryz.underlying67 rfl 16 SZ (by kernel_rfl)) rfl ⟨rfl, B9.out⟩

theorem eqFlows_same (ts : List Nat) (hl : ts.length = 16) (hc : ∀ x ∈ ts, x < 4294967296 ∧ nanB x = false) (w : World) :
    Calls Tryz.prog 141 #[.agg (fl ts), .agg (fl ts)] w fun e w' => e = .returned (.bool true) ∧ Below w.heap.size w w' := by
  have SZ : (fl ts).size = 16 := by rw [fl_size, hl]
  go_enter Tryz.func141, Tryz.ntmps141
  go_wp2
  go_loopw [5] (fun i wr => ∃ k : Nat, k ≤ 4 ∧ i = .int .i64 k ∧ Two w (fl ts) 67 (fl ts) 67 wr) (fun i _ => 4 - (intOf i).toNat)
  case atStart => exact ⟨0, by omega, rfl, Two.mk _ _ _ _ _⟩
  case round =>
    obtain ⟨k, hk, rfl, hT⟩ := hrel
    by_cases hlt : k < 4
    · have A1 : At wr w.heap.size (fl ts) 67 := hT.1
      have A2 : At wr (w.heap.size + 1) (fl ts) 67 := hT.2.1
      have rl := row4_len hl hlt
      have s2 : IntKind.i64.wrap ((k : Int) + 1) = (k : Int) + 1 := IntWalk.i64_in _ (by omega)
      have hC := Cb.const wr
      go_wp2
      refine wp_region_cb (by kernel_rfl) (by kernel_rfl) ?_
      repeat (first
        | go_big_quiet_skip
        | (go_big_quiet_want; first
          | (refine q_part 65 _ rfl _ rfl A1 4 (by rw [SZ]; omega) _ Tryz.underlying65 rfl (by kernel_rfl) (fl (row4 ts k)) (fl_row hl hlt (by omega)) ?_; go_simp; go_big_quiet_on)
          | (refine q_part 65 _ rfl _ rfl A2 4 (by rw [SZ]; omega) _ Tryz.underlying65 rfl (by kernel_rfl) (fl (row4 ts k)) (fl_row hl hlt (by omega)) ?_; go_simp; go_big_quiet_on)
          | (go_big_quiet_op; go_big_quiet_on)
          | (go_big_quiet_op; apply Exists.intro; refine ⟨fun w' hw' => ?_, ?_⟩; (go_at_call 164; exact (eqFloat32A4_same (row4 ts k) rl (fun x hx => hc x (row4_mem k hx)) _).mono fun _ _ h => ⟨h.1, hw'.step h.2⟩); go_big_quiet_on)))
      refine wpQuiet_nil ?_
      intro w2 hw2
      have hT2 := hT.step hw2
      go_wp2
      exact ⟨⟨k + 1, by omega, by go_num, hT2⟩, by simp [intOf]; omega⟩
    · go_wp2
      go_ret
      exact ⟨rfl, hT.2.2⟩

end Go.Proofs.YtboahhipobcabaaGreat

/-
  CONTRACTS: a law's junction made the program's; two junctions held against each other; the shape of a junction.
-/
namespace Go.Proofs.YtboahhipobcabaaGreat
open Go Go.RowKit
set_option maxRecDepth 100000

theorem shape_jn {W : World} {r : Reach} {base : Nat} {v : Value} (h : Value.okWide Tryz.prog W r base 116 v) : ∃ (i o : Int) (ts ps : List Nat), v = .agg (jn i o ts ps) ∧ (-9223372036854775808 ≤ i ∧ i ≤ 9223372036854775807) ∧ (-9223372036854775808 ≤ o ∧ o ≤ 9223372036854775807) ∧ ts.length = 16 ∧ ps.length = 4 ∧ (∀ x ∈ ts, x < 4294967296) ∧ ∀ x ∈ ps, x < 4294967296 := by
  have h' : ∃ cs, v = .agg cs ∧ cs.size = Tryz.prog.cellsOf 116 ∧ Row.okWide Tryz.prog W r base 116 cs := by
    unfold Value.okWide at h
    rw [Tryz.underlying116] at h
    simpa using h
  obtain ⟨cs, rfl, hsz, tys, hts, -, hcell⟩ := h'
  have ht : Tryz.prog.cellTypes Tryz.prog.depth 116 = some ([2, 2] ++ List.replicate 20 26) := by kernel_rfl
  have hc : Tryz.prog.cellsOf 116 = 22 := by kernel_rfl
  rw [ht] at hts
  obtain rfl := Option.some.inj hts
  rw [hc] at hsz
  have hint : ∀ k (hk : k < 2), ∃ x, cs[k]'(by omega) = .int .i64 x ∧ -9223372036854775808 ≤ x ∧ x ≤ 9223372036854775807 := by
    intro k hk
    obtain ⟨u, hu, hok⟩ := hcell k (cs[k]'(by omega)) (Array.getElem?_eq_getElem (by omega))
    have hu' : u = 2 := by
      rcases (by omega : k = 0 ∨ k = 1) with rfl | rfl <;> simp at hu <;> exact hu.symm
    subst hu'
    exact shape_i64 (by simpa [Value.okWide, Tryz.underlying2] using hok)
  have hfl : ∀ k (hk : k < 20), ∃ x, cs[k + 2]'(by omega) = .float .f32 x ∧ x < 4294967296 := by
    intro k hk
    obtain ⟨u, hu, hok⟩ := hcell (k + 2) (cs[k + 2]'(by omega)) (Array.getElem?_eq_getElem (by omega))
    have hl : ([2, 2] ++ List.replicate 20 26 : List TypeId).length = 22 := rfl
    rw [hl, Nat.mod_eq_of_lt (by omega), List.getElem?_append_right (by simp), List.getElem?_replicate, if_pos (by simp; omega)] at hu
    obtain rfl := Option.some.inj hu
    exact cell_f32 hok
  obtain ⟨i, e0, hi⟩ := hint 0 (by omega)
  obtain ⟨o, e1, ho⟩ := hint 1 (by omega)
  let fs : List Nat := (cs.toList.drop 2).map fun v => (match v with | .float _ x => x | _ => 0)
  have hfs : fs.length = 20 := by simp [fs, hsz]
  have hget : ∀ k (hk : k < 20), cs[k + 2]'(by omega) = .float .f32 (fs[k]'(by omega)) ∧ fs[k]'(by omega) < 4294967296 := by
    intro k hk
    obtain ⟨x, hx1, hx2⟩ := hfl k hk
    have : fs[k]'(by omega) = x := by simp [fs, Nat.add_comm 2 k, hx1]
    rw [this]
    exact ⟨hx1, hx2⟩
  have hmem : ∀ x ∈ fs, x < 4294967296 := by
    intro x hm
    obtain ⟨k, hk, rfl⟩ := List.mem_iff_getElem.1 hm
    exact (hget k (by omega)).2
  refine ⟨i, o, fs.take 16, fs.drop 16, ?_, hi, ho, by simp [hfs], by simp [hfs], fun x hx => hmem x (List.mem_of_mem_take hx), fun x hx => hmem x (List.mem_of_mem_drop hx)⟩
  congr 1
  apply Array.ext'
  rw [jn_list, List.take_append_drop]
  apply List.ext_getElem
  · simp [hsz, hfs]
  · intro k h1 h2
    match k, h1, h2 with
    | 0, _, _ => simpa using e0
    | 1, _, _ => simpa using e1
    | k + 2, h1, h2 =>
      have hk : k < 20 := by simp at h1; omega
      simpa using (hget k hk).1
theorem zlit : (#[.int .i64 0, .int .i64 0, .float .f32 0, .float .f32 0, .float .f32 0, .float .f32 0, .float .f32 0, .float .f32 0, .float .f32 0, .float .f32 0, .float .f32 0, .float .f32 0, .float .f32 0, .float .f32 0, .float .f32 0, .float .f32 0, .float .f32 0, .float .f32 0, .float .f32 0, .float .f32 0, .float .f32 0, .float .f32 0] : Array Value) = jn 0 0 (zeros 16) (zeros 4) := rfl
set_option maxHeartbeats 400000 in
theorem toJunction_any (i o : Int) (ts ps : List Nat) (hi : -9223372036854775808 ≤ i ∧ i ≤ 9223372036854775807) (ho : -9223372036854775808 ≤ o ∧ o ≤ 9223372036854775807) (hlt : ts.length = 16) (hlp : ps.length = 4) (hct : ∀ x ∈ ts, x < 4294967296) (hcp : ∀ x ∈ ps, x < 4294967296) (w : World) :
    Calls Tryz.prog 104 #[.agg (jn i o ts ps)] w fun e w' => e = .returned (.agg (jn i o ts ps)) ∧ Below w.heap.size w w' := by
  have A0 : At (((w.alloc (.cells (jn i o ts ps) 116)).alloc (.cells (#[.int .i64 0, .int .i64 0, .float .f32 0, .float .f32 0, .float .f32 0, .float .f32 0, .float .f32 0, .float .f32 0, .float .f32 0, .float .f32 0, .float .f32 0, .float .f32 0, .float .f32 0, .float .f32 0, .float .f32 0, .float .f32 0, .float .f32 0, .float .f32 0, .float .f32 0, .float .f32 0, .float .f32 0, .float .f32 0]) 70)).alloc (.cells (#[.int .i64 0, .int .i64 0, .float .f32 0, .float .f32 0, .float .f32 0, .float .f32 0, .float .f32 0, .float .f32 0, .float .f32 0, .float .f32 0, .float .f32 0, .float .f32 0, .float .f32 0, .float .f32 0, .float .f32 0, .float .f32 0, .float .f32 0, .float .f32 0, .float .f32 0, .float .f32 0, .float .f32 0, .float .f32 0]) 70)) w.heap.size (jn i o ts ps) 116 := ((At.new w _ _).alloc _).alloc _
  have R0 : At (((w.alloc (.cells (jn i o ts ps) 116)).alloc (.cells (#[.int .i64 0, .int .i64 0, .float .f32 0, .float .f32 0, .float .f32 0, .float .f32 0, .float .f32 0, .float .f32 0, .float .f32 0, .float .f32 0, .float .f32 0, .float .f32 0, .float .f32 0, .float .f32 0, .float .f32 0, .float .f32 0, .float .f32 0, .float .f32 0, .float .f32 0, .float .f32 0, .float .f32 0, .float .f32 0]) 70)).alloc (.cells (#[.int .i64 0, .int .i64 0, .float .f32 0, .float .f32 0, .float .f32 0, .float .f32 0, .float .f32 0, .float .f32 0, .float .f32 0, .float .f32 0, .float .f32 0, .float .f32 0, .float .f32 0, .float .f32 0, .float .f32 0, .float .f32 0, .float .f32 0, .float .f32 0, .float .f32 0, .float .f32 0, .float .f32 0, .float .f32 0]) 70)) (w.heap.size + 1) (#[.int .i64 0, .int .i64 0, .float .f32 0, .float .f32 0, .float .f32 0, .float .f32 0, .float .f32 0, .float .f32 0, .float .f32 0, .float .f32 0, .float .f32 0, .float .f32 0, .float .f32 0, .float .f32 0, .float .f32 0, .float .f32 0, .float .f32 0, .float .f32 0, .float .f32 0, .float .f32 0, .float .f32 0, .float .f32 0]) 70 := (At.last1 w _ _ _).alloc _
  have L0 : At (((w.alloc (.cells (jn i o ts ps) 116)).alloc (.cells (#[.int .i64 0, .int .i64 0, .float .f32 0, .float .f32 0, .float .f32 0, .float .f32 0, .float .f32 0, .float .f32 0, .float .f32 0, .float .f32 0, .float .f32 0, .float .f32 0, .float .f32 0, .float .f32 0, .float .f32 0, .float .f32 0, .float .f32 0, .float .f32 0, .float .f32 0, .float .f32 0, .float .f32 0, .float .f32 0]) 70)).alloc (.cells (#[.int .i64 0, .int .i64 0, .float .f32 0, .float .f32 0, .float .f32 0, .float .f32 0, .float .f32 0, .float .f32 0, .float .f32 0, .float .f32 0, .float .f32 0, .float .f32 0, .float .f32 0, .float .f32 0, .float .f32 0, .float .f32 0, .float .f32 0, .float .f32 0, .float .f32 0, .float .f32 0, .float .f32 0, .float .f32 0]) 70)) (w.heap.size + 1 + 1) (#[.int .i64 0, .int .i64 0, .float .f32 0, .float .f32 0, .float .f32 0, .float .f32 0, .float .f32 0, .float .f32 0, .float .f32 0, .float .f32 0, .float .f32 0, .float .f32 0, .float .f32 0, .float .f32 0, .float .f32 0, .float .f32 0, .float .f32 0, .float .f32 0, .float .f32 0, .float .f32 0, .float .f32 0, .float .f32 0]) 70 := by
    have := At.new ((w.alloc (.cells (jn i o ts ps) 116)).alloc (.cells (#[.int .i64 0, .int .i64 0, .float .f32 0, .float .f32 0, .float .f32 0, .float .f32 0, .float .f32 0, .float .f32 0, .float .f32 0, .float .f32 0, .float .f32 0, .float .f32 0, .float .f32 0, .float .f32 0, .float .f32 0, .float .f32 0, .float .f32 0, .float .f32 0, .float .f32 0, .float .f32 0, .float .f32 0, .float .f32 0]) 70)) (#[.int .i64 0, .int .i64 0, .float .f32 0, .float .f32 0, .float .f32 0, .float .f32 0, .float .f32 0, .float .f32 0, .float .f32 0, .float .f32 0, .float .f32 0, .float .f32 0, .float .f32 0, .float .f32 0, .float .f32 0, .float .f32 0, .float .f32 0, .float .f32 0, .float .f32 0, .float .f32 0, .float .f32 0, .float .f32 0]) 70
    rwa [World.size_alloc, World.size_alloc] at this
  have B0 := Lib.hid (bnew (bnew (b0 w (.cells (jn i o ts ps) 116)) (.cells (#[.int .i64 0, .int .i64 0, .float .f32 0, .float .f32 0, .float .f32 0, .float .f32 0, .float .f32 0, .float .f32 0, .float .f32 0, .float .f32 0, .float .f32 0, .float .f32 0, .float .f32 0, .float .f32 0, .float .f32 0, .float .f32 0, .float .f32 0, .float .f32 0, .float .f32 0, .float .f32 0, .float .f32 0, .float .f32 0]) 70)) (.cells (#[.int .i64 0, .int .i64 0, .float .f32 0, .float .f32 0, .float .f32 0, .float .f32 0, .float .f32 0, .float .f32 0, .float .f32 0, .float .f32 0, .float .f32 0, .float .f32 0, .float .f32 0, .float .f32 0, .float .f32 0, .float .f32 0, .float .f32 0, .float .f32 0, .float .f32 0, .float .f32 0, .float .f32 0, .float .f32 0]) 70))
  have L1 := L0.setRow (jn i 0 (zeros 16) (zeros 4))
  have A1 := A0.setRow_other (k := w.heap.size + 1 + 1) (by omega) (jn i 0 (zeros 16) (zeros 4))
  have R1 := R0.setRow_other (k := w.heap.size + 1 + 1) (by omega) (jn i 0 (zeros 16) (zeros 4))
  have B1 := Lib.hid (bset B0.out (g := w.heap.size + 1 + 1) (by omega) (jn i 0 (zeros 16) (zeros 4)))
  have L2 := L1.setRow (jn i o (zeros 16) (zeros 4))
  have A2 := A1.setRow_other (k := w.heap.size + 1 + 1) (by omega) (jn i o (zeros 16) (zeros 4))
  have R2 := R1.setRow_other (k := w.heap.size + 1 + 1) (by omega) (jn i o (zeros 16) (zeros 4))
  have B2 := Lib.hid (bset B1.out (g := w.heap.size + 1 + 1) (by omega) (jn i o (zeros 16) (zeros 4)))
  have SZ := jn_size hlt hlp i o
  go_enter Tryz.func104, Tryz.ntmps104
  go_wp2_with (first | ((with_reducible refine is_load 2 _ rfl ?_); refine wpList_load_cell rfl 2 _ rfl _ 0 rfl (jn i o ts ps) _ (by assumption) _ Tryz.underlying2 rfl (.int .i64 i) (jn_ins i o ts ps) ?_) | ((with_reducible refine is_load 2 _ rfl ?_); refine wpList_load_cell rfl 2 _ rfl _ 1 rfl (jn i o ts ps) _ (by assumption) _ Tryz.underlying2 rfl (.int .i64 o) (jn_outs i o ts ps) ?_) | ((with_reducible refine is_store 2 (.tmp 6) (.tmp 5) rfl ?_); refine wpList_store_cell rfl 2 (.tmp 6) (.tmp 5) rfl _ _ rfl (.int .i64 i) rfl (#[.int .i64 0, .int .i64 0, .float .f32 0, .float .f32 0, .float .f32 0, .float .f32 0, .float .f32 0, .float .f32 0, .float .f32 0, .float .f32 0, .float .f32 0, .float .f32 0, .float .f32 0, .float .f32 0, .float .f32 0, .float .f32 0, .float .f32 0, .float .f32 0, .float .f32 0, .float .f32 0, .float .f32 0, .float .f32 0]) _ (by assumption) (by rw [zlit, jn_size (zeros_len 16) (zeros_len 4)]; omega) (by kernel_rfl) rfl (jn i 0 (zeros 16) (zeros 4)) ((by rw [zlit]; exact jn_setIns _ _ _ _ _)) ?_) | ((with_reducible refine is_store 2 (.tmp 9) (.tmp 8) rfl ?_); refine wpList_store_cell rfl 2 (.tmp 9) (.tmp 8) rfl _ _ rfl (.int .i64 o) rfl (jn i 0 (zeros 16) (zeros 4)) _ (by assumption) (by rw [jn_size (zeros_len 16) (zeros_len 4)]; omega) (by kernel_rfl) rfl (jn i o (zeros 16) (zeros 4)) (jn_setOuts _ _ _ _ _) ?_) | ((with_reducible refine is_load 66 _ rfl ?_); refine wpList_load_part rfl 66 _ rfl _ 2 rfl (jn i o ts ps) _ (by assumption) 16 (by rw [SZ]; omega) _ Tryz.underlying66 rfl (by kernel_rfl) (fl ts) (jn_turns hlt hlp i o) ?_))
  refine (toFlows_any ts hlt _).mono ?_
  rintro e w1 ⟨rfl, hb1⟩
  have A3 := A2.step hb1
  have R3 := R2.step hb1
  have L3 := L2.step hb1
  have B3 := Lib.hid (bthen B2.out hb1)
  clear A0 R0 L0 B0 A1 R1 L1 B1 A2 R2 L2 B2 hb1
  have L4 := L3.setRow (jn i o ts (zeros 4))
  have A4 := A3.setRow_other (k := w.heap.size + 1 + 1) (by omega) (jn i o ts (zeros 4))
  have R4 := R3.setRow_other (k := w.heap.size + 1 + 1) (by omega) (jn i o ts (zeros 4))
  have B4 := Lib.hid (bset B3.out (g := w.heap.size + 1 + 1) (by omega) (jn i o ts (zeros 4)))
  go_wp2_with (first | ((with_reducible refine is_load 65 _ rfl ?_); refine wpList_load_part rfl 65 _ rfl _ 18 rfl (jn i o ts ps) _ (by assumption) 4 (by rw [SZ]; omega) _ Tryz.underlying65 rfl (by kernel_rfl) (fl ps) (jn_priors hlt hlp i o) ?_) | ((with_reducible refine is_store 67 (.tmp 13) (.tmp 12) rfl ?_); refine wpList_store_part rfl 67 (.tmp 13) (.tmp 12) rfl _ 2 rfl (fl ts) rfl (jn i o (zeros 16) (zeros 4)) _ (by assumption) 16 (by rw [fl_size, hlt]) (by rw [jn_size (zeros_len 16) (zeros_len 4)]; omega) (by kernel_rfl) (fl_one _) (jn i o ts (zeros 4)) (jn_spliceTurns (zeros_len 16) hlt _ _ _) ?_))
  refine (toFour_any ps hlp _).mono ?_
  rintro e w2 ⟨rfl, hb2⟩
  have R5 := R4.step hb2
  have L5 := L4.step hb2
  have B5 := Lib.hid (bthen B4.out hb2)
  clear A3 R3 L3 B3 A4 R4 L4 B4 hb2
  have L6 := L5.setRow (jn i o ts ps)
  have R6 := R5.setRow_other (k := w.heap.size + 1 + 1) (by omega) (jn i o ts ps)
  have B6 := Lib.hid (bset B5.out (g := w.heap.size + 1 + 1) (by omega) (jn i o ts ps))
  have R9 := R6.setRow (jn i o ts ps)
  have B9 := Lib.hid (bset B6.out (g := w.heap.size + 1) (by omega) (jn i o ts ps))
  go_wp2_with (first | ((with_reducible refine is_load 70 _ rfl ?_); refine wpList_load_at rfl 70 _ rfl _ rfl (jn i o ts ps) _ (by assumption) 22 (SZ) _ Tryz.underlying70 rfl (by kernel_rfl) ?_) | ((with_reducible refine is_store 68 (.tmp 17) (.tmp 16) rfl ?_); refine wpList_store_part rfl 68 (.tmp 17) (.tmp 16) rfl _ 18 rfl (fl ps) rfl (jn i o ts (zeros 4)) _ (by assumption) 4 (by rw [fl_size, hlp]) (by rw [jn_size hlt (zeros_len 4)]; omega) (by kernel_rfl) (fl_one _) (jn i o ts ps) (jn_splicePriors hlt (zeros_len 4) hlp _ _) ?_) | ((with_reducible refine is_store 70 (.tmp 2) (.tmp 18) rfl ?_); refine wpList_store_at rfl 70 (.tmp 2) (.tmp 18) rfl _ rfl (jn i o ts ps) rfl (#[.int .i64 0, .int .i64 0, .float .f32 0, .float .f32 0, .float .f32 0, .float .f32 0, .float .f32 0, .float .f32 0, .float .f32 0, .float .f32 0, .float .f32 0, .float .f32 0, .float .f32 0, .float .f32 0, .float .f32 0, .float .f32 0, .float .f32 0, .float .f32 0, .float .f32 0, .float .f32 0, .float .f32 0, .float .f32 0]) _ (by assumption) 22 (SZ) ((by rw [zlit]; exact jn_size (zeros_len 16) (zeros_len 4) _ _)) (by kernel_rfl) (jn_one _ _ _ _) ?_))
  exact bodyPost_ret (v := .agg (jn i o ts ps)) (results_at (p := 2) (ty := 70) rfl _ _ _ (jn i o ts ps) _ rfl R9 _ Tryz.underlying70 rfl 22 SZ (by kernel_rfl)) rfl ⟨rfl, B9.out⟩

theorem eqJunction_same (i o : Int) (ts ps : List Nat) (hlt : ts.length = 16) (hlp : ps.length = 4) (hct : ∀ x ∈ ts, x < 4294967296 ∧ nanB x = false) (hcp : ∀ x ∈ ps, x < 4294967296 ∧ nanB x = false) (w : World) :
    Calls Tryz.prog 110 #[.agg (jn i o ts ps), .agg (jn i o ts ps)] w fun e w' => e = .returned (.bool true) ∧ Below w.heap.size w w' := by
  have A1 : At ((w.alloc (.cells (jn i o ts ps) 70)).alloc (.cells (jn i o ts ps) 70)) w.heap.size (jn i o ts ps) 70 := (At.new w _ _).alloc _
  have A2 : At ((w.alloc (.cells (jn i o ts ps) 70)).alloc (.cells (jn i o ts ps) 70)) (w.heap.size + 1) (jn i o ts ps) 70 := At.last1 w _ _ _
  have B0 := Lib.hid (bnew (b0 w (.cells (jn i o ts ps) 70)) (.cells (jn i o ts ps) 70))
  have SZ := jn_size hlt hlp i o
  go_enter Tryz.func110, Tryz.ntmps110
  go_wp2_with (first | ((with_reducible refine is_load 2 _ rfl ?_); refine wpList_load_cell rfl 2 _ rfl _ 0 rfl (jn i o ts ps) _ (by assumption) _ Tryz.underlying2 rfl (.int .i64 i) (jn_ins i o ts ps) ?_) | ((with_reducible refine is_load 2 _ rfl ?_); refine wpList_load_cell rfl 2 _ rfl _ 1 rfl (jn i o ts ps) _ (by assumption) _ Tryz.underlying2 rfl (.int .i64 o) (jn_outs i o ts ps) ?_) | ((with_reducible refine is_load 67 _ rfl ?_); refine wpList_load_part rfl 67 _ rfl _ 2 rfl (jn i o ts ps) _ (by assumption) 16 (by rw [SZ]; omega) _ Tryz.underlying67 rfl (by kernel_rfl) (fl ts) (jn_turns hlt hlp i o) ?_))
  refine (eqFlows_same ts hlt hct _).mono ?_
  rintro e w1 ⟨rfl, hb1⟩
  have A3 := A1.step hb1
  have A4 := A2.step hb1
  have B1 := Lib.hid (bthen B0.out hb1)
  clear A1 A2 B0 hb1
  go_wp2_with (((with_reducible refine is_load 68 _ rfl ?_); refine wpList_load_part rfl 68 _ rfl _ 18 rfl (jn i o ts ps) _ (by assumption) 4 (by rw [SZ]; omega) _ Tryz.underlying68 rfl (by kernel_rfl) (fl ps) (jn_priors hlt hlp i o) ?_))
  refine (eqFour_same ps hlp hcp _).mono ?_
  rintro e w2 ⟨rfl, hb2⟩
  go_wp2_with fail
  go_ret
  exact ⟨rfl, bthen B1.out hb2⟩

end Go.Proofs.YtboahhipobcabaaGreat
