/-
  CONTRACTS: a law's junction made the program's; two junctions held against each other; the shape of a junction.
-/
import Derived.Test.YtboahhipobcabaaFlows
import Derived.Test.YtboahhipobcabaaG7
import Derived.Test.YtboahhipobcabaaLaw
namespace Go.Proofs.Ytboahhipobcabaa
open Go Go.RowKit
set_option maxRecDepth 100000

theorem shape_jn {W : World} {r : Reach} {base : Nat} {v : Value} (h : Value.okWide Try.prog W r base 112 v) : ∃ (i o : Int) (ts ps : List Nat), v = .agg (jn i o ts ps) ∧ (-9223372036854775808 ≤ i ∧ i ≤ 9223372036854775807) ∧ (-9223372036854775808 ≤ o ∧ o ≤ 9223372036854775807) ∧ ts.length = 16 ∧ ps.length = 4 ∧ (∀ x ∈ ts, x < 4294967296) ∧ ∀ x ∈ ps, x < 4294967296 := by
  have h' : ∃ cs, v = .agg cs ∧ cs.size = Try.prog.cellsOf 112 ∧ Row.okWide Try.prog W r base 112 cs := by
    unfold Value.okWide at h
    rw [Try.underlying112] at h
    simpa using h
  obtain ⟨cs, rfl, hsz, tys, hts, -, hcell⟩ := h'
  have ht : Try.prog.cellTypes Try.prog.depth 112 = some ([2, 2] ++ List.replicate 20 26) := by kernel_rfl
  have hc : Try.prog.cellsOf 112 = 22 := by kernel_rfl
  rw [ht] at hts
  obtain rfl := Option.some.inj hts
  rw [hc] at hsz
  have hint : ∀ k (hk : k < 2), ∃ x, cs[k]'(by omega) = .int .i64 x ∧ -9223372036854775808 ≤ x ∧ x ≤ 9223372036854775807 := by
    intro k hk
    obtain ⟨u, hu, hok⟩ := hcell k (cs[k]'(by omega)) (Array.getElem?_eq_getElem (by omega))
    have hu' : u = 2 := by
      rcases (by omega : k = 0 ∨ k = 1) with rfl | rfl <;> simp at hu <;> exact hu.symm
    subst hu'
    exact shape_i64 (by simpa [Value.okWide, Try.underlying2] using hok)
  have hfl : ∀ k (hk : k < 20), ∃ x, cs[k + 2]'(by omega) = .float .f32 x ∧ x < 4294967296 := by
    intro k hk
    obtain ⟨u, hu, hok⟩ := hcell (k + 2) (cs[k + 2]'(by omega)) (Array.getElem?_eq_getElem (by omega))
    have hl : ([2, 2] ++ List.replicate 20 26 : List TypeId).length = 22 := rfl
    rw [hl, Nat.mod_eq_of_lt (by omega), List.getElem?_append_right (by simp), List.getElem?_replicate, if_pos (by simp; omega)] at hu
    obtain rfl := Option.some.inj hu
    exact cell_f32 hok
  obtain ⟨i, e0, hi⟩ := hint 0 (by omega)
  obtain ⟨o, e1, ho⟩ := hint 1 (by omega)
  let fs : List Nat := (cs.toList.drop 2).map fun v => (match v with | .float _ x => x | _ => 0)
  have hfs : fs.length = 20 := by simp [fs, hsz]
  have hget : ∀ k (hk : k < 20), cs[k + 2]'(by omega) = .float .f32 (fs[k]'(by omega)) ∧ fs[k]'(by omega) < 4294967296 := by
    intro k hk
    obtain ⟨x, hx1, hx2⟩ := hfl k hk
    have : fs[k]'(by omega) = x := by simp [fs, Nat.add_comm 2 k, hx1]
    rw [this]
    exact ⟨hx1, hx2⟩
  have hmem : ∀ x ∈ fs, x < 4294967296 := by
    intro x hm
    obtain ⟨k, hk, rfl⟩ := List.mem_iff_getElem.1 hm
    exact (hget k (by omega)).2
  refine ⟨i, o, fs.take 16, fs.drop 16, ?_, hi, ho, by simp [hfs], by simp [hfs], fun x hx => hmem x (List.mem_of_mem_take hx), fun x hx => hmem x (List.mem_of_mem_drop hx)⟩
  congr 1
  apply Array.ext'
  rw [jn_list, List.take_append_drop]
  apply List.ext_getElem
  · simp [hsz, hfs]
  · intro k h1 h2
    match k, h1, h2 with
    | 0, _, _ => simpa using e0
    | 1, _, _ => simpa using e1
    | k + 2, h1, h2 =>
      have hk : k < 20 := by simp at h1; omega
      simpa using (hget k hk).1
theorem zlit : (#[.int .i64 0, .int .i64 0, .float .f32 0, .float .f32 0, .float .f32 0, .float .f32 0, .float .f32 0, .float .f32 0, .float .f32 0, .float .f32 0, .float .f32 0, .float .f32 0, .float .f32 0, .float .f32 0, .float .f32 0, .float .f32 0, .float .f32 0, .float .f32 0, .float .f32 0, .float .f32 0, .float .f32 0, .float .f32 0] : Array Value) = jn 0 0 (zeros 16) (zeros 4) := rfl
set_option maxHeartbeats 400000 in
theorem toJunction_any (i o : Int) (ts ps : List Nat) (hi : -9223372036854775808 ≤ i ∧ i ≤ 9223372036854775807) (ho : -9223372036854775808 ≤ o ∧ o ≤ 9223372036854775807) (hlt : ts.length = 16) (hlp : ps.length = 4) (hct : ∀ x ∈ ts, x < 4294967296) (hcp : ∀ x ∈ ps, x < 4294967296) (w : World) :
    Calls Try.prog 104 #[.agg (jn i o ts ps)] w fun e w' => e = .returned (.agg (jn i o ts ps)) ∧ Below w.heap.size w w' := by
  have A0 : At (((w.alloc (.cells (jn i o ts ps) 112)).alloc (.cells (#[.int .i64 0, .int .i64 0, .float .f32 0, .float .f32 0, .float .f32 0, .float .f32 0, .float .f32 0, .float .f32 0, .float .f32 0, .float .f32 0, .float .f32 0, .float .f32 0, .float .f32 0, .float .f32 0, .float .f32 0, .float .f32 0, .float .f32 0, .float .f32 0, .float .f32 0, .float .f32 0, .float .f32 0, .float .f32 0]) 72)).alloc (.cells (#[.int .i64 0, .int .i64 0, .float .f32 0, .float .f32 0, .float .f32 0, .float .f32 0, .float .f32 0, .float .f32 0, .float .f32 0, .float .f32 0, .float .f32 0, .float .f32 0, .float .f32 0, .float .f32 0, .float .f32 0, .float .f32 0, .float .f32 0, .float .f32 0, .float .f32 0, .float .f32 0, .float .f32 0, .float .f32 0]) 72)) w.heap.size (jn i o ts ps) 112 := ((At.new w _ _).alloc _).alloc _
  have R0 : At (((w.alloc (.cells (jn i o ts ps) 112)).alloc (.cells (#[.int .i64 0, .int .i64 0, .float .f32 0, .float .f32 0, .float .f32 0, .float .f32 0, .float .f32 0, .float .f32 0, .float .f32 0, .float .f32 0, .float .f32 0, .float .f32 0, .float .f32 0, .float .f32 0, .float .f32 0, .float .f32 0, .float .f32 0, .float .f32 0, .float .f32 0, .float .f32 0, .float .f32 0, .float .f32 0]) 72)).alloc (.cells (#[.int .i64 0, .int .i64 0, .float .f32 0, .float .f32 0, .float .f32 0, .float .f32 0, .float .f32 0, .float .f32 0, .float .f32 0, .float .f32 0, .float .f32 0, .float .f32 0, .float .f32 0, .float .f32 0, .float .f32 0, .float .f32 0, .float .f32 0, .float .f32 0, .float .f32 0, .float .f32 0, .float .f32 0, .float .f32 0]) 72)) (w.heap.size + 1) (#[.int .i64 0, .int .i64 0, .float .f32 0, .float .f32 0, .float .f32 0, .float .f32 0, .float .f32 0, .float .f32 0, .float .f32 0, .float .f32 0, .float .f32 0, .float .f32 0, .float .f32 0, .float .f32 0, .float .f32 0, .float .f32 0, .float .f32 0, .float .f32 0, .float .f32 0, .float .f32 0, .float .f32 0, .float .f32 0]) 72 := (At.last1 w _ _ _).alloc _
  have L0 : At (((w.alloc (.cells (jn i o ts ps) 112)).alloc (.cells (#[.int .i64 0, .int .i64 0, .float .f32 0, .float .f32 0, .float .f32 0, .float .f32 0, .float .f32 0, .float .f32 0, .float .f32 0, .float .f32 0, .float .f32 0, .float .f32 0, .float .f32 0, .float .f32 0, .float .f32 0, .float .f32 0, .float .f32 0, .float .f32 0, .float .f32 0, .float .f32 0, .float .f32 0, .float .f32 0]) 72)).alloc (.cells (#[.int .i64 0, .int .i64 0, .float .f32 0, .float .f32 0, .float .f32 0, .float .f32 0, .float .f32 0, .float .f32 0, .float .f32 0, .float .f32 0, .float .f32 0, .float .f32 0, .float .f32 0, .float .f32 0, .float .f32 0, .float .f32 0, .float .f32 0, .float .f32 0, .float .f32 0, .float .f32 0, .float .f32 0, .float .f32 0]) 72)) (w.heap.size + 1 + 1) (#[.int .i64 0, .int .i64 0, .float .f32 0, .float .f32 0, .float .f32 0, .float .f32 0, .float .f32 0, .float .f32 0, .float .f32 0, .float .f32 0, .float .f32 0, .float .f32 0, .float .f32 0, .float .f32 0, .float .f32 0, .float .f32 0, .float .f32 0, .float .f32 0, .float .f32 0, .float .f32 0, .float .f32 0, .float .f32 0]) 72 := by
    have := At.new ((w.alloc (.cells (jn i o ts ps) 112)).alloc (.cells (#[.int .i64 0, .int .i64 0, .float .f32 0, .float .f32 0, .float .f32 0, .float .f32 0, .float .f32 0, .float .f32 0, .float .f32 0, .float .f32 0, .float .f32 0, .float .f32 0, .float .f32 0, .float .f32 0, .float .f32 0, .float .f32 0, .float .f32 0, .float .f32 0, .float .f32 0, .float .f32 0, .float .f32 0, .float .f32 0]) 72)) (#[.int .i64 0, .int .i64 0, .float .f32 0, .float .f32 0, .float .f32 0, .float .f32 0, .float .f32 0, .float .f32 0, .float .f32 0, .float .f32 0, .float .f32 0, .float .f32 0, .float .f32 0, .float .f32 0, .float .f32 0, .float .f32 0, .float .f32 0, .float .f32 0, .float .f32 0, .float .f32 0, .float .f32 0, .float .f32 0]) 72
    rwa [World.size_alloc, World.size_alloc] at this
  have B0 := Lib.hid (bnew (bnew (b0 w (.cells (jn i o ts ps) 112)) (.cells (#[.int .i64 0, .int .i64 0, .float .f32 0, .float .f32 0, .float .f32 0, .float .f32 0, .float .f32 0, .float .f32 0, .float .f32 0, .float .f32 0, .float .f32 0, .float .f32 0, .float .f32 0, .float .f32 0, .float .f32 0, .float .f32 0, .float .f32 0, .float .f32 0, .float .f32 0, .float .f32 0, .float .f32 0, .float .f32 0]) 72)) (.cells (#[.int .i64 0, .int .i64 0, .float .f32 0, .float .f32 0, .float .f32 0, .float .f32 0, .float .f32 0, .float .f32 0, .float .f32 0, .float .f32 0, .float .f32 0, .float .f32 0, .float .f32 0, .float .f32 0, .float .f32 0, .float .f32 0, .float .f32 0, .float .f32 0, .float .f32 0, .float .f32 0, .float .f32 0, .float .f32 0]) 72))
  have L1 := L0.setRow (jn i 0 (zeros 16) (zeros 4))
  have A1 := A0.setRow_other (k := w.heap.size + 1 + 1) (by omega) (jn i 0 (zeros 16) (zeros 4))
  have R1 := R0.setRow_other (k := w.heap.size + 1 + 1) (by omega) (jn i 0 (zeros 16) (zeros 4))
  have B1 := Lib.hid (bset B0.out (g := w.heap.size + 1 + 1) (by omega) (jn i 0 (zeros 16) (zeros 4)))
  have L2 := L1.setRow (jn i o (zeros 16) (zeros 4))
  have A2 := A1.setRow_other (k := w.heap.size + 1 + 1) (by omega) (jn i o (zeros 16) (zeros 4))
  have R2 := R1.setRow_other (k := w.heap.size + 1 + 1) (by omega) (jn i o (zeros 16) (zeros 4))
  have B2 := Lib.hid (bset B1.out (g := w.heap.size + 1 + 1) (by omega) (jn i o (zeros 16) (zeros 4)))
  have SZ := jn_size hlt hlp i o
  go_enter Try.func104, Try.ntmps104
  go_wp2_with (first | ((with_reducible refine is_load 2 _ rfl ?_); refine wpList_load_cell rfl 2 _ rfl _ 0 rfl (jn i o ts ps) _ (by assumption) _ Try.underlying2 rfl (.int .i64 i) (jn_ins i o ts ps) ?_) | ((with_reducible refine is_load 2 _ rfl ?_); refine wpList_load_cell rfl 2 _ rfl _ 1 rfl (jn i o ts ps) _ (by assumption) _ Try.underlying2 rfl (.int .i64 o) (jn_outs i o ts ps) ?_) | ((with_reducible refine is_store 2 (.tmp 6) (.tmp 5) rfl ?_); refine wpList_store_cell rfl 2 (.tmp 6) (.tmp 5) rfl _ _ rfl (.int .i64 i) rfl (#[.int .i64 0, .int .i64 0, .float .f32 0, .float .f32 0, .float .f32 0, .float .f32 0, .float .f32 0, .float .f32 0, .float .f32 0, .float .f32 0, .float .f32 0, .float .f32 0, .float .f32 0, .float .f32 0, .float .f32 0, .float .f32 0, .float .f32 0, .float .f32 0, .float .f32 0, .float .f32 0, .float .f32 0, .float .f32 0]) _ (by assumption) (by rw [zlit, jn_size (zeros_len 16) (zeros_len 4)]; omega) (by kernel_rfl) rfl (jn i 0 (zeros 16) (zeros 4)) ((by rw [zlit]; exact jn_setIns _ _ _ _ _)) ?_) | ((with_reducible refine is_store 2 (.tmp 9) (.tmp 8) rfl ?_); refine wpList_store_cell rfl 2 (.tmp 9) (.tmp 8) rfl _ _ rfl (.int .i64 o) rfl (jn i 0 (zeros 16) (zeros 4)) _ (by assumption) (by rw [jn_size (zeros_len 16) (zeros_len 4)]; omega) (by kernel_rfl) rfl (jn i o (zeros 16) (zeros 4)) (jn_setOuts _ _ _ _ _) ?_) | ((with_reducible refine is_load 68 _ rfl ?_); refine wpList_load_part rfl 68 _ rfl _ 2 rfl (jn i o ts ps) _ (by assumption) 16 (by rw [SZ]; omega) _ Try.underlying68 rfl (by kernel_rfl) (fl ts) (jn_turns hlt hlp i o) ?_))
  refine (toFlows_any ts hlt _).mono ?_
  rintro e w1 ⟨rfl, hb1⟩
  have A3 := A2.step hb1
  have R3 := R2.step hb1
  have L3 := L2.step hb1
  have B3 := Lib.hid (bthen B2.out hb1)
  clear A0 R0 L0 B0 A1 R1 L1 B1 A2 R2 L2 B2 hb1
  have L4 := L3.setRow (jn i o ts (zeros 4))
  have A4 := A3.setRow_other (k := w.heap.size + 1 + 1) (by omega) (jn i o ts (zeros 4))
  have R4 := R3.setRow_other (k := w.heap.size + 1 + 1) (by omega) (jn i o ts (zeros 4))
  have B4 := Lib.hid (bset B3.out (g := w.heap.size + 1 + 1) (by omega) (jn i o ts (zeros 4)))
  go_wp2_with (first | ((with_reducible refine is_load 67 _ rfl ?_); refine wpList_load_part rfl 67 _ rfl _ 18 rfl (jn i o ts ps) _ (by assumption) 4 (by rw [SZ]; omega) _ Try.underlying67 rfl (by kernel_rfl) (fl ps) (jn_priors hlt hlp i o) ?_) | ((with_reducible refine is_store 69 (.tmp 13) (.tmp 12) rfl ?_); refine wpList_store_part rfl 69 (.tmp 13) (.tmp 12) rfl _ 2 rfl (fl ts) rfl (jn i o (zeros 16) (zeros 4)) _ (by assumption) 16 (by rw [fl_size, hlt]) (by rw [jn_size (zeros_len 16) (zeros_len 4)]; omega) (by kernel_rfl) (fl_one _) (jn i o ts (zeros 4)) (jn_spliceTurns (zeros_len 16) hlt _ _ _) ?_))
  refine (toFour_any ps hlp _).mono ?_
  rintro e w2 ⟨rfl, hb2⟩
  have R5 := R4.step hb2
  have L5 := L4.step hb2
  have B5 := Lib.hid (bthen B4.out hb2)
  clear A3 R3 L3 B3 A4 R4 L4 B4 hb2
  have L6 := L5.setRow (jn i o ts ps)
  have R6 := R5.setRow_other (k := w.heap.size + 1 + 1) (by omega) (jn i o ts ps)
  have B6 := Lib.hid (bset B5.out (g := w.heap.size + 1 + 1) (by omega) (jn i o ts ps))
  have R9 := R6.setRow (jn i o ts ps)
  have B9 := Lib.hid (bset B6.out (g := w.heap.size + 1) (by omega) (jn i o ts ps))
  go_wp2_with (first | ((with_reducible refine is_load 72 _ rfl ?_); refine wpList_load_at rfl 72 _ rfl _ rfl (jn i o ts ps) _ (by assumption) 22 (SZ) _ Try.underlying72 rfl (by kernel_rfl) ?_) | ((with_reducible refine is_store 70 (.tmp 17) (.tmp 16) rfl ?_); refine wpList_store_part rfl 70 (.tmp 17) (.tmp 16) rfl _ 18 rfl (fl ps) rfl (jn i o ts (zeros 4)) _ (by assumption) 4 (by rw [fl_size, hlp]) (by rw [jn_size hlt (zeros_len 4)]; omega) (by kernel_rfl) (fl_one _) (jn i o ts ps) (jn_splicePriors hlt (zeros_len 4) hlp _ _) ?_) | ((with_reducible refine is_store 72 (.tmp 2) (.tmp 18) rfl ?_); refine wpList_store_at rfl 72 (.tmp 2) (.tmp 18) rfl _ rfl (jn i o ts ps) rfl (#[.int .i64 0, .int .i64 0, .float .f32 0, .float .f32 0, .float .f32 0, .float .f32 0, .float .f32 0, .float .f32 0, .float .f32 0, .float .f32 0, .float .f32 0, .float .f32 0, .float .f32 0, .float .f32 0, .float .f32 0, .float .f32 0, .float .f32 0, .float .f32 0, .float .f32 0, .float .f32 0, .float .f32 0, .float .f32 0]) _ (by assumption) 22 (SZ) ((by rw [zlit]; exact jn_size (zeros_len 16) (zeros_len 4) _ _)) (by kernel_rfl) (jn_one _ _ _ _) ?_))
  exact bodyPost_ret (v := .agg (jn i o ts ps)) (results_at (p := 2) (ty := 72) rfl _ _ _ (jn i o ts ps) _ rfl R9 _ Try.underlying72 rfl 22 SZ (by kernel_rfl)) rfl ⟨rfl, B9.out⟩

theorem eqJunction_same (i o : Int) (ts ps : List Nat) (hlt : ts.length = 16) (hlp : ps.length = 4) (hct : ∀ x ∈ ts, x < 4294967296 ∧ nanB x = false) (hcp : ∀ x ∈ ps, x < 4294967296 ∧ nanB x = false) (w : World) :
    Calls Try.prog 111 #[.agg (jn i o ts ps), .agg (jn i o ts ps)] w fun e w' => e = .returned (.bool true) ∧ Below w.heap.size w w' := by
  have A1 : At ((w.alloc (.cells (jn i o ts ps) 72)).alloc (.cells (jn i o ts ps) 72)) w.heap.size (jn i o ts ps) 72 := (At.new w _ _).alloc _
  have A2 : At ((w.alloc (.cells (jn i o ts ps) 72)).alloc (.cells (jn i o ts ps) 72)) (w.heap.size + 1) (jn i o ts ps) 72 := At.last1 w _ _ _
  have B0 := Lib.hid (bnew (b0 w (.cells (jn i o ts ps) 72)) (.cells (jn i o ts ps) 72))
  have SZ := jn_size hlt hlp i o
  go_enter Try.func111, Try.ntmps111
  go_wp2_with (first | ((with_reducible refine is_load 2 _ rfl ?_); refine wpList_load_cell rfl 2 _ rfl _ 0 rfl (jn i o ts ps) _ (by assumption) _ Try.underlying2 rfl (.int .i64 i) (jn_ins i o ts ps) ?_) | ((with_reducible refine is_load 2 _ rfl ?_); refine wpList_load_cell rfl 2 _ rfl _ 1 rfl (jn i o ts ps) _ (by assumption) _ Try.underlying2 rfl (.int .i64 o) (jn_outs i o ts ps) ?_) | ((with_reducible refine is_load 69 _ rfl ?_); refine wpList_load_part rfl 69 _ rfl _ 2 rfl (jn i o ts ps) _ (by assumption) 16 (by rw [SZ]; omega) _ Try.underlying69 rfl (by kernel_rfl) (fl ts) (jn_turns hlt hlp i o) ?_))
  refine (eqFlows_same ts hlt hct _).mono ?_
  rintro e w1 ⟨rfl, hb1⟩
  have A3 := A1.step hb1
  have A4 := A2.step hb1
  have B1 := Lib.hid (bthen B0.out hb1)
  clear A1 A2 B0 hb1
  go_wp2_with (((with_reducible refine is_load 70 _ rfl ?_); refine wpList_load_part rfl 70 _ rfl _ 18 rfl (jn i o ts ps) _ (by assumption) 4 (by rw [SZ]; omega) _ Try.underlying70 rfl (by kernel_rfl) (fl ps) (jn_priors hlt hlp i o) ?_))
  refine (eqFour_same ps hlp hcp _).mono ?_
  rintro e w2 ⟨rfl, hb2⟩
  go_wp2_with fail
  go_ret
  exact ⟨rfl, bthen B1.out hb2⟩

end Go.Proofs.Ytboahhipobcabaa
