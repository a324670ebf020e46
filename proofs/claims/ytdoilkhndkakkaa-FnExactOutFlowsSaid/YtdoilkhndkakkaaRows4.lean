/-
  CONTRACTS: InFlows.
-/
import Derived.Test.YtdoilkhndkakkaaValidI
import Derived.Test.YtdoilkhndkakkaaAgr
namespace Go.Proofs.Ytdoilkhndkakkaa
open Go Go.RowKit
set_option maxRecDepth 100000

/-- the first m numbers are the sums of rows -/
def RowsR (ts : List Nat) (m : Nat) (vs : List Nat) : Prop := ∀ k, k < m → Sum4 (nth (row4 ts k) 0) (nth (row4 ts k) 1) (nth (row4 ts k) 2) (nth (row4 ts k) 3) (nth vs k)
theorem nth_set {vs : List Nat} {k x : Nat} (hk : k < vs.length) (j : Nat) : nth (vs.set k x) j = if j = k then x else nth vs j := by
  unfold nth
  rw [List.getD_eq_getElem?_getD, List.getD_eq_getElem?_getD, List.getElem?_set]
  by_cases h : k = j
  · subst h; rw [if_pos rfl, if_pos hk, if_pos rfl]; rfl
  · rw [if_neg h, if_neg (fun e => h e.symm)]
theorem RowsR.put {ts vs : List Nat} {k v : Nat} (hl : vs.length = 4) (hk : k < 4) (h : RowsR ts k vs) (hv : Sum4 (nth (row4 ts k) 0) (nth (row4 ts k) 1) (nth (row4 ts k) 2) (nth (row4 ts k) 3) v) : RowsR ts (k + 1) (vs.set k v) := by
  intro j hj
  rw [nth_set (by omega)]
  by_cases e : j = k
  · subst e; rw [if_pos rfl]; exact hv
  · rw [if_neg e]; exact h j (by omega)
theorem zlit4x : (#[.float .f32 0, .float .f32 0, .float .f32 0, .float .f32 0] : Array Value) = fl (zeros 4) := rfl

set_option maxHeartbeats 1000000 in
theorem InFlows_any (ts : List Nat) (hlt : ts.length = 16) (w : World) :
    Calls Try.prog 39 #[.agg (fl ts)] w fun e w' => ∃ vs, e = .returned (.agg (fl vs)) ∧ vs.length = 4 ∧ RowsR ts 4 vs ∧ Below w.heap.size w w' := by
  have A0 : At (((w.alloc (.cells (fl ts) 28)).alloc (.cells (#[.float .f32 0, .float .f32 0, .float .f32 0, .float .f32 0]) 29)).alloc (.cells (#[.float .f32 0, .float .f32 0, .float .f32 0, .float .f32 0]) 29)) w.heap.size (fl ts) 28 := ((At.new w _ _).alloc _).alloc _
  have R0 : At (((w.alloc (.cells (fl ts) 28)).alloc (.cells (#[.float .f32 0, .float .f32 0, .float .f32 0, .float .f32 0]) 29)).alloc (.cells (#[.float .f32 0, .float .f32 0, .float .f32 0, .float .f32 0]) 29)) (w.heap.size + 1) (#[.float .f32 0, .float .f32 0, .float .f32 0, .float .f32 0]) 29 := (At.last1 w _ _ _).alloc _
  have P0 : At (((w.alloc (.cells (fl ts) 28)).alloc (.cells (#[.float .f32 0, .float .f32 0, .float .f32 0, .float .f32 0]) 29)).alloc (.cells (#[.float .f32 0, .float .f32 0, .float .f32 0, .float .f32 0]) 29)) (w.heap.size + 1 + 1) (#[.float .f32 0, .float .f32 0, .float .f32 0, .float .f32 0]) 29 := At.last2 w _ _ _ _
  have B0 := Lib.hid (bnew (bnew (b0 w (.cells (fl ts) 28)) (.cells (#[.float .f32 0, .float .f32 0, .float .f32 0, .float .f32 0]) 29)) (.cells (#[.float .f32 0, .float .f32 0, .float .f32 0, .float .f32 0]) 29))
  have SF : (fl ts).size = 16 := by rw [fl_size, hlt]
  go_enter Try.func39, Try.ntmps39
  go_wp2_with (((with_reducible refine is_load 28 _ rfl ?_); refine wpList_load_at rfl 28 _ rfl _ rfl (fl ts) _ A0 16 (SF) _ Try.underlying28 rfl (by kernel_rfl) ?_))
  go_loopw [7] (fun i' wr => ∃ (k : Nat) (vs : List Nat), k ≤ 4 ∧ i' = .int .i64 k ∧ vs.length = 4 ∧ Hid (RowsR ts k vs) ∧ At wr (w.heap.size + 1) (#[.float .f32 0, .float .f32 0, .float .f32 0, .float .f32 0]) 29 ∧ At wr (w.heap.size + 1 + 1) (fl vs) 29 ∧ Hid (Below w.heap.size w wr)) (fun i' _ => 4 - (intOf i').toNat)
  case atStart => exact ⟨0, zeros 4, by omega, rfl, zeros_len _, Lib.hid (fun k hk => by omega), R0, P0, B0⟩
  case round =>
    clear A0 R0 P0 B0
    obtain ⟨k, vs, hk, rfl, hvl, hR, R4, P4, B4⟩ := hrel
    by_cases hlk : k < 4
    · have hix := fun W => run_index_row W hlt hlk
      have rl := row4_len hlt hlk
      have s2 : IntKind.i64.wrap ((k : Int) + 1) = (k : Int) + 1 := IntWalk.i64_in _ (by omega)
      have N4 := At.new wr (#[.float .f32 0, .float .f32 0, .float .f32 0, .float .f32 0]) 23
      have N5 := N4.setRow (fl (row4 ts k))
      have R5 := (R4.alloc (.cells (#[.float .f32 0, .float .f32 0, .float .f32 0, .float .f32 0]) 23)).setRow_other (k := wr.heap.size) (Nat.ne_of_lt R4.lt) (fl (row4 ts k))
      have P5 := (P4.alloc (.cells (#[.float .f32 0, .float .f32 0, .float .f32 0, .float .f32 0]) 23)).setRow_other (k := wr.heap.size) (Nat.ne_of_lt P4.lt) (fl (row4 ts k))
      have B5 := Lib.hid (bset (bnew B4.out (.cells (#[.float .f32 0, .float .f32 0, .float .f32 0, .float .f32 0]) 23)) (g := wr.heap.size) B4.out.size (fl (row4 ts k)))
      go_wp2_with (first | ((with_reducible refine is_store 23 (.tmp 5) (.tmp 10) rfl ?_); refine wpList_store_at rfl 23 (.tmp 5) (.tmp 10) rfl _ rfl (fl (row4 ts k)) rfl (#[.float .f32 0, .float .f32 0, .float .f32 0, .float .f32 0]) _ N4 4 (by rw [fl_size, rl]) (rfl) (by kernel_rfl) (fl_one _) ?_) | ((with_reducible refine is_load 23 _ rfl ?_); refine wpList_load_at rfl 23 _ rfl _ rfl (fl (row4 ts k)) _ N5 4 (by rw [fl_size, rl]) _ Try.underlying23 rfl (by kernel_rfl) ?_))
      refine (SumOfFour_any (row4 ts k) rl _).mono ?_
      rintro e w5 ⟨v, rfl, hv, hb5⟩
      have R6 := R5.step hb5
      have P6 := P5.step hb5
      have B6 := Lib.hid (bthen B5.out hb5)
      clear N4 N5 R4 P4 B4 R5 P5 B5 hb5
      have HR := Lib.hid (RowsR.put hvl hlk hR.out hv)
      clear hR hv
      have P7 := P6.setRow (fl (vs.set k v))
      have R7 := R6.setRow_other (k := w.heap.size + 1 + 1) (by omega) (fl (vs.set k v))
      have B7 := Lib.hid (bset B6.out (g := w.heap.size + 1 + 1) (by omega) (fl (vs.set k v)))
      go_wp2_with (((with_reducible refine is_store 22 (.tmp 14) (.tmp 13) rfl ?_); refine wpList_store_cell rfl 22 (.tmp 14) (.tmp 13) rfl _ _ rfl (.float .f32 v) rfl (fl vs) _ P6 (by rw [fl_size, hvl]; omega) (by kernel_rfl) rfl (fl (vs.set k v)) (fl_set _ _ _) ?_))
      exact ⟨⟨k + 1, vs.set k v, by omega, by go_num, by simp [hvl], HR, R7, P7, B7⟩, by simp [intOf]; omega⟩
    · obtain rfl : k = 4 := by omega
      have SV : (fl vs).size = 4 := by rw [fl_size, hvl]
      have R9 := R4.setRow (fl vs)
      have B9 := Lib.hid (bset B4.out (g := w.heap.size + 1) (by omega) (fl vs))
      go_wp2_with (first | ((with_reducible refine is_load 29 _ rfl ?_); refine wpList_load_at rfl 29 _ rfl _ rfl (fl vs) _ P4 4 (SV) _ Try.underlying29 rfl (by kernel_rfl) ?_) | ((with_reducible refine is_store 29 (.tmp 2) (.tmp 16) rfl ?_); refine wpList_store_at rfl 29 (.tmp 2) (.tmp 16) rfl _ rfl (fl vs) rfl (#[.float .f32 0, .float .f32 0, .float .f32 0, .float .f32 0]) _ R4 4 (SV) (rfl) (by kernel_rfl) (fl_one _) ?_))
      exact bodyPost_ret (v := .agg (fl vs)) (results_at (p := 2) (ty := 29) rfl _ _ _ (fl vs) _ rfl R9 _ Try.underlying29 rfl 4 SV (by kernel_rfl)) rfl ⟨vs, rfl, hvl, hR.out, B9.out⟩

set_option maxHeartbeats 1000000 in
theorem l03Rows_any (g : Nat) (ts : List Nat) (T : TypeId) (hlt : ts.length = 16) (w : World) (hA : At w g (fl ts) T) :
    Calls Try.prog 73 #[.pointer (some ⟨g, 0, none⟩)] w fun e w' => ∃ vs, e = .returned (.agg (fl vs)) ∧ vs.length = 4 ∧ RowsR ts 4 vs ∧ Below w.heap.size w w' := by
  have A0 : At ((w.alloc (.cells (#[.float .f32 0, .float .f32 0, .float .f32 0, .float .f32 0]) 29)).alloc (.cells (#[.float .f32 0, .float .f32 0, .float .f32 0, .float .f32 0]) 29)) g (fl ts) T := (hA.alloc _).alloc _
  have R0 : At ((w.alloc (.cells (#[.float .f32 0, .float .f32 0, .float .f32 0, .float .f32 0]) 29)).alloc (.cells (#[.float .f32 0, .float .f32 0, .float .f32 0, .float .f32 0]) 29)) w.heap.size (#[.float .f32 0, .float .f32 0, .float .f32 0, .float .f32 0]) 29 := (At.new w _ _).alloc _
  have P0 : At ((w.alloc (.cells (#[.float .f32 0, .float .f32 0, .float .f32 0, .float .f32 0]) 29)).alloc (.cells (#[.float .f32 0, .float .f32 0, .float .f32 0, .float .f32 0]) 29)) (w.heap.size + 1) (#[.float .f32 0, .float .f32 0, .float .f32 0, .float .f32 0]) 29 := At.last1 w _ _ _
  have B0 := Lib.hid (bnew (b0 w (.cells (#[.float .f32 0, .float .f32 0, .float .f32 0, .float .f32 0]) 29)) (.cells (#[.float .f32 0, .float .f32 0, .float .f32 0, .float .f32 0]) 29))
  have SF : (fl ts).size = 16 := by rw [fl_size, hlt]
  have glt : g < w.heap.size := hA.lt
  have P1 := P0.setRow (#[.float .f32 0, .float .f32 0, .float .f32 0, .float .f32 0])
  have A1 := A0.setRow_other (k := w.heap.size + 1) (by omega) (#[.float .f32 0, .float .f32 0, .float .f32 0, .float .f32 0])
  have R1 := R0.setRow_other (k := w.heap.size + 1) (by omega) (#[.float .f32 0, .float .f32 0, .float .f32 0, .float .f32 0])
  have B1 := Lib.hid (bset B0.out (g := w.heap.size + 1) (by omega) (#[.float .f32 0, .float .f32 0, .float .f32 0, .float .f32 0]))
  clear hA
  go_enter Try.func73, Try.ntmps73
  go_wp2_with (((with_reducible refine is_store 29 (.tmp 3) (.tmp 5) rfl ?_); refine wpList_store_at rfl 29 (.tmp 3) (.tmp 5) rfl _ rfl (#[.float .f32 0, .float .f32 0, .float .f32 0, .float .f32 0]) rfl (#[.float .f32 0, .float .f32 0, .float .f32 0, .float .f32 0]) _ P0 4 (rfl) (rfl) (by kernel_rfl) ((by rw [zlit4x]; exact fl_one _)) ?_))
  go_loopw [4] (fun i' wr => ∃ (k : Nat) (vs : List Nat), k ≤ 4 ∧ i' = .int .i64 k ∧ vs.length = 4 ∧ Hid (RowsR ts k vs) ∧ At wr g (fl ts) T ∧ At wr w.heap.size (#[.float .f32 0, .float .f32 0, .float .f32 0, .float .f32 0]) 29 ∧ At wr (w.heap.size + 1) (fl vs) 29 ∧ Hid (Below w.heap.size w wr)) (fun i' _ => 4 - (intOf i').toNat)
  case atStart => exact ⟨0, zeros 4, by omega, rfl, zeros_len _, Lib.hid (fun k hk => by omega), A1, R1, P1, B1⟩
  case round =>
    clear A0 R0 P0 B0 A1 R1 P1 B1
    obtain ⟨k, vs, hk, rfl, hvl, hR, A4, R4, P4, B4⟩ := hrel
    by_cases hlk : k < 4
    · have rl := row4_len hlt hlk
      have s2 : IntKind.i64.wrap ((k : Int) + 1) = (k : Int) + 1 := IntWalk.i64_in _ (by omega)
      go_wp2_with (((with_reducible refine is_load 23 _ rfl ?_); refine wpList_load_part rfl 23 _ rfl _ _ rfl (fl ts) _ A4 4 (by rw [SF]; omega) _ Try.underlying23 rfl (by kernel_rfl) (fl (row4 ts k)) (fl_row hlt hlk (by omega)) ?_))
      refine (sSumOfFour_any (row4 ts k) rl _).mono ?_
      rintro e w5 ⟨v, rfl, hv, hb5⟩
      have A6 := A4.step hb5
      have R6 := R4.step hb5
      have P6 := P4.step hb5
      have B6 := Lib.hid (bthen B4.out hb5)
      clear A4 R4 P4 B4 hb5
      have HR := Lib.hid (RowsR.put hvl hlk hR.out hv)
      clear hR hv
      have P7 := P6.setRow (fl (vs.set k v))
      have A7 := A6.setRow_other (k := w.heap.size + 1) (by omega) (fl (vs.set k v))
      have R7 := R6.setRow_other (k := w.heap.size + 1) (by omega) (fl (vs.set k v))
      have B7 := Lib.hid (bset B6.out (g := w.heap.size + 1) (by omega) (fl (vs.set k v)))
      go_wp2_with (((with_reducible refine is_store 22 (.tmp 17) (.tmp 16) rfl ?_); refine wpList_store_cell rfl 22 (.tmp 17) (.tmp 16) rfl _ _ rfl (.float .f32 v) rfl (fl vs) _ P6 (by rw [fl_size, hvl]; omega) (by kernel_rfl) rfl (fl (vs.set k v)) (fl_set _ _ _) ?_))
      exact ⟨⟨k + 1, vs.set k v, by omega, by go_num, by simp [hvl], HR, A7, R7, P7, B7⟩, by simp [intOf]; omega⟩
    · obtain rfl : k = 4 := by omega
      have SV : (fl vs).size = 4 := by rw [fl_size, hvl]
      have R9 := R4.setRow (fl vs)
      have B9 := Lib.hid (bset B4.out (g := w.heap.size) (Nat.le_refl _) (fl vs))
      go_wp2_with (first | ((with_reducible refine is_load 29 _ rfl ?_); refine wpList_load_at rfl 29 _ rfl _ rfl (fl vs) _ P4 4 (SV) _ Try.underlying29 rfl (by kernel_rfl) ?_) | ((with_reducible refine is_store 29 (.tmp 2) (.tmp 18) rfl ?_); refine wpList_store_at rfl 29 (.tmp 2) (.tmp 18) rfl _ rfl (fl vs) rfl (#[.float .f32 0, .float .f32 0, .float .f32 0, .float .f32 0]) _ R4 4 (SV) (rfl) (by kernel_rfl) (fl_one _) ?_))
      exact bodyPost_ret (v := .agg (fl vs)) (results_at (p := 2) (ty := 29) rfl _ _ _ (fl vs) _ rfl R9 _ Try.underlying29 rfl 4 SV (by kernel_rfl)) rfl ⟨vs, rfl, hvl, hR.out, B9.out⟩

theorem sInFlows_any (ts : List Nat) (hlt : ts.length = 16) (w : World) :
    Calls Try.prog 37 #[.agg (fl ts)] w fun e w' => ∃ vs, e = .returned (.agg (fl vs)) ∧ vs.length = 4 ∧ RowsR ts 4 vs ∧ Below w.heap.size w w' := by
  have A0 : At ((w.alloc (.cells (fl ts) 28)).alloc (.cells (#[.float .f32 0, .float .f32 0, .float .f32 0, .float .f32 0]) 29)) w.heap.size (fl ts) 28 := (At.new w _ _).alloc _
  have R0 : At ((w.alloc (.cells (fl ts) 28)).alloc (.cells (#[.float .f32 0, .float .f32 0, .float .f32 0, .float .f32 0]) 29)) (w.heap.size + 1) (#[.float .f32 0, .float .f32 0, .float .f32 0, .float .f32 0]) 29 := At.last1 w _ _ _
  have B0 := Lib.hid (bnew (b0 w (.cells (fl ts) 28)) (.cells (#[.float .f32 0, .float .f32 0, .float .f32 0, .float .f32 0]) 29))
  go_enter Try.func37, Try.ntmps37
  go_wp2_with fail
  refine (l03Rows_any _ ts 28 hlt _ A0).mono ?_
  rintro e w1 ⟨vs, rfl, hvl, hR, hb1⟩
  have R1 := R0.step hb1
  have B1 := Lib.hid (bthen B0.out hb1)
  have HR := Lib.hid hR
  clear hR hb1 A0 R0 B0
  have SV : (fl vs).size = 4 := by rw [fl_size, hvl]
  have R9 := R1.setRow (fl vs)
  have B9 := Lib.hid (bset B1.out (g := w.heap.size + 1) (by omega) (fl vs))
  go_wp2_with (((with_reducible refine is_store 29 (.tmp 2) (.tmp 3) rfl ?_); refine wpList_store_at rfl 29 (.tmp 2) (.tmp 3) rfl _ rfl (fl vs) rfl (#[.float .f32 0, .float .f32 0, .float .f32 0, .float .f32 0]) _ R1 4 (SV) (rfl) (by kernel_rfl) (fl_one _) ?_))
  exact bodyPost_ret (v := .agg (fl vs)) (results_at (p := 2) (ty := 29) rfl _ _ _ (fl vs) _ rfl R9 _ Try.underlying29 rfl 4 SV (by kernel_rfl)) rfl ⟨vs, rfl, hvl, HR.out, B9.out⟩

end Go.Proofs.Ytdoilkhndkakkaa
