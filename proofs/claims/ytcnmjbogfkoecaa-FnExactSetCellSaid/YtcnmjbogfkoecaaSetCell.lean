/-
  CONTRACTS: SetCell.
-/
import Derived.Test.YtcnmjbogfkoecaaMakeRoad
import Derived.Test.YtcnmjbogfkoecaaCell2
namespace Go.Proofs.Ytcnmjbogfkoecaa
open Go Go.RowKit

theorem rd_set {cs : List Nat} (h : cs.length = 16) (p b l : Nat) {n : Nat} (hn : n < 16) (x : Nat) : (rd cs p b l).setIfInBounds n (.float .f32 x) = rd (cs.set n x) p b l := by
  unfold rd
  rw [fl_set, List.set_append_left _ _ (by omega)]

theorem l01Cell_any (k : Int) (w : World) : Calls Try.prog 52 #[.int .i64 k] w (Rd (.bool (decide (0 ≤ k ∧ k < 16))) w) := by
  have e : decide (0 ≤ k ∧ k < 16) = decide (0 ≤ k ∧ k ≤ 15) := by congr 1; apply propext; omega
  rw [e]
  clear e
  go_enter Try.func52, Try.ntmps52
  go_wp2_with fail
  refine (l00In_any k 0 15 _).mono ?_
  rintro e w1 ⟨rfl, n1, rfl⟩
  go_wp2_with fail
  go_ret
  exact ⟨by rw [Bool.decide_and]; rfl, _, rfl⟩

theorem SetCell_no (cs : List Nat) (p b l : Nat) (hl : cs.length = 16) (hc : ∀ x ∈ cs, x < 4294967296) (hp : p < 4294967296) (hb : b < 4294967296) (hla : l < 4294967296) (k : Int) (x : Nat) (_hx : x < 4294967296) (h : okB cs p b l = false) (w : World) :
    Calls Try.prog 31 #[.agg (rd cs p b l), .int .i64 k, .float .f32 x] w fun e w' => e = .returned (.tuple #[.agg (rd (zeros 16) 0 0 0), .int .i64 1]) ∧ Below w.heap.size w w' := by
  have A0 : At ((w.alloc (.cells (rd cs p b l) 31)).alloc (.cells (rd (zeros 16) 0 0 0) 31)) w.heap.size (rd cs p b l) 31 := (At.new w _ _).alloc _
  have R0 : At ((w.alloc (.cells (rd cs p b l) 31)).alloc (.cells (rd (zeros 16) 0 0 0) 31)) (w.heap.size + 1) (rd (zeros 16) 0 0 0) 31 := At.new1 w _ _ _
  have B0 := Lib.hid (bnew (b0 w (.cells (rd cs p b l) 31)) (.cells (rd (zeros 16) 0 0 0) 31))
  go_enter Try.func31, Try.ntmps31
  go_wp2_with (((with_reducible refine is_load 31 _ rfl ?_); refine wpList_load_at rfl 31 _ rfl _ rfl (rd cs p b l) _ (by assumption) 19 (rd_size hl p b l) _ Try.underlying31 rfl (by kernel_rfl) ?_))
  refine (ValidRoad_any cs p b l hl hc hp hb hla _).mono ?_
  rintro e w1 ⟨rfl, hb1⟩
  have A1 := A0.step hb1
  have R1 := R0.step hb1
  have B1 := Lib.hid (bthen B0.out hb1)
  clear A0 R0 B0 hb1
  have SZ : (rd (zeros 16) 0 0 0).size = 19 := rd_size (zeros_len 16) _ _ _
  have R9 := R1.setRow (rd (zeros 16) 0 0 0)
  have B9 := Lib.hid (bset B1.out (g := w.heap.size + 1) (by omega) (rd (zeros 16) 0 0 0))
  go_wp2_with (((with_reducible refine is_store 31 (.tmp 6) (.tmp 11) rfl ?_); refine wpList_store_at rfl 31 (.tmp 6) (.tmp 11) rfl _ rfl (rd (zeros 16) 0 0 0) rfl (rd (zeros 16) 0 0 0) _ (by assumption) 19 SZ (rd_size (zeros_len 16) _ _ _) (by kernel_rfl) (fl_one _) ?_))
  exact bodyPost_ret (v := .tuple #[.agg (rd (zeros 16) 0 0 0), .int .i64 1]) (results_at_tmp (p := 6) (ty := 31) rfl _ _ _ (rd (zeros 16) 0 0 0) _ (.int .i64 1) rfl rfl R9 _ Try.underlying31 rfl 19 (rd_size (zeros_len 16) _ _ _) (by kernel_rfl)) rfl ⟨rfl, B9.out⟩

theorem SetCell_bad1 (cs : List Nat) (p b l : Nat) (hl : cs.length = 16) (hc : ∀ x ∈ cs, x < 4294967296) (hp : p < 4294967296) (hb : b < 4294967296) (hla : l < 4294967296) (k : Int) (x : Nat) (_hx : x < 4294967296) (h : okB cs p b l = true) (hk : ¬ (0 ≤ k ∧ k < 16)) (w : World) :
    Calls Try.prog 31 #[.agg (rd cs p b l), .int .i64 k, .float .f32 x] w fun e w' => e = .returned (.tuple #[.agg (rd (zeros 16) 0 0 0), .int .i64 2]) ∧ Below w.heap.size w w' := by
  have A0 : At ((w.alloc (.cells (rd cs p b l) 31)).alloc (.cells (rd (zeros 16) 0 0 0) 31)) w.heap.size (rd cs p b l) 31 := (At.new w _ _).alloc _
  have R0 : At ((w.alloc (.cells (rd cs p b l) 31)).alloc (.cells (rd (zeros 16) 0 0 0) 31)) (w.heap.size + 1) (rd (zeros 16) 0 0 0) 31 := At.new1 w _ _ _
  have B0 := Lib.hid (bnew (b0 w (.cells (rd cs p b l) 31)) (.cells (rd (zeros 16) 0 0 0) 31))
  have HK := Lib.hid hk
  clear hk
  go_enter Try.func31, Try.ntmps31
  go_wp2_with (((with_reducible refine is_load 31 _ rfl ?_); refine wpList_load_at rfl 31 _ rfl _ rfl (rd cs p b l) _ (by assumption) 19 (rd_size hl p b l) _ Try.underlying31 rfl (by kernel_rfl) ?_))
  refine (ValidRoad_any cs p b l hl hc hp hb hla _).mono ?_
  rintro e w1 ⟨rfl, hb1⟩
  have A1 := A0.step hb1
  have R1 := R0.step hb1
  have B1 := Lib.hid (bthen B0.out hb1)
  clear A0 R0 B0 hb1
  go_wp2_with fail
  refine (isCell_any k _).mono ?_
  rw [decide_eq_false HK.out]
  rintro e w2 ⟨rfl, n2, rfl⟩
  have A2 := A1.drewN n2
  have R2 := R1.drewN n2
  have B2 := Lib.hid (bdrew B1.out n2)
  generalize w1.drewN n2 = w2 at A2 R2 B2 ⊢
  clear A1 R1 B1
  have SZ : (rd (zeros 16) 0 0 0).size = 19 := rd_size (zeros_len 16) _ _ _
  have R9 := R2.setRow (rd (zeros 16) 0 0 0)
  have B9 := Lib.hid (bset B2.out (g := w.heap.size + 1) (by omega) (rd (zeros 16) 0 0 0))
  go_wp2_with (((with_reducible refine is_store 31 (.tmp 6) (.tmp 20) rfl ?_); refine wpList_store_at rfl 31 (.tmp 6) (.tmp 20) rfl _ rfl (rd (zeros 16) 0 0 0) rfl (rd (zeros 16) 0 0 0) _ (by assumption) 19 SZ (rd_size (zeros_len 16) _ _ _) (by kernel_rfl) (fl_one _) ?_))
  exact bodyPost_ret (v := .tuple #[.agg (rd (zeros 16) 0 0 0), .int .i64 2]) (results_at_tmp (p := 6) (ty := 31) rfl _ _ _ (rd (zeros 16) 0 0 0) _ (.int .i64 2) rfl rfl R9 _ Try.underlying31 rfl 19 (rd_size (zeros_len 16) _ _ _) (by kernel_rfl)) rfl ⟨rfl, B9.out⟩

theorem SetCell_bad2 (cs : List Nat) (p b l : Nat) (hl : cs.length = 16) (hc : ∀ x ∈ cs, x < 4294967296) (hp : p < 4294967296) (hb : b < 4294967296) (hla : l < 4294967296) (k : Int) (x : Nat) (hx : x < 4294967296) (h : okB cs p b l = true) (hk : 0 ≤ k ∧ k < 16) (hs : shrB x = false) (w : World) :
    Calls Try.prog 31 #[.agg (rd cs p b l), .int .i64 k, .float .f32 x] w fun e w' => e = .returned (.tuple #[.agg (rd (zeros 16) 0 0 0), .int .i64 2]) ∧ Below w.heap.size w w' := by
  have A0 : At ((w.alloc (.cells (rd cs p b l) 31)).alloc (.cells (rd (zeros 16) 0 0 0) 31)) w.heap.size (rd cs p b l) 31 := (At.new w _ _).alloc _
  have R0 : At ((w.alloc (.cells (rd cs p b l) 31)).alloc (.cells (rd (zeros 16) 0 0 0) 31)) (w.heap.size + 1) (rd (zeros 16) 0 0 0) 31 := At.new1 w _ _ _
  have B0 := Lib.hid (bnew (b0 w (.cells (rd cs p b l) 31)) (.cells (rd (zeros 16) 0 0 0) 31))
  have HK := Lib.hid hk
  clear hk
  go_enter Try.func31, Try.ntmps31
  go_wp2_with (((with_reducible refine is_load 31 _ rfl ?_); refine wpList_load_at rfl 31 _ rfl _ rfl (rd cs p b l) _ (by assumption) 19 (rd_size hl p b l) _ Try.underlying31 rfl (by kernel_rfl) ?_))
  refine (ValidRoad_any cs p b l hl hc hp hb hla _).mono ?_
  rintro e w1 ⟨rfl, hb1⟩
  have A1 := A0.step hb1
  have R1 := R0.step hb1
  have B1 := Lib.hid (bthen B0.out hb1)
  clear A0 R0 B0 hb1
  go_wp2_with fail
  refine (isCell_any k _).mono ?_
  rw [decide_eq_true HK.out]
  rintro e w2 ⟨rfl, n2, rfl⟩
  have A2 := A1.drewN n2
  have R2 := R1.drewN n2
  have B2 := Lib.hid (bdrew B1.out n2)
  generalize w1.drewN n2 = w2 at A2 R2 B2 ⊢
  clear A1 R1 B1
  go_wp2_with fail
  refine (IsShare_any x hx _).mono ?_
  rintro e w3 ⟨rfl, n3, rfl⟩
  have A3 := A2.drewN n3
  have R3 := R2.drewN n3
  have B3 := Lib.hid (bdrew B2.out n3)
  generalize w2.drewN n3 = w3 at A3 R3 B3 ⊢
  clear A2 R2 B2
  have SZ : (rd (zeros 16) 0 0 0).size = 19 := rd_size (zeros_len 16) _ _ _
  have R9 := R3.setRow (rd (zeros 16) 0 0 0)
  have B9 := Lib.hid (bset B3.out (g := w.heap.size + 1) (by omega) (rd (zeros 16) 0 0 0))
  go_wp2_with (((with_reducible refine is_store 31 (.tmp 6) (.tmp 20) rfl ?_); refine wpList_store_at rfl 31 (.tmp 6) (.tmp 20) rfl _ rfl (rd (zeros 16) 0 0 0) rfl (rd (zeros 16) 0 0 0) _ (by assumption) 19 SZ (rd_size (zeros_len 16) _ _ _) (by kernel_rfl) (fl_one _) ?_))
  exact bodyPost_ret (v := .tuple #[.agg (rd (zeros 16) 0 0 0), .int .i64 2]) (results_at_tmp (p := 6) (ty := 31) rfl _ _ _ (rd (zeros 16) 0 0 0) _ (.int .i64 2) rfl rfl R9 _ Try.underlying31 rfl 19 (rd_size (zeros_len 16) _ _ _) (by kernel_rfl)) rfl ⟨rfl, B9.out⟩

theorem SetCell_yes (cs : List Nat) (p b l : Nat) (hl : cs.length = 16) (hc : ∀ x ∈ cs, x < 4294967296) (hp : p < 4294967296) (hb : b < 4294967296) (hla : l < 4294967296) (n : Nat) (hn : n < 16) (x : Nat) (hx : x < 4294967296) (h : okB cs p b l = true) (hs : shrB x = true) (w : World) :
    Calls Try.prog 31 #[.agg (rd cs p b l), .int .i64 n, .float .f32 x] w fun e w' => e = .returned (.tuple #[.agg (rd (cs.set n x) p b l), .int .i64 0]) ∧ Below w.heap.size w w' := by
  have A0 : At ((w.alloc (.cells (rd cs p b l) 31)).alloc (.cells (rd (zeros 16) 0 0 0) 31)) w.heap.size (rd cs p b l) 31 := (At.new w _ _).alloc _
  have R0 : At ((w.alloc (.cells (rd cs p b l) 31)).alloc (.cells (rd (zeros 16) 0 0 0) 31)) (w.heap.size + 1) (rd (zeros 16) 0 0 0) 31 := At.new1 w _ _ _
  have B0 := Lib.hid (bnew (b0 w (.cells (rd cs p b l) 31)) (.cells (rd (zeros 16) 0 0 0) 31))
  have hn' : (n : Int) < 16 := by omega
  go_enter Try.func31, Try.ntmps31
  go_wp2_with (((with_reducible refine is_load 31 _ rfl ?_); refine wpList_load_at rfl 31 _ rfl _ rfl (rd cs p b l) _ (by assumption) 19 (rd_size hl p b l) _ Try.underlying31 rfl (by kernel_rfl) ?_))
  refine (ValidRoad_any cs p b l hl hc hp hb hla _).mono ?_
  rintro e w1 ⟨rfl, hb1⟩
  have A1 := A0.step hb1
  have R1 := R0.step hb1
  have B1 := Lib.hid (bthen B0.out hb1)
  clear A0 R0 B0 hb1
  go_wp2_with fail
  refine (isCell_any n _).mono ?_
  rw [decide_eq_true (by omega : 0 ≤ (n : Int) ∧ (n : Int) < 16)]
  rintro e w2 ⟨rfl, n2, rfl⟩
  have A2 := A1.drewN n2
  have R2 := R1.drewN n2
  have B2 := Lib.hid (bdrew B1.out n2)
  generalize w1.drewN n2 = w2 at A2 R2 B2 ⊢
  clear A1 R1 B1
  go_wp2_with fail
  refine (IsShare_any x hx _).mono ?_
  rintro e w3 ⟨rfl, n3, rfl⟩
  have A3 := A2.drewN n3
  have R3 := R2.drewN n3
  have B3 := Lib.hid (bdrew B2.out n3)
  generalize w2.drewN n3 = w3 at A3 R3 B3 ⊢
  clear A2 R2 B2
  have G := run_store_one (P := Try.prog) w3 w.heap.size n 31 (rd cs p b l) (.float .f32 x) A3 (by rw [rd_size hl]; omega) rfl
  rw [rd_set hl p b l hn] at G
  have A4 := A3.setRow (rd (cs.set n x) p b l)
  have R4 := R3.setRow_other (k := w.heap.size) (by omega) (rd (cs.set n x) p b l)
  have B4 := Lib.hid (bset B3.out (g := w.heap.size) (Nat.le_refl _) (rd (cs.set n x) p b l))
  clear A3 R3 B3
  have SZ : (rd (cs.set n x) p b l).size = 19 := rd_size (by rw [List.length_set]; exact hl) p b l
  have R9 := R4.setRow (rd (cs.set n x) p b l)
  have B9 := Lib.hid (bset B4.out (g := w.heap.size + 1) (by omega) (rd (cs.set n x) p b l))
  go_wp2_with (first | ((with_reducible refine is_load 31 _ rfl ?_); refine wpList_load_at rfl 31 _ rfl _ rfl (rd (cs.set n x) p b l) _ (by assumption) 19 (SZ) _ Try.underlying31 rfl (by kernel_rfl) ?_) | ((with_reducible refine is_store 31 (.tmp 6) (.tmp 25) rfl ?_); refine wpList_store_at rfl 31 (.tmp 6) (.tmp 25) rfl _ rfl (rd (cs.set n x) p b l) rfl (rd (zeros 16) 0 0 0) _ (by assumption) 19 SZ (rd_size (zeros_len 16) _ _ _) (by kernel_rfl) (fl_one _) ?_))
  exact bodyPost_ret (v := .tuple #[.agg (rd (cs.set n x) p b l), .int .i64 0]) (results_at_tmp (p := 6) (ty := 31) rfl _ _ _ (rd (cs.set n x) p b l) _ (.int .i64 0) rfl rfl R9 _ Try.underlying31 rfl 19 (SZ) (by kernel_rfl)) rfl ⟨rfl, B9.out⟩

theorem sSetCell_no (cs : List Nat) (p b l : Nat) (hl : cs.length = 16) (hc : ∀ x ∈ cs, x < 4294967296) (hp : p < 4294967296) (hb : b < 4294967296) (hla : l < 4294967296) (k : Int) (x : Nat) (_hx : x < 4294967296) (h : okB cs p b l = false) (w : World) :
    Calls Try.prog 30 #[.agg (rd cs p b l), .int .i64 k, .float .f32 x] w fun e w' => e = .returned (.tuple #[.agg (rd (zeros 16) 0 0 0), .int .i64 1]) ∧ Below w.heap.size w w' := by
  have A0 : At ((w.alloc (.cells (rd cs p b l) 31)).alloc (.cells (rd (zeros 16) 0 0 0) 31)) w.heap.size (rd cs p b l) 31 := (At.new w _ _).alloc _
  have R0 : At ((w.alloc (.cells (rd cs p b l) 31)).alloc (.cells (rd (zeros 16) 0 0 0) 31)) (w.heap.size + 1) (rd (zeros 16) 0 0 0) 31 := At.new1 w _ _ _
  have B0 := Lib.hid (bnew (b0 w (.cells (rd cs p b l) 31)) (.cells (rd (zeros 16) 0 0 0) 31))
  go_enter Try.func30, Try.ntmps30
  go_wp2_with fail
  refine (l01Ok_any _ cs p b l hl hc hp hb hla _ ⟨_, _, A0⟩).mono ?_
  rintro e w1 ⟨rfl, n1, rfl⟩
  have A1 := A0.drewN n1
  have R1 := R0.drewN n1
  have B1 := Lib.hid (bdrew B0.out n1)
  generalize ((w.alloc (.cells (rd cs p b l) 31)).alloc (.cells (rd (zeros 16) 0 0 0) 31)).drewN n1 = w1 at A1 R1 B1 ⊢
  clear A0 R0 B0
  have SZ : (rd (zeros 16) 0 0 0).size = 19 := rd_size (zeros_len 16) _ _ _
  have R9 := R1.setRow (rd (zeros 16) 0 0 0)
  have B9 := Lib.hid (bset B1.out (g := w.heap.size + 1) (by omega) (rd (zeros 16) 0 0 0))
  go_wp2_with (((with_reducible refine is_store 31 (.tmp 6) (.tmp 10) rfl ?_); refine wpList_store_at rfl 31 (.tmp 6) (.tmp 10) rfl _ rfl (rd (zeros 16) 0 0 0) rfl (rd (zeros 16) 0 0 0) _ (by assumption) 19 SZ (rd_size (zeros_len 16) _ _ _) (by kernel_rfl) (fl_one _) ?_))
  exact bodyPost_ret (v := .tuple #[.agg (rd (zeros 16) 0 0 0), .int .i64 1]) (results_at_tmp (p := 6) (ty := 31) rfl _ _ _ (rd (zeros 16) 0 0 0) _ (.int .i64 1) rfl rfl R9 _ Try.underlying31 rfl 19 (rd_size (zeros_len 16) _ _ _) (by kernel_rfl)) rfl ⟨rfl, B9.out⟩

theorem sSetCell_bad1 (cs : List Nat) (p b l : Nat) (hl : cs.length = 16) (hc : ∀ x ∈ cs, x < 4294967296) (hp : p < 4294967296) (hb : b < 4294967296) (hla : l < 4294967296) (k : Int) (x : Nat) (_hx : x < 4294967296) (h : okB cs p b l = true) (hk : ¬ (0 ≤ k ∧ k < 16)) (w : World) :
    Calls Try.prog 30 #[.agg (rd cs p b l), .int .i64 k, .float .f32 x] w fun e w' => e = .returned (.tuple #[.agg (rd (zeros 16) 0 0 0), .int .i64 2]) ∧ Below w.heap.size w w' := by
  have A0 : At ((w.alloc (.cells (rd cs p b l) 31)).alloc (.cells (rd (zeros 16) 0 0 0) 31)) w.heap.size (rd cs p b l) 31 := (At.new w _ _).alloc _
  have R0 : At ((w.alloc (.cells (rd cs p b l) 31)).alloc (.cells (rd (zeros 16) 0 0 0) 31)) (w.heap.size + 1) (rd (zeros 16) 0 0 0) 31 := At.new1 w _ _ _
  have B0 := Lib.hid (bnew (b0 w (.cells (rd cs p b l) 31)) (.cells (rd (zeros 16) 0 0 0) 31))
  have HK := Lib.hid hk
  clear hk
  go_enter Try.func30, Try.ntmps30
  go_wp2_with fail
  refine (l01Ok_any _ cs p b l hl hc hp hb hla _ ⟨_, _, A0⟩).mono ?_
  rintro e w1 ⟨rfl, n1, rfl⟩
  have A1 := A0.drewN n1
  have R1 := R0.drewN n1
  have B1 := Lib.hid (bdrew B0.out n1)
  generalize ((w.alloc (.cells (rd cs p b l) 31)).alloc (.cells (rd (zeros 16) 0 0 0) 31)).drewN n1 = w1 at A1 R1 B1 ⊢
  clear A0 R0 B0
  go_wp2_with fail
  refine (l01Cell_any k _).mono ?_
  rw [decide_eq_false HK.out]
  rintro e w2 ⟨rfl, n2, rfl⟩
  have A2 := A1.drewN n2
  have R2 := R1.drewN n2
  have B2 := Lib.hid (bdrew B1.out n2)
  generalize w1.drewN n2 = w2 at A2 R2 B2 ⊢
  clear A1 R1 B1
  have SZ : (rd (zeros 16) 0 0 0).size = 19 := rd_size (zeros_len 16) _ _ _
  have R9 := R2.setRow (rd (zeros 16) 0 0 0)
  have B9 := Lib.hid (bset B2.out (g := w.heap.size + 1) (by omega) (rd (zeros 16) 0 0 0))
  go_wp2_with (((with_reducible refine is_store 31 (.tmp 6) (.tmp 19) rfl ?_); refine wpList_store_at rfl 31 (.tmp 6) (.tmp 19) rfl _ rfl (rd (zeros 16) 0 0 0) rfl (rd (zeros 16) 0 0 0) _ (by assumption) 19 SZ (rd_size (zeros_len 16) _ _ _) (by kernel_rfl) (fl_one _) ?_))
  exact bodyPost_ret (v := .tuple #[.agg (rd (zeros 16) 0 0 0), .int .i64 2]) (results_at_tmp (p := 6) (ty := 31) rfl _ _ _ (rd (zeros 16) 0 0 0) _ (.int .i64 2) rfl rfl R9 _ Try.underlying31 rfl 19 (rd_size (zeros_len 16) _ _ _) (by kernel_rfl)) rfl ⟨rfl, B9.out⟩

theorem sSetCell_bad2 (cs : List Nat) (p b l : Nat) (hl : cs.length = 16) (hc : ∀ x ∈ cs, x < 4294967296) (hp : p < 4294967296) (hb : b < 4294967296) (hla : l < 4294967296) (k : Int) (x : Nat) (hx : x < 4294967296) (h : okB cs p b l = true) (hk : 0 ≤ k ∧ k < 16) (hs : shrB x = false) (w : World) :
    Calls Try.prog 30 #[.agg (rd cs p b l), .int .i64 k, .float .f32 x] w fun e w' => e = .returned (.tuple #[.agg (rd (zeros 16) 0 0 0), .int .i64 2]) ∧ Below w.heap.size w w' := by
  have A0 : At ((w.alloc (.cells (rd cs p b l) 31)).alloc (.cells (rd (zeros 16) 0 0 0) 31)) w.heap.size (rd cs p b l) 31 := (At.new w _ _).alloc _
  have R0 : At ((w.alloc (.cells (rd cs p b l) 31)).alloc (.cells (rd (zeros 16) 0 0 0) 31)) (w.heap.size + 1) (rd (zeros 16) 0 0 0) 31 := At.new1 w _ _ _
  have B0 := Lib.hid (bnew (b0 w (.cells (rd cs p b l) 31)) (.cells (rd (zeros 16) 0 0 0) 31))
  have HK := Lib.hid hk
  clear hk
  go_enter Try.func30, Try.ntmps30
  go_wp2_with fail
  refine (l01Ok_any _ cs p b l hl hc hp hb hla _ ⟨_, _, A0⟩).mono ?_
  rintro e w1 ⟨rfl, n1, rfl⟩
  have A1 := A0.drewN n1
  have R1 := R0.drewN n1
  have B1 := Lib.hid (bdrew B0.out n1)
  generalize ((w.alloc (.cells (rd cs p b l) 31)).alloc (.cells (rd (zeros 16) 0 0 0) 31)).drewN n1 = w1 at A1 R1 B1 ⊢
  clear A0 R0 B0
  go_wp2_with fail
  refine (l01Cell_any k _).mono ?_
  rw [decide_eq_true HK.out]
  rintro e w2 ⟨rfl, n2, rfl⟩
  have A2 := A1.drewN n2
  have R2 := R1.drewN n2
  have B2 := Lib.hid (bdrew B1.out n2)
  generalize w1.drewN n2 = w2 at A2 R2 B2 ⊢
  clear A1 R1 B1
  go_wp2_with fail
  refine (l01Share_any x hx _).mono ?_
  rintro e w3 ⟨rfl, n3, rfl⟩
  have A3 := A2.drewN n3
  have R3 := R2.drewN n3
  have B3 := Lib.hid (bdrew B2.out n3)
  generalize w2.drewN n3 = w3 at A3 R3 B3 ⊢
  clear A2 R2 B2
  have SZ : (rd (zeros 16) 0 0 0).size = 19 := rd_size (zeros_len 16) _ _ _
  have R9 := R3.setRow (rd (zeros 16) 0 0 0)
  have B9 := Lib.hid (bset B3.out (g := w.heap.size + 1) (by omega) (rd (zeros 16) 0 0 0))
  go_wp2_with (((with_reducible refine is_store 31 (.tmp 6) (.tmp 19) rfl ?_); refine wpList_store_at rfl 31 (.tmp 6) (.tmp 19) rfl _ rfl (rd (zeros 16) 0 0 0) rfl (rd (zeros 16) 0 0 0) _ (by assumption) 19 SZ (rd_size (zeros_len 16) _ _ _) (by kernel_rfl) (fl_one _) ?_))
  exact bodyPost_ret (v := .tuple #[.agg (rd (zeros 16) 0 0 0), .int .i64 2]) (results_at_tmp (p := 6) (ty := 31) rfl _ _ _ (rd (zeros 16) 0 0 0) _ (.int .i64 2) rfl rfl R9 _ Try.underlying31 rfl 19 (rd_size (zeros_len 16) _ _ _) (by kernel_rfl)) rfl ⟨rfl, B9.out⟩

theorem sSetCell_yes (cs : List Nat) (p b l : Nat) (hl : cs.length = 16) (hc : ∀ x ∈ cs, x < 4294967296) (hp : p < 4294967296) (hb : b < 4294967296) (hla : l < 4294967296) (n : Nat) (hn : n < 16) (x : Nat) (hx : x < 4294967296) (h : okB cs p b l = true) (hs : shrB x = true) (w : World) :
    Calls Try.prog 30 #[.agg (rd cs p b l), .int .i64 n, .float .f32 x] w fun e w' => e = .returned (.tuple #[.agg (rd (cs.set n x) p b l), .int .i64 0]) ∧ Below w.heap.size w w' := by
  have A0 : At ((w.alloc (.cells (rd cs p b l) 31)).alloc (.cells (rd (zeros 16) 0 0 0) 31)) w.heap.size (rd cs p b l) 31 := (At.new w _ _).alloc _
  have R0 : At ((w.alloc (.cells (rd cs p b l) 31)).alloc (.cells (rd (zeros 16) 0 0 0) 31)) (w.heap.size + 1) (rd (zeros 16) 0 0 0) 31 := At.new1 w _ _ _
  have B0 := Lib.hid (bnew (b0 w (.cells (rd cs p b l) 31)) (.cells (rd (zeros 16) 0 0 0) 31))
  have hn' : (n : Int) < 16 := by omega
  go_enter Try.func30, Try.ntmps30
  go_wp2_with fail
  refine (l01Ok_any _ cs p b l hl hc hp hb hla _ ⟨_, _, A0⟩).mono ?_
  rintro e w1 ⟨rfl, n1, rfl⟩
  have A1 := A0.drewN n1
  have R1 := R0.drewN n1
  have B1 := Lib.hid (bdrew B0.out n1)
  generalize ((w.alloc (.cells (rd cs p b l) 31)).alloc (.cells (rd (zeros 16) 0 0 0) 31)).drewN n1 = w1 at A1 R1 B1 ⊢
  clear A0 R0 B0
  go_wp2_with fail
  refine (l01Cell_any n _).mono ?_
  rw [decide_eq_true (by omega : 0 ≤ (n : Int) ∧ (n : Int) < 16)]
  rintro e w2 ⟨rfl, n2, rfl⟩
  have A2 := A1.drewN n2
  have R2 := R1.drewN n2
  have B2 := Lib.hid (bdrew B1.out n2)
  generalize w1.drewN n2 = w2 at A2 R2 B2 ⊢
  clear A1 R1 B1
  go_wp2_with fail
  refine (l01Share_any x hx _).mono ?_
  rintro e w3 ⟨rfl, n3, rfl⟩
  have A3 := A2.drewN n3
  have R3 := R2.drewN n3
  have B3 := Lib.hid (bdrew B2.out n3)
  generalize w2.drewN n3 = w3 at A3 R3 B3 ⊢
  clear A2 R2 B2
  have G := run_store_one (P := Try.prog) w3 w.heap.size n 31 (rd cs p b l) (.float .f32 x) A3 (by rw [rd_size hl]; omega) rfl
  rw [rd_set hl p b l hn] at G
  have A4 := A3.setRow (rd (cs.set n x) p b l)
  have R4 := R3.setRow_other (k := w.heap.size) (by omega) (rd (cs.set n x) p b l)
  have B4 := Lib.hid (bset B3.out (g := w.heap.size) (Nat.le_refl _) (rd (cs.set n x) p b l))
  clear A3 R3 B3
  have SZ : (rd (cs.set n x) p b l).size = 19 := rd_size (by rw [List.length_set]; exact hl) p b l
  have R9 := R4.setRow (rd (cs.set n x) p b l)
  have B9 := Lib.hid (bset B4.out (g := w.heap.size + 1) (by omega) (rd (cs.set n x) p b l))
  go_wp2_with (first | ((with_reducible refine is_load 31 _ rfl ?_); refine wpList_load_at rfl 31 _ rfl _ rfl (rd (cs.set n x) p b l) _ (by assumption) 19 (SZ) _ Try.underlying31 rfl (by kernel_rfl) ?_) | ((with_reducible refine is_store 31 (.tmp 6) (.tmp 24) rfl ?_); refine wpList_store_at rfl 31 (.tmp 6) (.tmp 24) rfl _ rfl (rd (cs.set n x) p b l) rfl (rd (zeros 16) 0 0 0) _ (by assumption) 19 SZ (rd_size (zeros_len 16) _ _ _) (by kernel_rfl) (fl_one _) ?_))
  exact bodyPost_ret (v := .tuple #[.agg (rd (cs.set n x) p b l), .int .i64 0]) (results_at_tmp (p := 6) (ty := 31) rfl _ _ _ (rd (cs.set n x) p b l) _ (.int .i64 0) rfl rfl R9 _ Try.underlying31 rfl 19 (SZ) (by kernel_rfl)) rfl ⟨rfl, B9.out⟩

def vSetCell (cs : List Nat) (p b l : Nat) (k : Int) (x : Nat) : List Nat × Nat × Nat × Nat × Int := if okB cs p b l then (if 0 ≤ k ∧ k < 16 then (if shrB x then (cs.set k.toNat x, p, b, l, 0) else (zeros 16, 0, 0, 0, 2)) else (zeros 16, 0, 0, 0, 2)) else (zeros 16, 0, 0, 0, 1)
theorem vSetCell_no {cs : List Nat} {p b l : Nat} {k : Int} {x : Nat} (h : okB cs p b l = false) : vSetCell cs p b l k x = (zeros 16, 0, 0, 0, 1) := by unfold vSetCell; rw [h]; rfl
theorem vSetCell_bad1 {cs : List Nat} {p b l : Nat} {k : Int} {x : Nat} (h : okB cs p b l = true) (hk : ¬ (0 ≤ k ∧ k < 16)) : vSetCell cs p b l k x = (zeros 16, 0, 0, 0, 2) := by unfold vSetCell; rw [if_pos h, if_neg hk]
theorem vSetCell_bad2 {cs : List Nat} {p b l : Nat} {k : Int} {x : Nat} (h : okB cs p b l = true) (hk : 0 ≤ k ∧ k < 16) (hs : shrB x = false) : vSetCell cs p b l k x = (zeros 16, 0, 0, 0, 2) := by unfold vSetCell; rw [if_pos h, if_pos hk, hs]; rfl
theorem vSetCell_yes {cs : List Nat} {p b l n x : Nat} (h : okB cs p b l = true) (hn : n < 16) (hs : shrB x = true) : vSetCell cs p b l n x = (cs.set n x, p, b, l, 0) := by unfold vSetCell; rw [if_pos h, if_pos (by omega), hs, if_pos rfl, Int.toNat_natCast]
theorem vSetCell_good {cs : List Nat} (hl : cs.length = 16) (p b l : Nat) (k : Int) (x : Nat) : goodL (vSetCell cs p b l k x).1 (vSetCell cs p b l k x).2.1 (vSetCell cs p b l k x).2.2.1 (vSetCell cs p b l k x).2.2.2.1 := by
  cases h : okB cs p b l
  · rw [vSetCell_no h]; exact zero_good
  · by_cases hk : 0 ≤ k ∧ k < 16
    · cases hs : shrB x
      · rw [vSetCell_bad2 h hk hs]; exact zero_good
      · obtain ⟨n, rfl⟩ := Int.eq_ofNat_of_zero_le hk.1
        rw [vSetCell_yes h (by omega) hs]
        obtain ⟨g1, g2, g3⟩ := okB_good hl h
        refine ⟨by rw [List.length_set]; exact hl, fun y hy => ?_, g3⟩
        rcases List.mem_or_eq_of_mem_set hy with q | q
        · exact g2 y q
        · subst q; exact nan_le (c := 1065353216) (by unfold shrB at hs; simpa using hs) (by omega)
    · rw [vSetCell_bad1 h hk]; exact zero_good

theorem SetCell_any (cs : List Nat) (p b l : Nat) (hl : cs.length = 16) (hc : ∀ x ∈ cs, x < 4294967296) (hp : p < 4294967296) (hb : b < 4294967296) (hla : l < 4294967296) (k : Int) (x : Nat) (hx : x < 4294967296) (w : World) :
    Calls Try.prog 31 #[.agg (rd cs p b l), .int .i64 k, .float .f32 x] w fun e w' => e = .returned (.tuple #[.agg (rd (vSetCell cs p b l k x).1 (vSetCell cs p b l k x).2.1 (vSetCell cs p b l k x).2.2.1 (vSetCell cs p b l k x).2.2.2.1), .int .i64 (vSetCell cs p b l k x).2.2.2.2]) ∧ Below w.heap.size w w' := by
  cases h : okB cs p b l
  · rw [vSetCell_no h]; exact SetCell_no cs p b l hl hc hp hb hla k x hx h w
  · by_cases hk : 0 ≤ k ∧ k < 16
    · cases hs : shrB x
      · rw [vSetCell_bad2 h hk hs]; exact SetCell_bad2 cs p b l hl hc hp hb hla k x hx h hk hs w
      · obtain ⟨n, rfl⟩ := Int.eq_ofNat_of_zero_le hk.1
        rw [vSetCell_yes h (by omega) hs]; exact SetCell_yes cs p b l hl hc hp hb hla n (by omega) x hx h hs w
    · rw [vSetCell_bad1 h hk]; exact SetCell_bad1 cs p b l hl hc hp hb hla k x hx h hk w

theorem sSetCell_any (cs : List Nat) (p b l : Nat) (hl : cs.length = 16) (hc : ∀ x ∈ cs, x < 4294967296) (hp : p < 4294967296) (hb : b < 4294967296) (hla : l < 4294967296) (k : Int) (x : Nat) (hx : x < 4294967296) (w : World) :
    Calls Try.prog 30 #[.agg (rd cs p b l), .int .i64 k, .float .f32 x] w fun e w' => e = .returned (.tuple #[.agg (rd (vSetCell cs p b l k x).1 (vSetCell cs p b l k x).2.1 (vSetCell cs p b l k x).2.2.1 (vSetCell cs p b l k x).2.2.2.1), .int .i64 (vSetCell cs p b l k x).2.2.2.2]) ∧ Below w.heap.size w w' := by
  cases h : okB cs p b l
  · rw [vSetCell_no h]; exact sSetCell_no cs p b l hl hc hp hb hla k x hx h w
  · by_cases hk : 0 ≤ k ∧ k < 16
    · cases hs : shrB x
      · rw [vSetCell_bad2 h hk hs]; exact sSetCell_bad2 cs p b l hl hc hp hb hla k x hx h hk hs w
      · obtain ⟨n, rfl⟩ := Int.eq_ofNat_of_zero_le hk.1
        rw [vSetCell_yes h (by omega) hs]; exact sSetCell_yes cs p b l hl hc hp hb hla n (by omega) x hx h hs w
    · rw [vSetCell_bad1 h hk]; exact sSetCell_bad1 cs p b l hl hc hp hb hla k x hx h hk w
end Go.Proofs.Ytcnmjbogfkoecaa
