/-
  CONTRACTS: MakeRoad.
-/
import Derived.Test.YtcnmjbogfkoecaaEq
import Derived.Test.YtcnmjbogfkoecaaAt
namespace Go.Proofs.Ytcnmjbogfkoecaa
open Go Go.RowKit

theorem zeros_lt : ∀ x ∈ zeros 16, x < 4294967296 := fun x hx => by obtain rfl := List.eq_of_mem_replicate hx; decide
theorem At.new1 (w : World) (A : Obj) (c : Array Value) (T : TypeId) : At ((w.alloc A).alloc (.cells c T)) (w.heap.size + 1) c T := by
  have := At.new (w.alloc A) c T
  rwa [World.size_alloc] at this
theorem MakeRoad_yes (p b l : Nat) (hp : p < 4294967296) (hb : b < 4294967296) (hla : l < 4294967296) (h : okB (zeros 16) p b l = true) (w : World) :
    Calls Try.prog 26 #[.float .f32 p, .float .f32 b, .float .f32 l] w fun e w' => e = .returned (.tuple #[.agg (rd (zeros 16) p b l), .int .i64 0]) ∧ Below w.heap.size w w' := by
  have R1 : At ((w.alloc (.cells (rd (zeros 16) 0 0 0) 31)).alloc (.cells (rd (zeros 16) 0 0 0) 31)) w.heap.size (rd (zeros 16) 0 0 0) 31 := (At.new w _ _).alloc _
  have A1 : At ((w.alloc (.cells (rd (zeros 16) 0 0 0) 31)).alloc (.cells (rd (zeros 16) 0 0 0) 31)) (w.heap.size + 1) (rd (zeros 16) 0 0 0) 31 := At.new1 w _ _ _
  have B1 := bnew (b0 w (.cells (rd (zeros 16) 0 0 0) 31)) (.cells (rd (zeros 16) 0 0 0) 31)
  have A2 := A1.setRow (rd (zeros 16) p b l)
  have R2 := R1.setRow_other (k := w.heap.size + 1) (by omega) (rd (zeros 16) p b l)
  have B2 := Lib.hid (bset B1 (g := w.heap.size + 1) (by omega) (rd (zeros 16) p b l))
  clear B1 R1
  go_enter Try.func26, Try.ntmps26
  go_wp2_with (first | ((with_reducible refine is_store 31 (.tmp 8) (.tmp 12) rfl ?_); refine wpList_store_at rfl 31 (.tmp 8) (.tmp 12) rfl _ rfl (rd (zeros 16) p b l) rfl (rd (zeros 16) 0 0 0) _ (by assumption) 19 (by first | exact rd_size (zeros_len 16) _ _ _ | (refine rd_size ?_ _ _ _; assumption)) (by first | exact rd_size (zeros_len 16) _ _ _ | (refine rd_size ?_ _ _ _; assumption)) (by kernel_rfl) (fl_one _) ?_) | ((with_reducible refine is_load 31 _ rfl ?_); refine wpList_load_at rfl 31 _ rfl _ rfl (rd (zeros 16) p b l) _ (by assumption) 19 (rd_size (zeros_len 16) _ _ _) _ Try.underlying31 rfl (by kernel_rfl) ?_))
  refine (ValidRoad_any (zeros 16) p b l (zeros_len 16) zeros_lt hp hb hla _).mono ?_
  rintro e w3 ⟨rfl, hb3⟩
  have A3 := A2.step hb3
  have R3 := R2.step hb3
  have B3 := Lib.hid (bthen B2.out hb3)
  clear A1 A2 R2 B2 hb3
  have R4 := R3.setRow (rd (zeros 16) p b l)
  have B4 := Lib.hid (bset B3.out (g := w.heap.size) (Nat.le_refl _) (rd (zeros 16) p b l))
  go_wp2_with (first | ((with_reducible refine is_load 31 _ rfl ?_); refine wpList_load_at rfl 31 _ rfl _ rfl (rd (zeros 16) p b l) _ (by assumption) 19 (rd_size (zeros_len 16) _ _ _) _ Try.underlying31 rfl (by kernel_rfl) ?_) | ((with_reducible refine is_store 31 (.tmp 6) (.tmp 17) rfl ?_); refine wpList_store_at rfl 31 (.tmp 6) (.tmp 17) rfl _ rfl (rd (zeros 16) p b l) rfl (rd (zeros 16) 0 0 0) _ (by assumption) 19 (by first | exact rd_size (zeros_len 16) _ _ _ | (refine rd_size ?_ _ _ _; assumption)) (by first | exact rd_size (zeros_len 16) _ _ _ | (refine rd_size ?_ _ _ _; assumption)) (by kernel_rfl) (fl_one _) ?_))
  exact bodyPost_ret (v := .tuple #[.agg (rd (zeros 16) p b l), .int .i64 0]) (results_at_tmp (p := 6) (ty := 31) rfl _ _ _ (rd (zeros 16) p b l) _ (.int .i64 0) rfl rfl R4 _ Try.underlying31 rfl 19 (rd_size (zeros_len 16) _ _ _) (by kernel_rfl)) rfl ⟨rfl, B4.out⟩

theorem MakeRoad_no (p b l : Nat) (hp : p < 4294967296) (hb : b < 4294967296) (hla : l < 4294967296) (h : okB (zeros 16) p b l = false) (w : World) :
    Calls Try.prog 26 #[.float .f32 p, .float .f32 b, .float .f32 l] w fun e w' => e = .returned (.tuple #[.agg (rd (zeros 16) 0 0 0), .int .i64 1]) ∧ Below w.heap.size w w' := by
  have R1 : At ((w.alloc (.cells (rd (zeros 16) 0 0 0) 31)).alloc (.cells (rd (zeros 16) 0 0 0) 31)) w.heap.size (rd (zeros 16) 0 0 0) 31 := (At.new w _ _).alloc _
  have A1 : At ((w.alloc (.cells (rd (zeros 16) 0 0 0) 31)).alloc (.cells (rd (zeros 16) 0 0 0) 31)) (w.heap.size + 1) (rd (zeros 16) 0 0 0) 31 := At.new1 w _ _ _
  have B1 := bnew (b0 w (.cells (rd (zeros 16) 0 0 0) 31)) (.cells (rd (zeros 16) 0 0 0) 31)
  have A2 := A1.setRow (rd (zeros 16) p b l)
  have R2 := R1.setRow_other (k := w.heap.size + 1) (by omega) (rd (zeros 16) p b l)
  have B2 := Lib.hid (bset B1 (g := w.heap.size + 1) (by omega) (rd (zeros 16) p b l))
  clear B1 R1
  go_enter Try.func26, Try.ntmps26
  go_wp2_with (first | ((with_reducible refine is_store 31 (.tmp 8) (.tmp 12) rfl ?_); refine wpList_store_at rfl 31 (.tmp 8) (.tmp 12) rfl _ rfl (rd (zeros 16) p b l) rfl (rd (zeros 16) 0 0 0) _ (by assumption) 19 (by first | exact rd_size (zeros_len 16) _ _ _ | (refine rd_size ?_ _ _ _; assumption)) (by first | exact rd_size (zeros_len 16) _ _ _ | (refine rd_size ?_ _ _ _; assumption)) (by kernel_rfl) (fl_one _) ?_) | ((with_reducible refine is_load 31 _ rfl ?_); refine wpList_load_at rfl 31 _ rfl _ rfl (rd (zeros 16) p b l) _ (by assumption) 19 (rd_size (zeros_len 16) _ _ _) _ Try.underlying31 rfl (by kernel_rfl) ?_))
  refine (ValidRoad_any (zeros 16) p b l (zeros_len 16) zeros_lt hp hb hla _).mono ?_
  rintro e w3 ⟨rfl, hb3⟩
  have R3 := R2.step hb3
  have B3 := Lib.hid (bthen B2.out hb3)
  clear A1 A2 R2 B2 hb3
  have R4 := R3.setRow (rd (zeros 16) 0 0 0)
  have B4 := Lib.hid (bset B3.out (g := w.heap.size) (Nat.le_refl _) (rd (zeros 16) 0 0 0))
  go_wp2_with (((with_reducible refine is_store 31 (.tmp 6) (.tmp 16) rfl ?_); refine wpList_store_at rfl 31 (.tmp 6) (.tmp 16) rfl _ rfl (rd (zeros 16) 0 0 0) rfl (rd (zeros 16) 0 0 0) _ (by assumption) 19 (by first | exact rd_size (zeros_len 16) _ _ _ | (refine rd_size ?_ _ _ _; assumption)) (by first | exact rd_size (zeros_len 16) _ _ _ | (refine rd_size ?_ _ _ _; assumption)) (by kernel_rfl) (fl_one _) ?_))
  exact bodyPost_ret (v := .tuple #[.agg (rd (zeros 16) 0 0 0), .int .i64 1]) (results_at_tmp (p := 6) (ty := 31) rfl _ _ _ (rd (zeros 16) 0 0 0) _ (.int .i64 1) rfl rfl R4 _ Try.underlying31 rfl 19 (rd_size (zeros_len 16) _ _ _) (by kernel_rfl)) rfl ⟨rfl, B4.out⟩

theorem sMakeRoad_yes (p b l : Nat) (hp : p < 4294967296) (hb : b < 4294967296) (hla : l < 4294967296) (h : okB (zeros 16) p b l = true) (w : World) :
    Calls Try.prog 25 #[.float .f32 p, .float .f32 b, .float .f32 l] w fun e w' => e = .returned (.tuple #[.agg (rd (zeros 16) p b l), .int .i64 0]) ∧ Below w.heap.size w w' := by
  have R1 : At ((w.alloc (.cells (rd (zeros 16) 0 0 0) 31)).alloc (.cells (rd (zeros 16) 0 0 0) 31)) w.heap.size (rd (zeros 16) 0 0 0) 31 := (At.new w _ _).alloc _
  have A1 : At ((w.alloc (.cells (rd (zeros 16) 0 0 0) 31)).alloc (.cells (rd (zeros 16) 0 0 0) 31)) (w.heap.size + 1) (rd (zeros 16) 0 0 0) 31 := At.new1 w _ _ _
  have B1 := bnew (b0 w (.cells (rd (zeros 16) 0 0 0) 31)) (.cells (rd (zeros 16) 0 0 0) 31)
  have A2 := A1.setRow (rd (zeros 16) p b l)
  have R2 := R1.setRow_other (k := w.heap.size + 1) (by omega) (rd (zeros 16) p b l)
  have B2 := Lib.hid (bset B1 (g := w.heap.size + 1) (by omega) (rd (zeros 16) p b l))
  clear B1 R1
  go_enter Try.func25, Try.ntmps25
  go_wp2_with (((with_reducible refine is_store 31 (.tmp 8) (.tmp 12) rfl ?_); refine wpList_store_at rfl 31 (.tmp 8) (.tmp 12) rfl _ rfl (rd (zeros 16) p b l) rfl (rd (zeros 16) 0 0 0) _ (by assumption) 19 (by first | exact rd_size (zeros_len 16) _ _ _ | (refine rd_size ?_ _ _ _; assumption)) (by first | exact rd_size (zeros_len 16) _ _ _ | (refine rd_size ?_ _ _ _; assumption)) (by kernel_rfl) (fl_one _) ?_))
  refine (l01Ok_any _ (zeros 16) p b l (zeros_len 16) zeros_lt hp hb hla _ ⟨_, _, A2⟩).mono ?_
  rintro e w3 ⟨rfl, n3, rfl⟩
  have A3 := A2.drewN n3
  have R3 := R2.drewN n3
  have B3 := Lib.hid (bdrew B2.out n3)
  clear A1 A2 R2 B2
  have R4 := R3.setRow (rd (zeros 16) p b l)
  have B4 := Lib.hid (bset B3.out (g := w.heap.size) (Nat.le_refl _) (rd (zeros 16) p b l))
  go_wp2_with (first | ((with_reducible refine is_load 31 _ rfl ?_); refine wpList_load_at rfl 31 _ rfl _ rfl (rd (zeros 16) p b l) _ (by assumption) 19 (rd_size (zeros_len 16) _ _ _) _ Try.underlying31 rfl (by kernel_rfl) ?_) | ((with_reducible refine is_store 31 (.tmp 6) (.tmp 16) rfl ?_); refine wpList_store_at rfl 31 (.tmp 6) (.tmp 16) rfl _ rfl (rd (zeros 16) p b l) rfl (rd (zeros 16) 0 0 0) _ (by assumption) 19 (by first | exact rd_size (zeros_len 16) _ _ _ | (refine rd_size ?_ _ _ _; assumption)) (by first | exact rd_size (zeros_len 16) _ _ _ | (refine rd_size ?_ _ _ _; assumption)) (by kernel_rfl) (fl_one _) ?_))
  exact bodyPost_ret (v := .tuple #[.agg (rd (zeros 16) p b l), .int .i64 0]) (results_at_tmp (p := 6) (ty := 31) rfl _ _ _ (rd (zeros 16) p b l) _ (.int .i64 0) rfl rfl R4 _ Try.underlying31 rfl 19 (rd_size (zeros_len 16) _ _ _) (by kernel_rfl)) rfl ⟨rfl, B4.out⟩

theorem sMakeRoad_no (p b l : Nat) (hp : p < 4294967296) (hb : b < 4294967296) (hla : l < 4294967296) (h : okB (zeros 16) p b l = false) (w : World) :
    Calls Try.prog 25 #[.float .f32 p, .float .f32 b, .float .f32 l] w fun e w' => e = .returned (.tuple #[.agg (rd (zeros 16) 0 0 0), .int .i64 1]) ∧ Below w.heap.size w w' := by
  have R1 : At ((w.alloc (.cells (rd (zeros 16) 0 0 0) 31)).alloc (.cells (rd (zeros 16) 0 0 0) 31)) w.heap.size (rd (zeros 16) 0 0 0) 31 := (At.new w _ _).alloc _
  have A1 : At ((w.alloc (.cells (rd (zeros 16) 0 0 0) 31)).alloc (.cells (rd (zeros 16) 0 0 0) 31)) (w.heap.size + 1) (rd (zeros 16) 0 0 0) 31 := At.new1 w _ _ _
  have B1 := bnew (b0 w (.cells (rd (zeros 16) 0 0 0) 31)) (.cells (rd (zeros 16) 0 0 0) 31)
  have A2 := A1.setRow (rd (zeros 16) p b l)
  have R2 := R1.setRow_other (k := w.heap.size + 1) (by omega) (rd (zeros 16) p b l)
  have B2 := Lib.hid (bset B1 (g := w.heap.size + 1) (by omega) (rd (zeros 16) p b l))
  clear B1 R1
  go_enter Try.func25, Try.ntmps25
  go_wp2_with (((with_reducible refine is_store 31 (.tmp 8) (.tmp 12) rfl ?_); refine wpList_store_at rfl 31 (.tmp 8) (.tmp 12) rfl _ rfl (rd (zeros 16) p b l) rfl (rd (zeros 16) 0 0 0) _ (by assumption) 19 (by first | exact rd_size (zeros_len 16) _ _ _ | (refine rd_size ?_ _ _ _; assumption)) (by first | exact rd_size (zeros_len 16) _ _ _ | (refine rd_size ?_ _ _ _; assumption)) (by kernel_rfl) (fl_one _) ?_))
  refine (l01Ok_any _ (zeros 16) p b l (zeros_len 16) zeros_lt hp hb hla _ ⟨_, _, A2⟩).mono ?_
  rintro e w3 ⟨rfl, n3, rfl⟩
  have R3 := R2.drewN n3
  have B3 := Lib.hid (bdrew B2.out n3)
  clear A1 A2 R2 B2
  have R4 := R3.setRow (rd (zeros 16) 0 0 0)
  have B4 := Lib.hid (bset B3.out (g := w.heap.size) (Nat.le_refl _) (rd (zeros 16) 0 0 0))
  go_wp2_with (((with_reducible refine is_store 31 (.tmp 6) (.tmp 15) rfl ?_); refine wpList_store_at rfl 31 (.tmp 6) (.tmp 15) rfl _ rfl (rd (zeros 16) 0 0 0) rfl (rd (zeros 16) 0 0 0) _ (by assumption) 19 (by first | exact rd_size (zeros_len 16) _ _ _ | (refine rd_size ?_ _ _ _; assumption)) (by first | exact rd_size (zeros_len 16) _ _ _ | (refine rd_size ?_ _ _ _; assumption)) (by kernel_rfl) (fl_one _) ?_))
  exact bodyPost_ret (v := .tuple #[.agg (rd (zeros 16) 0 0 0), .int .i64 1]) (results_at_tmp (p := 6) (ty := 31) rfl _ _ _ (rd (zeros 16) 0 0 0) _ (.int .i64 1) rfl rfl R4 _ Try.underlying31 rfl 19 (rd_size (zeros_len 16) _ _ _) (by kernel_rfl)) rfl ⟨rfl, B4.out⟩

def vMakeRoad (p b l : Nat) : Nat × Nat × Nat × Int := if okB (zeros 16) p b l then (p, b, l, 0) else (0, 0, 0, 1)
theorem vMakeRoad_yes {p b l : Nat} (h : okB (zeros 16) p b l = true) : vMakeRoad p b l = (p, b, l, 0) := by unfold vMakeRoad; rw [if_pos h]
theorem vMakeRoad_no {p b l : Nat} (h : okB (zeros 16) p b l = false) : vMakeRoad p b l = (0, 0, 0, 1) := by unfold vMakeRoad; rw [h]; rfl
theorem vMakeRoad_good (p b l : Nat) : goodL (zeros 16) (vMakeRoad p b l).1 (vMakeRoad p b l).2.1 (vMakeRoad p b l).2.2.1 := by
  cases h : okB (zeros 16) p b l
  · rw [vMakeRoad_no h]; exact zero_good
  · rw [vMakeRoad_yes h]; exact okB_good (zeros_len 16) h

theorem MakeRoad_any (p b l : Nat) (hp : p < 4294967296) (hb : b < 4294967296) (hla : l < 4294967296) (w : World) :
    Calls Try.prog 26 #[.float .f32 p, .float .f32 b, .float .f32 l] w fun e w' => e = .returned (.tuple #[.agg (rd (zeros 16) (vMakeRoad p b l).1 (vMakeRoad p b l).2.1 (vMakeRoad p b l).2.2.1), .int .i64 (vMakeRoad p b l).2.2.2]) ∧ Below w.heap.size w w' := by
  cases h : okB (zeros 16) p b l
  · rw [vMakeRoad_no h]; exact MakeRoad_no p b l hp hb hla h w
  · rw [vMakeRoad_yes h]; exact MakeRoad_yes p b l hp hb hla h w

theorem sMakeRoad_any (p b l : Nat) (hp : p < 4294967296) (hb : b < 4294967296) (hla : l < 4294967296) (w : World) :
    Calls Try.prog 25 #[.float .f32 p, .float .f32 b, .float .f32 l] w fun e w' => e = .returned (.tuple #[.agg (rd (zeros 16) (vMakeRoad p b l).1 (vMakeRoad p b l).2.1 (vMakeRoad p b l).2.2.1), .int .i64 (vMakeRoad p b l).2.2.2]) ∧ Below w.heap.size w w' := by
  cases h : okB (zeros 16) p b l
  · rw [vMakeRoad_no h]; exact sMakeRoad_no p b l hp hb hla h w
  · rw [vMakeRoad_yes h]; exact sMakeRoad_yes p b l hp hb hla h w
end Go.Proofs.Ytcnmjbogfkoecaa
