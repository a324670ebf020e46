/-
  CONTRACTS: lights: a law's made the program's; valid lights, as the program asks it.
-/
import Derived.Test.YtkhnhbmnmciiaabToPlan
namespace Go.Proofs.Ytkhnhbmnmciiaab
open Go Go.ChangeShapes Go.WideShapes Go.ChangeAt Go.RowKit
set_option maxRecDepth 100000

/-- a light's cells -/
def ltC (s n : Int) (r : Bool) : Array Value := #[.int .i64 s, .int .i64 n, .bool r]
theorem ltC_size (s n : Int) (r : Bool) : (ltC s n r).size = 3 := rfl
theorem ltC_0 (s n : Int) (r : Bool) : (ltC s n r)[0]? = some (.int .i64 s) := rfl
theorem ltC_1 (s n : Int) (r : Bool) : (ltC s n r)[1]? = some (.int .i64 n) := rfl
theorem ltC_2 (s n : Int) (r : Bool) : (ltC s n r)[2]? = some (.bool r) := rfl
theorem ltC_s0 (s n : Int) (r : Bool) (s' : Int) : (ltC s n r).setIfInBounds 0 (.int .i64 s') = ltC s' n r := rfl
theorem ltC_s1 (s n : Int) (r : Bool) (n' : Int) : (ltC s n r).setIfInBounds 1 (.int .i64 n') = ltC s n' r := rfl
theorem ltC_s2 (s n : Int) (r r' : Bool) : (ltC s n r).setIfInBounds 2 (.bool r') = ltC s n r' := rfl
theorem ltC_sz (s : Int) : (#[.int .i64 0, .int .i64 0, .bool false] : Array Value).setIfInBounds 0 (.int .i64 s) = ltC s 0 false := rfl
theorem ltC_z : (#[.int .i64 0, .int .i64 0, .bool false] : Array Value) = ltC 0 0 false := rfl
theorem lt_one (s n : Int) (r : Bool) : (ltC s n r).all (·.oneCell') = true := by unfold ltC; rw [List.all_toArray]; rfl
theorem toLight_any (s n : Int) (r : Bool) (w : World) :
    Calls Try.prog 55 #[.agg (ltC s n r)] w fun e w' => e = .returned (.agg (ltC s n r)) ∧ Below w.heap.size w w' := by
  have A0 : At (((w.alloc (.cells (ltC s n r) 73)).alloc (.cells #[.int .i64 0, .int .i64 0, .bool false] 76)).alloc (.cells #[.int .i64 0, .int .i64 0, .bool false] 76)) w.heap.size (ltC s n r) 73 := ((At.new w _ _).alloc _).alloc _
  have R0 : At (((w.alloc (.cells (ltC s n r) 73)).alloc (.cells #[.int .i64 0, .int .i64 0, .bool false] 76)).alloc (.cells #[.int .i64 0, .int .i64 0, .bool false] 76)) (w.heap.size + 1) #[.int .i64 0, .int .i64 0, .bool false] 76 := (At.last1 w _ _ _).alloc _
  have L0 : At (((w.alloc (.cells (ltC s n r) 73)).alloc (.cells #[.int .i64 0, .int .i64 0, .bool false] 76)).alloc (.cells #[.int .i64 0, .int .i64 0, .bool false] 76)) (w.heap.size + 1 + 1) #[.int .i64 0, .int .i64 0, .bool false] 76 := by
    have := At.new ((w.alloc (.cells (ltC s n r) 73)).alloc (.cells #[.int .i64 0, .int .i64 0, .bool false] 76)) #[.int .i64 0, .int .i64 0, .bool false] 76
    rwa [World.size_alloc, World.size_alloc] at this
  have B0 := Lib.hid (bnew (bnew (b0 w (.cells (ltC s n r) 73)) (.cells #[.int .i64 0, .int .i64 0, .bool false] 76)) (.cells #[.int .i64 0, .int .i64 0, .bool false] 76))
  have A2 := A0.setRow_other (k := w.heap.size + 1 + 1) (by omega) (ltC s 0 false)
  have R2 := R0.setRow_other (k := w.heap.size + 1 + 1) (by omega) (ltC s 0 false)
  have L2 := L0.setRow (ltC s 0 false)
  have B2 := Lib.hid (bset B0.out (g := w.heap.size + 1 + 1) (by omega) (ltC s 0 false))
  have A3 := A2.setRow_other (k := w.heap.size + 1 + 1) (by omega) (ltC s n false)
  have R3 := R2.setRow_other (k := w.heap.size + 1 + 1) (by omega) (ltC s n false)
  have L3 := L2.setRow (ltC s n false)
  have B3 := Lib.hid (bset B2.out (g := w.heap.size + 1 + 1) (by omega) (ltC s n false))
  have R4 := R3.setRow_other (k := w.heap.size + 1 + 1) (by omega) (ltC s n r)
  have L4 := L3.setRow (ltC s n r)
  have B4 := Lib.hid (bset B3.out (g := w.heap.size + 1 + 1) (by omega) (ltC s n r))
  have R9 := R4.setRow (ltC s n r)
  have B9 := Lib.hid (bset B4.out (g := w.heap.size + 1) (by omega) (ltC s n r))
  go_enter Try.func55, Try.ntmps55
  go_wp2_with (first | ((with_reducible refine is_load 2 _ rfl ?_); refine wpList_load_cell rfl 2 _ rfl _ 0 rfl ((ltC s n r)) _ (by with_reducible assumption) _ Try.underlying2 rfl (.int .i64 s) (ltC_0 _ _ _) ?_) | ((with_reducible refine is_load 2 _ rfl ?_); refine wpList_load_cell rfl 2 _ rfl _ 1 rfl ((ltC s n r)) _ (by with_reducible assumption) _ Try.underlying2 rfl (.int .i64 n) (ltC_1 _ _ _) ?_) | ((with_reducible refine is_load 4 _ rfl ?_); refine wpList_load_cell rfl 4 _ rfl _ 2 rfl ((ltC s n r)) _ (by with_reducible assumption) _ Try.underlying4 rfl (.bool r) (ltC_2 _ _ _) ?_) | ((with_reducible refine is_store 2 _ _ rfl ?_); refine wpList_store_cell rfl 2 _ _ rfl _ 0 rfl (.int .i64 s) rfl (#[.int .i64 0, .int .i64 0, .bool false]) _ (by with_reducible assumption) (by decide) (by kernel_rfl) rfl (ltC s 0 false) (ltC_sz _) ?_) | ((with_reducible refine is_store 2 _ _ rfl ?_); refine wpList_store_cell rfl 2 _ _ rfl _ 1 rfl (.int .i64 n) rfl (ltC s 0 false) _ (by with_reducible assumption) (by rw [ltC_size]; omega) (by kernel_rfl) rfl (ltC s n false) (ltC_s1 _ _ _ _) ?_) | ((with_reducible refine is_store 4 _ _ rfl ?_); refine wpList_store_cell rfl 4 _ _ rfl _ 2 rfl (.bool r) rfl (ltC s n false) _ (by with_reducible assumption) (by rw [ltC_size]; omega) (by kernel_rfl) rfl (ltC s n r) (ltC_s2 _ _ _ _) ?_) | ((with_reducible refine is_load 76 _ rfl ?_); refine wpList_load_at rfl 76 _ rfl _ rfl ((ltC s n r)) _ (by with_reducible assumption) 3 (ltC_size _ _ _) _ Try.underlying76 rfl (by kernel_rfl) ?_) | ((with_reducible refine is_store 76 _ _ rfl ?_); refine wpList_store_at rfl 76 _ _ rfl _ rfl ((ltC s n r)) rfl (#[.int .i64 0, .int .i64 0, .bool false]) _ (by with_reducible assumption) 3 (ltC_size _ _ _) (rfl) (by kernel_rfl) (lt_one _ _ _) ?_))
  exact bodyPost_ret (v := .agg (ltC s n r)) (results_at (p := 2) (ty := 76) rfl _ _ _ (ltC s n r) _ rfl R9 _ Try.underlying76 rfl 3 (ltC_size _ _ _) (by kernel_rfl)) rfl ⟨rfl, B9.out⟩

/-- is it a light of a valid plan -/
def liB (m : Nat) (b s n : Int) (r : Bool) : Bool := (decide (0 ≤ s ∧ s < (m : Int)) && decide (0 ≤ n ∧ n ≤ 1000000)) && !(r && decide (b = 0))
theorem liB_1 {m : Nat} {b s n : Int} {r : Bool} (h : ¬ (0 ≤ s ∧ s < (m : Int))) : liB m b s n r = false := by unfold liB; rw [decide_eq_false h]; rfl
theorem liB_2 {m : Nat} {b s n : Int} {r : Bool} (h : ¬ (0 ≤ n ∧ n ≤ 1000000)) : liB m b s n r = false := by unfold liB; rw [decide_eq_false h, Bool.and_false]; rfl
theorem liB_3 {m : Nat} {b s n : Int} {r : Bool} (h1 : 0 ≤ s ∧ s < (m : Int)) (h2 : 0 ≤ n ∧ n ≤ 1000000) : liB m b s n r = !(r && decide (b = 0)) := by unfold liB; rw [decide_eq_true h1, decide_eq_true h2]; rfl
theorem isLightOf_any (a : Option Addr) (m cap : Nat) (b o s n : Int) (r : Bool) (_hm : m ≤ 9223372036854775807) (w : World) :
    Calls Try.prog 120 #[.agg (plC (.slice a m cap) b o), .agg (ltC s n r)] w fun e w' => e = .returned (.bool (liB m b s n r)) ∧ Below w.heap.size w w' := by
  have P0 : At ((w.alloc (.cells (plC (.slice a m cap) b o) 29)).alloc (.cells (ltC s n r) 76)) w.heap.size (plC (.slice a m cap) b o) 29 := (At.new w _ _).alloc _
  have L0 : At ((w.alloc (.cells (plC (.slice a m cap) b o) 29)).alloc (.cells (ltC s n r) 76)) (w.heap.size + 1) (ltC s n r) 76 := At.last1 w _ _ _
  have B0 := Lib.hid (bnew (b0 w (.cells (plC (.slice a m cap) b o) 29)) (.cells (ltC s n r) 76))
  have c0 := P0.cell (plC_0 _ _ _)
  have c1 := P0.cell (plC_1 _ _ _)
  have d0 := L0.cell (ltC_0 _ _ _)
  have d1 := L0.cell (ltC_1 _ _ _)
  have d2 := L0.cell (ltC_2 _ _ _)
  clear P0 L0
  by_cases h1 : 0 ≤ s
  · by_cases h2 : s < (m : Int)
    · by_cases h3 : 0 ≤ n
      · by_cases h4 : n ≤ 1000000
        · cases r
          · have hv := Lib.hid (liB_3 (b := b) (r := false) ⟨h1, h2⟩ ⟨h3, h4⟩)
            go_enter Try.func120, Try.ntmps120
            go_wp2
            go_ret
            exact ⟨by rw [hv.out]; rfl, B0.out⟩
          · by_cases h5 : b = 0
            · subst h5
              have hv := Lib.hid (liB_3 (b := 0) (r := true) ⟨h1, h2⟩ ⟨h3, h4⟩)
              go_enter Try.func120, Try.ntmps120
              go_wp2
              go_ret
              exact ⟨by rw [hv.out]; rfl, B0.out⟩
            · have hb : (b == 0) = false := by simpa using h5
              have hv5 : liB m b s n true = true := by rw [liB_3 ⟨h1, h2⟩ ⟨h3, h4⟩, decide_eq_false h5]; rfl
              have hv := Lib.hid (hv5)
              go_enter Try.func120, Try.ntmps120
              go_wp2
              go_ret
              exact ⟨by rw [hv.out]; rfl, B0.out⟩
        · have hv := Lib.hid (liB_2 (m := m) (b := b) (s := s) (r := r) (fun h => h4 h.2))
          go_enter Try.func120, Try.ntmps120
          go_wp2
          go_ret
          exact ⟨by rw [hv.out]; rfl, B0.out⟩
      · have hv := Lib.hid (liB_2 (m := m) (b := b) (s := s) (r := r) (fun h => h3 h.1))
        go_enter Try.func120, Try.ntmps120
        go_wp2
        go_ret
        exact ⟨by rw [hv.out]; rfl, B0.out⟩
    · have hv := Lib.hid (liB_1 (m := m) (b := b) (n := n) (r := r) (fun h => h2 h.2))
      go_enter Try.func120, Try.ntmps120
      go_wp2
      go_ret
      exact ⟨by rw [hv.out]; rfl, B0.out⟩
  · have hv := Lib.hid (liB_1 (m := m) (b := b) (n := n) (r := r) (fun h => h1 h.1))
    go_enter Try.func120, Try.ntmps120
    go_wp2
    go_ret
    exact ⟨by rw [hv.out]; rfl, B0.out⟩

end Go.Proofs.Ytkhnhbmnmciiaab
