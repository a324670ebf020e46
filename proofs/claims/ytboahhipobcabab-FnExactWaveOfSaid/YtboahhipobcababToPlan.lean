/-
  CONTRACTS: plans, a law's made the program's, and held against each other; sizes.
-/
import Derived.Test.YtboahhipobcababToSlots
namespace Go.Proofs.Ytboahhipobcabab
open Go Go.ChangeShapes Go.WideShapes Go.ChangeAt Go.RowKit
set_option maxRecDepth 100000

/-- a plan's cells -/
def plC (s : Value) (b o : Int) : Array Value := #[s, .int .i64 b, .int .i64 o]
theorem plC_size (s : Value) (b o : Int) : (plC s b o).size = 3 := rfl
theorem plC_0 (s : Value) (b o : Int) : (plC s b o)[0]? = some s := rfl
theorem plC_1 (s : Value) (b o : Int) : (plC s b o)[1]? = some (.int .i64 b) := rfl
theorem plC_2 (s : Value) (b o : Int) : (plC s b o)[2]? = some (.int .i64 o) := rfl
theorem plC_s0 (s : Value) (b o : Int) (s' : Value) : (plC s b o).setIfInBounds 0 s' = plC s' b o := rfl
theorem plC_s1 (s : Value) (b o b' : Int) : (plC s b o).setIfInBounds 1 (.int .i64 b') = plC s b' o := rfl
theorem plC_s2 (s : Value) (b o o' : Int) : (plC s b o).setIfInBounds 2 (.int .i64 o') = plC s b o' := rfl
theorem plC_z : (#[.slice none 0 0, .int .i64 0, .int .i64 0] : Array Value) = plC (.slice none 0 0) 0 0 := rfl
theorem pl_one (s : Value) (hs : s.oneCell' = true) (b o : Int) : (plC s b o).all (·.oneCell') = true := by
  unfold plC
  rw [List.all_toArray, List.all_cons, List.all_cons, List.all_cons, List.all_nil, hs]; rfl
theorem sl_one (a : Option Addr) (n c : Nat) : (Value.slice a n c).oneCell' = true := rfl

theorem szSlotS_any (a : Option Addr) (n cap : Nat) (left : Int) (hl : 0 ≤ left ∧ left ≤ 1048576) (hn : n ≤ maxLen) (w : World) :
    Calls Try.prog 96 #[.slice a n cap, .int .i64 left] w fun e w' => e = .returned (.int .i64 (if left < n then -1 else left - n)) ∧ w' = w := by
  have hm : n ≤ 9223372036854775807 := Nat.le_trans hn (by decide)
  have s1 : IntKind.i64.wrap (left - (n : Int)) = left - (n : Int) := IntWalk.i64_in _ (by omega)
  by_cases h : left < (n : Int)
  · rw [if_pos h]
    go_enter Try.func96, Try.ntmps96
    go_wp2
    go_ret
    exact ⟨rfl, rfl⟩
  · rw [if_neg h]
    go_enter Try.func96, Try.ntmps96
    go_wp2
    go_ret
    exact ⟨rfl, rfl⟩
theorem szPlan_any (a : Option Addr) (n cap : Nat) (b o left : Int) (hl : 0 ≤ left ∧ left ≤ 1048576) (hn : n ≤ maxLen) (w : World) :
    Calls Try.prog 53 #[.agg (plC (.slice a n cap) b o), .int .i64 left] w fun e w' => e = .returned (.int .i64 (if left < n then -1 else left - n)) ∧ Below w.heap.size w w' := by
  have K := szSlotS_any a n cap left hl hn
  have A0 := At.new w (plC (.slice a n cap) b o) 93
  by_cases h : left < (n : Int)
  · rw [if_pos h] at K ⊢
    go_enter Try.func53, Try.ntmps53
    go_wp2_with (((with_reducible refine is_load 91 _ rfl ?_); refine wpList_load_cell rfl 91 _ rfl _ 0 rfl (plC (.slice a n cap) b o) _ (by with_reducible assumption) _ Try.underlying91 rfl (.slice a n cap) (plC_0 _ _ _) ?_))
    refine (K _).mono ?_
    rintro e w1 ⟨rfl, rfl⟩
    go_wp2_with fail
    go_ret
    exact ⟨rfl, b0 _ _⟩
  · rw [if_neg h] at K ⊢
    go_enter Try.func53, Try.ntmps53
    go_wp2_with (((with_reducible refine is_load 91 _ rfl ?_); refine wpList_load_cell rfl 91 _ rfl _ 0 rfl (plC (.slice a n cap) b o) _ (by with_reducible assumption) _ Try.underlying91 rfl (.slice a n cap) (plC_0 _ _ _) ?_))
    refine (K _).mono ?_
    rintro e w1 ⟨rfl, rfl⟩
    go_wp2_with fail
    go_ret
    exact ⟨rfl, b0 _ _⟩

set_option maxHeartbeats 400000 in
theorem toPlan_any (a : Option Addr) (cap : Nat) (xs : Slots) (b o : Int) (w : World) (hF : SSl w (.slice a xs.length cap) xs) (hn : xs.length ≤ 1048576) :
    Calls Try.prog 58 #[.agg (plC (.slice a xs.length cap) b o)] w fun e w' => ∃ G, e = .returned (.agg (plC (.slice (some ⟨G, 0, none⟩) xs.length xs.length) b o)) ∧ At w' G (slC xs) 107 ∧ w.heap.size ≤ G ∧ Below w.heap.size w w' := by
  have A0 : At (((w.alloc (.cells (plC (.slice a xs.length cap) b o) 93)).alloc (.cells #[.slice none 0 0, .int .i64 0, .int .i64 0] 41)).alloc (.cells #[.slice none 0 0, .int .i64 0, .int .i64 0] 41)) w.heap.size (plC (.slice a xs.length cap) b o) 93 := ((At.new w _ _).alloc _).alloc _
  have R0 : At (((w.alloc (.cells (plC (.slice a xs.length cap) b o) 93)).alloc (.cells #[.slice none 0 0, .int .i64 0, .int .i64 0] 41)).alloc (.cells #[.slice none 0 0, .int .i64 0, .int .i64 0] 41)) (w.heap.size + 1) #[.slice none 0 0, .int .i64 0, .int .i64 0] 41 := (At.last1 w _ _ _).alloc _
  have L0 : At (((w.alloc (.cells (plC (.slice a xs.length cap) b o) 93)).alloc (.cells #[.slice none 0 0, .int .i64 0, .int .i64 0] 41)).alloc (.cells #[.slice none 0 0, .int .i64 0, .int .i64 0] 41)) (w.heap.size + 1 + 1) #[.slice none 0 0, .int .i64 0, .int .i64 0] 41 := by
    have := At.new ((w.alloc (.cells (plC (.slice a xs.length cap) b o) 93)).alloc (.cells #[.slice none 0 0, .int .i64 0, .int .i64 0] 41)) #[.slice none 0 0, .int .i64 0, .int .i64 0] 41
    rwa [World.size_alloc, World.size_alloc] at this
  have B0 := Lib.hid (bnew (bnew (b0 w (.cells (plC (.slice a xs.length cap) b o) 93)) (.cells #[.slice none 0 0, .int .i64 0, .int .i64 0] 41)) (.cells #[.slice none 0 0, .int .i64 0, .int .i64 0] 41))
  have KS := toSlotS_any (.slice a xs.length cap) xs (((w.alloc (.cells (plC (.slice a xs.length cap) b o) 93)).alloc (.cells #[.slice none 0 0, .int .i64 0, .int .i64 0] 41)).alloc (.cells #[.slice none 0 0, .int .i64 0, .int .i64 0] 41)) (hF.step (Nat.le_refl _) B0.out) hn
  have hsz : ((((w.alloc (.cells (plC (.slice a xs.length cap) b o) 93)).alloc (.cells #[.slice none 0 0, .int .i64 0, .int .i64 0] 41)).alloc (.cells #[.slice none 0 0, .int .i64 0, .int .i64 0] 41))).heap.size = w.heap.size + 1 + 1 + 1 := by rw [World.size_alloc, World.size_alloc, World.size_alloc]
  clear hF
  go_enter Try.func58, Try.ntmps58
  go_wp2_with (first | ((with_reducible refine is_load 91 _ rfl ?_); refine wpList_load_cell rfl 91 _ rfl _ 0 rfl ((plC (.slice a xs.length cap) b o)) _ (by with_reducible assumption) _ Try.underlying91 rfl ((.slice a xs.length cap)) (plC_0 _ _ _) ?_))
  refine KS.mono ?_
  rw [hsz]
  rintro e w1 ⟨rfl, hG, hb1⟩
  have A1 := A0.step (hb1.mono (Nat.le_of_eq hsz))
  have R1 := R0.step (hb1.mono (Nat.le_of_eq hsz))
  have L1 := L0.step (hb1.mono (Nat.le_of_eq hsz))
  have B1 := Lib.hid (bthen B0.out (hb1.mono (Nat.le_of_eq hsz)))
  clear A0 R0 L0 B0 hb1 KS hsz
  rw [plC_z] at R1 L1
  have A2 := A1.setRow_other (k := w.heap.size + 1 + 1) (by omega) (plC (.slice (some ⟨w.heap.size + 1 + 1 + 1, 0, none⟩) xs.length xs.length) 0 0)
  have R2 := R1.setRow_other (k := w.heap.size + 1 + 1) (by omega) (plC (.slice (some ⟨w.heap.size + 1 + 1 + 1, 0, none⟩) xs.length xs.length) 0 0)
  have G2 := hG.setRow_other (k := w.heap.size + 1 + 1) (by omega) (plC (.slice (some ⟨w.heap.size + 1 + 1 + 1, 0, none⟩) xs.length xs.length) 0 0)
  have L2 := L1.setRow (plC (.slice (some ⟨w.heap.size + 1 + 1 + 1, 0, none⟩) xs.length xs.length) 0 0)
  have B2 := Lib.hid (bset B1.out (g := w.heap.size + 1 + 1) (by omega) (plC (.slice (some ⟨w.heap.size + 1 + 1 + 1, 0, none⟩) xs.length xs.length) 0 0))
  have A3 := A2.setRow_other (k := w.heap.size + 1 + 1) (by omega) (plC (.slice (some ⟨w.heap.size + 1 + 1 + 1, 0, none⟩) xs.length xs.length) b 0)
  have R3 := R2.setRow_other (k := w.heap.size + 1 + 1) (by omega) (plC (.slice (some ⟨w.heap.size + 1 + 1 + 1, 0, none⟩) xs.length xs.length) b 0)
  have G3 := G2.setRow_other (k := w.heap.size + 1 + 1) (by omega) (plC (.slice (some ⟨w.heap.size + 1 + 1 + 1, 0, none⟩) xs.length xs.length) b 0)
  have L3 := L2.setRow (plC (.slice (some ⟨w.heap.size + 1 + 1 + 1, 0, none⟩) xs.length xs.length) b 0)
  have B3 := Lib.hid (bset B2.out (g := w.heap.size + 1 + 1) (by omega) (plC (.slice (some ⟨w.heap.size + 1 + 1 + 1, 0, none⟩) xs.length xs.length) b 0))
  have R4 := R3.setRow_other (k := w.heap.size + 1 + 1) (by omega) (plC (.slice (some ⟨w.heap.size + 1 + 1 + 1, 0, none⟩) xs.length xs.length) b o)
  have G4 := G3.setRow_other (k := w.heap.size + 1 + 1) (by omega) (plC (.slice (some ⟨w.heap.size + 1 + 1 + 1, 0, none⟩) xs.length xs.length) b o)
  have L4 := L3.setRow (plC (.slice (some ⟨w.heap.size + 1 + 1 + 1, 0, none⟩) xs.length xs.length) b o)
  have B4 := Lib.hid (bset B3.out (g := w.heap.size + 1 + 1) (by omega) (plC (.slice (some ⟨w.heap.size + 1 + 1 + 1, 0, none⟩) xs.length xs.length) b o))
  have R9 := R4.setRow (plC (.slice (some ⟨w.heap.size + 1 + 1 + 1, 0, none⟩) xs.length xs.length) b o)
  have G9 := G4.setRow_other (k := w.heap.size + 1) (by omega) (plC (.slice (some ⟨w.heap.size + 1 + 1 + 1, 0, none⟩) xs.length xs.length) b o)
  have B9 := Lib.hid (bset B4.out (g := w.heap.size + 1) (by omega) (plC (.slice (some ⟨w.heap.size + 1 + 1 + 1, 0, none⟩) xs.length xs.length) b o))
  go_wp2_with (first | ((with_reducible refine is_load 2 _ rfl ?_); refine wpList_load_cell rfl 2 _ rfl _ 1 rfl ((plC (.slice a xs.length cap) b o)) _ (by with_reducible assumption) _ Try.underlying2 rfl (.int .i64 b) (plC_1 _ _ _) ?_) | ((with_reducible refine is_load 2 _ rfl ?_); refine wpList_load_cell rfl 2 _ rfl _ 2 rfl ((plC (.slice a xs.length cap) b o)) _ (by with_reducible assumption) _ Try.underlying2 rfl (.int .i64 o) (plC_2 _ _ _) ?_) | ((with_reducible refine is_store 39 _ _ rfl ?_); refine wpList_store_cell rfl 39 _ _ rfl _ 0 rfl ((.slice (some ⟨w.heap.size + 1 + 1 + 1, 0, none⟩) xs.length xs.length)) rfl (plC (.slice none 0 0) 0 0) _ (by with_reducible assumption) (by rw [plC_size]; omega) (by kernel_rfl) rfl ((plC (.slice (some ⟨w.heap.size + 1 + 1 + 1, 0, none⟩) xs.length xs.length) 0 0)) (plC_s0 _ _ _ _) ?_) | ((with_reducible refine is_store 2 _ _ rfl ?_); refine wpList_store_cell rfl 2 _ _ rfl _ 1 rfl (.int .i64 b) rfl ((plC (.slice (some ⟨w.heap.size + 1 + 1 + 1, 0, none⟩) xs.length xs.length) 0 0)) _ (by with_reducible assumption) (by rw [plC_size]; omega) (by kernel_rfl) rfl ((plC (.slice (some ⟨w.heap.size + 1 + 1 + 1, 0, none⟩) xs.length xs.length) b 0)) (plC_s1 _ _ _ _) ?_) | ((with_reducible refine is_store 2 _ _ rfl ?_); refine wpList_store_cell rfl 2 _ _ rfl _ 2 rfl (.int .i64 o) rfl ((plC (.slice (some ⟨w.heap.size + 1 + 1 + 1, 0, none⟩) xs.length xs.length) b 0)) _ (by with_reducible assumption) (by rw [plC_size]; omega) (by kernel_rfl) rfl ((plC (.slice (some ⟨w.heap.size + 1 + 1 + 1, 0, none⟩) xs.length xs.length) b o)) (plC_s2 _ _ _ _) ?_) | ((with_reducible refine is_load 41 _ rfl ?_); refine wpList_load_at rfl 41 _ rfl _ rfl ((plC (.slice (some ⟨w.heap.size + 1 + 1 + 1, 0, none⟩) xs.length xs.length) b o)) _ (by with_reducible assumption) 3 (plC_size _ _ _) _ Try.underlying41 rfl (by kernel_rfl) ?_) | ((with_reducible refine is_store 41 _ _ rfl ?_); refine wpList_store_at rfl 41 _ _ rfl _ rfl ((plC (.slice (some ⟨w.heap.size + 1 + 1 + 1, 0, none⟩) xs.length xs.length) b o)) rfl (plC (.slice none 0 0) 0 0) _ (by with_reducible assumption) 3 (plC_size _ _ _) (plC_size _ _ _) (by kernel_rfl) (pl_one _ (sl_one _ _ _) _ _) ?_))
  exact bodyPost_ret (v := .agg (plC (.slice (some ⟨w.heap.size + 1 + 1 + 1, 0, none⟩) xs.length xs.length) b o)) (results_at (p := 2) (ty := 41) rfl _ _ _ (plC (.slice (some ⟨w.heap.size + 1 + 1 + 1, 0, none⟩) xs.length xs.length) b o) _ rfl R9 _ Try.underlying41 rfl 3 (plC_size _ _ _) (by kernel_rfl)) rfl ⟨_, rfl, G9, by omega, B9.out⟩

theorem eqPlan_same (g1 g2 : Nat) (xs : Slots) (b o : Int) (hW : SlW xs) (hn : xs.length ≤ 1048576) (T1 T2 : TypeId) (w : World) (h1 : At w g1 (slC xs) T1) (h2 : At w g2 (slC xs) T2) :
    Calls Try.prog 24 #[.agg (plC (.slice (some ⟨g1, 0, none⟩) xs.length xs.length) b o), .agg (plC (.slice (some ⟨g2, 0, none⟩) xs.length xs.length) b o)] w fun e w' => e = .returned (.bool true) ∧ Below w.heap.size w w' := by
  have H1 := (h1.alloc (.cells (plC (.slice (some ⟨g1, 0, none⟩) xs.length xs.length) b o) 41)).alloc (.cells (plC (.slice (some ⟨g2, 0, none⟩) xs.length xs.length) b o) 41)
  have H2 := (h2.alloc (.cells (plC (.slice (some ⟨g1, 0, none⟩) xs.length xs.length) b o) 41)).alloc (.cells (plC (.slice (some ⟨g2, 0, none⟩) xs.length xs.length) b o) 41)
  have T0 := Two.mk w (plC (.slice (some ⟨g1, 0, none⟩) xs.length xs.length) b o) 41 (plC (.slice (some ⟨g2, 0, none⟩) xs.length xs.length) b o) 41
  have KS := eqSlotS_same g1 g2 xs hW hn T1 T2 _ H1 H2
  have HT := Lib.hid T0
  clear H1 H2 T0 h1 h2
  have X1 : At _ w.heap.size _ _ := HT.out.1
  have X2 : At _ (w.heap.size + 1) _ _ := HT.out.2.1
  go_enter Try.func24, Try.ntmps24
  go_wp2_with (first | ((with_reducible refine is_load 39 _ rfl ?_); refine wpList_load_cell rfl 39 _ rfl _ 0 rfl ((plC (.slice (some ⟨g1, 0, none⟩) xs.length xs.length) b o)) _ (by with_reducible assumption) _ Try.underlying39 rfl (.slice (some ⟨g1, 0, none⟩) xs.length xs.length) (plC_0 _ _ _) ?_) | ((with_reducible refine is_load 39 _ rfl ?_); refine wpList_load_cell rfl 39 _ rfl _ 0 rfl ((plC (.slice (some ⟨g2, 0, none⟩) xs.length xs.length) b o)) _ (by with_reducible assumption) _ Try.underlying39 rfl (.slice (some ⟨g2, 0, none⟩) xs.length xs.length) (plC_0 _ _ _) ?_))
  refine KS.mono ?_
  rintro e w1 ⟨rfl, hb1⟩
  have T1 := HT.out.step hb1
  have c1 := T1.cell1 (k := 1) (v := .int .i64 b) (plC_1 _ _ _)
  have c2 := T1.cell2 (k := 1) (v := .int .i64 b) (plC_1 _ _ _)
  have c3 := T1.cell1 (k := 2) (v := .int .i64 o) (plC_2 _ _ _)
  have c4 := T1.cell2 (k := 2) (v := .int .i64 o) (plC_2 _ _ _)
  have B1 := Lib.hid T1.2.2
  clear HT T1 hb1 KS
  go_wp2_with fail
  go_ret
  exact ⟨rfl, B1.out⟩

end Go.Proofs.Ytboahhipobcabab
