/-
  CONTRACTS: plans, a law's made the program's, and held against each other; sizes.
-/
import Derived.Test.YtlpbehokcogcpaaToSlots
namespace Go.Proofs.Ytlpbehokcogcpaa
open Go Go.ChangeShapes Go.WideShapes Go.ChangeAt Go.RowKit
set_option maxRecDepth 100000

/-- a plan's cells -/
def plC (s : Value) (b o : Int) : Array Value := #[s, .int .i64 b, .int .i64 o]

theorem plC_size (s : Value) (b o : Int) : (plC s b o).size = 3 := rfl

theorem plC_0 (s : Value) (b o : Int) : (plC s b o)[0]? = some s := rfl

theorem plC_1 (s : Value) (b o : Int) : (plC s b o)[1]? = some (.int .i64 b) := rfl

theorem plC_2 (s : Value) (b o : Int) : (plC s b o)[2]? = some (.int .i64 o) := rfl

theorem plC_s0 (s : Value) (b o : Int) (s' : Value) : (plC s b o).setIfInBounds 0 s' = plC s' b o := rfl

theorem plC_s1 (s : Value) (b o b' : Int) : (plC s b o).setIfInBounds 1 (.int .i64 b') = plC s b' o := rfl

theorem plC_s2 (s : Value) (b o o' : Int) : (plC s b o).setIfInBounds 2 (.int .i64 o') = plC s b o' := rfl

theorem plC_z : (#[.slice none 0 0, .int .i64 0, .int .i64 0] : Array Value) = plC (.slice none 0 0) 0 0 := rfl

theorem pl_one (s : Value) (hs : s.oneCell' = true) (b o : Int) : (plC s b o).all (·.oneCell') = true := by
  unfold plC
  rw [List.all_toArray, List.all_cons, List.all_cons, List.all_cons, List.all_nil, hs]; rfl

theorem sl_one (a : Option Addr) (n c : Nat) : (Value.slice a n c).oneCell' = true := rfl

theorem eqPlan_same (g1 g2 : Nat) (xs : Slots) (b o : Int) (hW : SlW xs) (hn : xs.length ≤ 1048576) (T1 T2 : TypeId) (w : World) (h1 : At w g1 (slC xs) T1) (h2 : At w g2 (slC xs) T2) :
    Calls Try.prog 10 #[.agg (plC (.slice (some ⟨g1, 0, none⟩) xs.length xs.length) b o), .agg (plC (.slice (some ⟨g2, 0, none⟩) xs.length xs.length) b o)] w fun e w' => e = .returned (.bool true) ∧ Below w.heap.size w w' := by
  have H1 := (h1.alloc (.cells (plC (.slice (some ⟨g1, 0, none⟩) xs.length xs.length) b o) 28)).alloc (.cells (plC (.slice (some ⟨g2, 0, none⟩) xs.length xs.length) b o) 28)
  have H2 := (h2.alloc (.cells (plC (.slice (some ⟨g1, 0, none⟩) xs.length xs.length) b o) 28)).alloc (.cells (plC (.slice (some ⟨g2, 0, none⟩) xs.length xs.length) b o) 28)
  have T0 := Two.mk w (plC (.slice (some ⟨g1, 0, none⟩) xs.length xs.length) b o) 28 (plC (.slice (some ⟨g2, 0, none⟩) xs.length xs.length) b o) 28
  have KS := eqSlotS_same g1 g2 xs hW hn T1 T2 _ H1 H2
  have HT := Lib.hid T0
  clear H1 H2 T0 h1 h2
  have X1 : At _ w.heap.size _ _ := HT.out.1
  have X2 : At _ (w.heap.size + 1) _ _ := HT.out.2.1
  go_enter Try.func10, Try.ntmps10
  go_wp2_with (first | ((with_reducible refine is_load 26 _ rfl ?_); refine wpList_load_cell rfl 26 _ rfl _ 0 rfl ((plC (.slice (some ⟨g1, 0, none⟩) xs.length xs.length) b o)) _ (by with_reducible assumption) _ Try.underlying26 rfl (.slice (some ⟨g1, 0, none⟩) xs.length xs.length) (plC_0 _ _ _) ?_) | ((with_reducible refine is_load 26 _ rfl ?_); refine wpList_load_cell rfl 26 _ rfl _ 0 rfl ((plC (.slice (some ⟨g2, 0, none⟩) xs.length xs.length) b o)) _ (by with_reducible assumption) _ Try.underlying26 rfl (.slice (some ⟨g2, 0, none⟩) xs.length xs.length) (plC_0 _ _ _) ?_))
  refine KS.mono ?_
  rintro e w1 ⟨rfl, hb1⟩
  have T1 := HT.out.step hb1
  have c1 := T1.cell1 (k := 1) (v := .int .i64 b) (plC_1 _ _ _)
  have c2 := T1.cell2 (k := 1) (v := .int .i64 b) (plC_1 _ _ _)
  have c3 := T1.cell1 (k := 2) (v := .int .i64 o) (plC_2 _ _ _)
  have c4 := T1.cell2 (k := 2) (v := .int .i64 o) (plC_2 _ _ _)
  have B1 := Lib.hid T1.2.2
  clear HT T1 hb1 KS
  go_wp2_with fail
  go_ret
  exact ⟨rfl, B1.out⟩

end Go.Proofs.Ytlpbehokcogcpaa
