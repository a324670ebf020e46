/-
  SEVERAL TEXTS IN ONE.
-/
import Derived.Test.YtldchcjnepnjnaaG5

/-
  CONTRACTS: plans, a law's made the program's, and held against each other; sizes.
-/
namespace Go.Proofs.Ytldchcjnepnjnaa
open Go Go.ChangeShapes Go.WideShapes Go.ChangeAt Go.RowKit
set_option maxRecDepth 100000

/-- a plan's cells -/
def plC (s : Value) (b o : Int) : Array Value := #[s, .int .i64 b, .int .i64 o]

theorem plC_size (s : Value) (b o : Int) : (plC s b o).size = 3 := rfl

theorem plC_0 (s : Value) (b o : Int) : (plC s b o)[0]? = some s := rfl

theorem plC_1 (s : Value) (b o : Int) : (plC s b o)[1]? = some (.int .i64 b) := rfl

theorem plC_2 (s : Value) (b o : Int) : (plC s b o)[2]? = some (.int .i64 o) := rfl

theorem plC_s0 (s : Value) (b o : Int) (s' : Value) : (plC s b o).setIfInBounds 0 s' = plC s' b o := rfl

theorem plC_s1 (s : Value) (b o b' : Int) : (plC s b o).setIfInBounds 1 (.int .i64 b') = plC s b' o := rfl

theorem plC_s2 (s : Value) (b o o' : Int) : (plC s b o).setIfInBounds 2 (.int .i64 o') = plC s b o' := rfl

theorem plC_z : (#[.slice none 0 0, .int .i64 0, .int .i64 0] : Array Value) = plC (.slice none 0 0) 0 0 := rfl

theorem pl_one (s : Value) (hs : s.oneCell' = true) (b o : Int) : (plC s b o).all (·.oneCell') = true := by
  unfold plC
  rw [List.all_toArray, List.all_cons, List.all_cons, List.all_cons, List.all_nil, hs]; rfl

theorem sl_one (a : Option Addr) (n c : Nat) : (Value.slice a n c).oneCell' = true := rfl

end Go.Proofs.Ytldchcjnepnjnaa

/-
  CONTRACTS: lights: a law's made the program's; valid lights, as the program asks it.
-/
namespace Go.Proofs.Ytldchcjnepnjnaa
open Go Go.ChangeShapes Go.WideShapes Go.ChangeAt Go.RowKit
set_option maxRecDepth 100000

/-- a light's cells -/
def ltC (s n : Int) (r : Bool) : Array Value := #[.int .i64 s, .int .i64 n, .bool r]

theorem ltC_size (s n : Int) (r : Bool) : (ltC s n r).size = 3 := rfl

theorem ltC_0 (s n : Int) (r : Bool) : (ltC s n r)[0]? = some (.int .i64 s) := rfl

theorem ltC_1 (s n : Int) (r : Bool) : (ltC s n r)[1]? = some (.int .i64 n) := rfl

theorem ltC_2 (s n : Int) (r : Bool) : (ltC s n r)[2]? = some (.bool r) := rfl

theorem ltC_s0 (s n : Int) (r : Bool) (s' : Int) : (ltC s n r).setIfInBounds 0 (.int .i64 s') = ltC s' n r := rfl

theorem ltC_s1 (s n : Int) (r : Bool) (n' : Int) : (ltC s n r).setIfInBounds 1 (.int .i64 n') = ltC s n' r := rfl

theorem ltC_s2 (s n : Int) (r r' : Bool) : (ltC s n r).setIfInBounds 2 (.bool r') = ltC s n r' := rfl

theorem ltC_sz (s : Int) : (#[.int .i64 0, .int .i64 0, .bool false] : Array Value).setIfInBounds 0 (.int .i64 s) = ltC s 0 false := rfl

theorem ltC_z : (#[.int .i64 0, .int .i64 0, .bool false] : Array Value) = ltC 0 0 false := rfl

theorem lt_one (s n : Int) (r : Bool) : (ltC s n r).all (·.oneCell') = true := by unfold ltC; rw [List.all_toArray]; rfl

/-- is it a light of a valid plan -/
def liB (m : Nat) (b s n : Int) (r : Bool) : Bool := (decide (0 ≤ s ∧ s < (m : Int)) && decide (0 ≤ n ∧ n ≤ 1000000)) && !(r && decide (b = 0))

theorem liB_1 {m : Nat} {b s n : Int} {r : Bool} (h : ¬ (0 ≤ s ∧ s < (m : Int))) : liB m b s n r = false := by unfold liB; rw [decide_eq_false h]; rfl

theorem liB_2 {m : Nat} {b s n : Int} {r : Bool} (h : ¬ (0 ≤ n ∧ n ≤ 1000000)) : liB m b s n r = false := by unfold liB; rw [decide_eq_false h, Bool.and_false]; rfl

theorem liB_3 {m : Nat} {b s n : Int} {r : Bool} (h1 : 0 ≤ s ∧ s < (m : Int)) (h2 : 0 ≤ n ∧ n ≤ 1000000) : liB m b s n r = !(r && decide (b = 0)) := by unfold liB; rw [decide_eq_true h1, decide_eq_true h2]; rfl

theorem isLightOf_any (a : Option Addr) (m cap : Nat) (b o s n : Int) (r : Bool) (_hm : m ≤ 9223372036854775807) (w : World) :
    Calls Try.prog 30 #[.agg (plC (.slice a m cap) b o), .agg (ltC s n r)] w fun e w' => e = .returned (.bool (liB m b s n r)) ∧ Below w.heap.size w w' := by
  have P0 : At ((w.alloc (.cells (plC (.slice a m cap) b o) 26)).alloc (.cells (ltC s n r) 33)) w.heap.size (plC (.slice a m cap) b o) 26 := (At.new w _ _).alloc _
  have L0 : At ((w.alloc (.cells (plC (.slice a m cap) b o) 26)).alloc (.cells (ltC s n r) 33)) (w.heap.size + 1) (ltC s n r) 33 := At.last1 w _ _ _
  have B0 := Lib.hid (bnew (b0 w (.cells (plC (.slice a m cap) b o) 26)) (.cells (ltC s n r) 33))
  have c0 := P0.cell (plC_0 _ _ _)
  have c1 := P0.cell (plC_1 _ _ _)
  have d0 := L0.cell (ltC_0 _ _ _)
  have d1 := L0.cell (ltC_1 _ _ _)
  have d2 := L0.cell (ltC_2 _ _ _)
  clear P0 L0
  by_cases h1 : 0 ≤ s
  · by_cases h2 : s < (m : Int)
    · by_cases h3 : 0 ≤ n
      · by_cases h4 : n ≤ 1000000
        · cases r
          · have hv := Lib.hid (liB_3 (b := b) (r := false) ⟨h1, h2⟩ ⟨h3, h4⟩)
            go_enter Try.func30, Try.ntmps30
            go_wp2
            go_ret
            exact ⟨by rw [hv.out]; rfl, B0.out⟩
          · by_cases h5 : b = 0
            · subst h5
              have hv := Lib.hid (liB_3 (b := 0) (r := true) ⟨h1, h2⟩ ⟨h3, h4⟩)
              go_enter Try.func30, Try.ntmps30
              go_wp2
              go_ret
              exact ⟨by rw [hv.out]; rfl, B0.out⟩
            · have hb : (b == 0) = false := by simpa using h5
              have hv5 : liB m b s n true = true := by rw [liB_3 ⟨h1, h2⟩ ⟨h3, h4⟩, decide_eq_false h5]; rfl
              have hv := Lib.hid (hv5)
              go_enter Try.func30, Try.ntmps30
              go_wp2
              go_ret
              exact ⟨by rw [hv.out]; rfl, B0.out⟩
        · have hv := Lib.hid (liB_2 (m := m) (b := b) (s := s) (r := r) (fun h => h4 h.2))
          go_enter Try.func30, Try.ntmps30
          go_wp2
          go_ret
          exact ⟨by rw [hv.out]; rfl, B0.out⟩
      · have hv := Lib.hid (liB_2 (m := m) (b := b) (s := s) (r := r) (fun h => h3 h.1))
        go_enter Try.func30, Try.ntmps30
        go_wp2
        go_ret
        exact ⟨by rw [hv.out]; rfl, B0.out⟩
    · have hv := Lib.hid (liB_1 (m := m) (b := b) (n := n) (r := r) (fun h => h2 h.2))
      go_enter Try.func30, Try.ntmps30
      go_wp2
      go_ret
      exact ⟨by rw [hv.out]; rfl, B0.out⟩
  · have hv := Lib.hid (liB_1 (m := m) (b := b) (n := n) (r := r) (fun h => h1 h.1))
    go_enter Try.func30, Try.ntmps30
    go_wp2
    go_ret
    exact ⟨by rw [hv.out]; rfl, B0.out⟩

end Go.Proofs.Ytldchcjnepnjnaa
