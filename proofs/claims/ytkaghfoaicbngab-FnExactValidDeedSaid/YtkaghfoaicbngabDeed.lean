/-
  CONTRACTS: deeds: rows, made the program's, valid ones; their shape.
-/
import Derived.Test.YtkaghfoaicbngabIn
import Derived.Test.YtkaghfoaicbngabOneCell
import Derived.Test.YtkaghfoaicbngabLaw
import Derived.Test.YtkaghfoaicbngabNum
namespace Go.Proofs.Ytkaghfoaicbngab
open Go Go.ChangeShapes Go.WideShapes Go.ChangeAt Go.RowKit
set_option maxRecDepth 100000
def de (k : Int) (a : Int) (b : Int) : Array Value := #[.int .i64 k, .int .i64 a, .int .i64 b]

theorem de_size (k : Int) (a : Int) (b : Int) : (de k a b).size = 3 := rfl

theorem de_one (k : Int) (a : Int) (b : Int) : (de k a b).all (·.oneCell') = true := by unfold de; rw [List.all_toArray]; rfl

theorem de_0 (k : Int) (a : Int) (b : Int) : (de k a b)[0]? = some (.int .i64 k) := rfl

theorem de_1 (k : Int) (a : Int) (b : Int) : (de k a b)[1]? = some (.int .i64 a) := rfl

theorem de_2 (k : Int) (a : Int) (b : Int) : (de k a b)[2]? = some (.int .i64 b) := rfl

theorem de_s0 (k : Int) (a : Int) (b : Int) (x : Int) : (de k a b).setIfInBounds 0 (.int .i64 x) = de x a b := rfl

theorem de_s1 (k : Int) (a : Int) (b : Int) (x : Int) : (de k a b).setIfInBounds 1 (.int .i64 x) = de k x b := rfl

theorem de_s2 (k : Int) (a : Int) (b : Int) (x : Int) : (de k a b).setIfInBounds 2 (.int .i64 x) = de k a x := rfl

theorem de_sz (k : Int) : (#[.int .i64 0, .int .i64 0, .int .i64 0] : Array Value).setIfInBounds 0 (.int .i64 k) = (de k 0 0) := rfl


/-- is it a valid deed -/
def okE (k a b : Int) : Bool := inB 1 7 k && (inB 0 999 a && (inB 0 999 b && (decide (k = 1) || decide (b = 0))))

section
variable {k a b : Int}
theorem okE_0 (h : inB 1 7 k = false) : okE k a b = false := by unfold okE; rw [h]; rfl

theorem okE_1 (h : inB 0 999 a = false) : okE k a b = false := by unfold okE; rw [h, Bool.false_and, Bool.and_false]

theorem okE_2 (h : inB 0 999 b = false) : okE k a b = false := by unfold okE; rw [h, Bool.false_and, Bool.and_false, Bool.and_false]

theorem okE_3 (h0 : inB 1 7 k = true) (h1 : inB 0 999 a = true) (h2 : inB 0 999 b = true) : okE k a b = (decide (k = 1) || decide (b = 0)) := by unfold okE; rw [h0, h1, h2]; rfl
end

theorem isInDeed_b (n : Int) (w : World) : Calls Try.prog 76 #[.int .i64 n] w (Rd (.bool (inB 0 999 n)) w) := by
  by_cases h : 0 ≤ n
  · by_cases h2 : n ≤ 999
    · rw [show inB 0 999 n = true from decide_eq_true ⟨h, h2⟩]
      go_enter Try.func76, Try.ntmps76
      go_wp2
      go_ret
      exact Rd.mk0
    · rw [show inB 0 999 n = false from decide_eq_false (by omega)]
      go_enter Try.func76, Try.ntmps76
      go_wp2
      go_ret
      exact Rd.mk0
  · rw [show inB 0 999 n = false from decide_eq_false (by omega)]
    go_enter Try.func76, Try.ntmps76
    go_wp2
    go_ret
    exact Rd.mk0

set_option maxHeartbeats 1000000 in
theorem toDeed_any (k : Int) (a : Int) (b : Int) (w : World) :
    Calls Try.prog 38 #[.agg (de k a b)] w fun e w' => e = .returned (.agg (de k a b)) ∧ Below w.heap.size w w' := by
  have A0 : At (((w.alloc (.cells (de k a b) 71)).alloc (.cells (#[.int .i64 0, .int .i64 0, .int .i64 0]) 73)).alloc (.cells (#[.int .i64 0, .int .i64 0, .int .i64 0]) 73)) w.heap.size (de k a b) 71 := ((At.new w _ _).alloc _).alloc _
  have R0 : At (((w.alloc (.cells (de k a b) 71)).alloc (.cells (#[.int .i64 0, .int .i64 0, .int .i64 0]) 73)).alloc (.cells (#[.int .i64 0, .int .i64 0, .int .i64 0]) 73)) (w.heap.size + 1) (#[.int .i64 0, .int .i64 0, .int .i64 0]) 73 := (At.last1 w _ _ _).alloc _
  have L0 : At (((w.alloc (.cells (de k a b) 71)).alloc (.cells (#[.int .i64 0, .int .i64 0, .int .i64 0]) 73)).alloc (.cells (#[.int .i64 0, .int .i64 0, .int .i64 0]) 73)) (w.heap.size + 1 + 1) (#[.int .i64 0, .int .i64 0, .int .i64 0]) 73 := by
    have := At.new ((w.alloc (.cells (de k a b) 71)).alloc (.cells (#[.int .i64 0, .int .i64 0, .int .i64 0]) 73)) (#[.int .i64 0, .int .i64 0, .int .i64 0]) 73
    rwa [World.size_alloc, World.size_alloc] at this
  have B0 := Lib.hid (bnew (bnew (b0 w (.cells (de k a b) 71)) (.cells (#[.int .i64 0, .int .i64 0, .int .i64 0]) 73)) (.cells (#[.int .i64 0, .int .i64 0, .int .i64 0]) 73))
  have A1 := A0.setRow_other (k := w.heap.size + 1 + 1) (by omega) ((de k 0 0))
  have R1 := R0.setRow_other (k := w.heap.size + 1 + 1) (by omega) ((de k 0 0))
  have L1 := L0.setRow ((de k 0 0))
  have B1 := Lib.hid (bset B0.out (g := w.heap.size + 1 + 1) (by omega) ((de k 0 0)))
  have A2 := A1.setRow_other (k := w.heap.size + 1 + 1) (by omega) ((de k a 0))
  have R2 := R1.setRow_other (k := w.heap.size + 1 + 1) (by omega) ((de k a 0))
  have L2 := L1.setRow ((de k a 0))
  have B2 := Lib.hid (bset B1.out (g := w.heap.size + 1 + 1) (by omega) ((de k a 0)))
  have A3 := A2.setRow_other (k := w.heap.size + 1 + 1) (by omega) ((de k a b))
  have R3 := R2.setRow_other (k := w.heap.size + 1 + 1) (by omega) ((de k a b))
  have L3 := L2.setRow ((de k a b))
  have B3 := Lib.hid (bset B2.out (g := w.heap.size + 1 + 1) (by omega) ((de k a b)))
  have R9 := R3.setRow (de k a b)
  have B9 := Lib.hid (bset B3.out (g := w.heap.size + 1) (by omega) (de k a b))
  go_enter Try.func38, Try.ntmps38
  go_wp2_with (first | ((with_reducible refine is_load 2 _ rfl ?_); refine wpList_load_cell rfl 2 _ rfl _ 0 rfl (de k a b) _ (by with_reducible assumption) _ Try.underlying2 rfl (.int .i64 k) (de_0 _ _ _) ?_) | ((with_reducible refine is_load 2 _ rfl ?_); refine wpList_load_cell rfl 2 _ rfl _ 1 rfl (de k a b) _ (by with_reducible assumption) _ Try.underlying2 rfl (.int .i64 a) (de_1 _ _ _) ?_) | ((with_reducible refine is_load 2 _ rfl ?_); refine wpList_load_cell rfl 2 _ rfl _ 2 rfl (de k a b) _ (by with_reducible assumption) _ Try.underlying2 rfl (.int .i64 b) (de_2 _ _ _) ?_) | ((with_reducible refine is_store 2 _ _ rfl ?_); refine wpList_store_cell rfl 2 _ _ rfl _ 0 rfl (.int .i64 k) rfl (#[.int .i64 0, .int .i64 0, .int .i64 0]) _ (by with_reducible assumption) (by decide) (by kernel_rfl) rfl ((de k 0 0)) (de_sz _) ?_) | ((with_reducible refine is_store 2 _ _ rfl ?_); refine wpList_store_cell rfl 2 _ _ rfl _ 1 rfl (.int .i64 a) rfl ((de k 0 0)) _ (by with_reducible assumption) (by rw [de_size]; omega) (by kernel_rfl) rfl ((de k a 0)) (de_s1 _ _ _ _) ?_) | ((with_reducible refine is_store 2 _ _ rfl ?_); refine wpList_store_cell rfl 2 _ _ rfl _ 2 rfl (.int .i64 b) rfl ((de k a 0)) _ (by with_reducible assumption) (by rw [de_size]; omega) (by kernel_rfl) rfl ((de k a b)) (de_s2 _ _ _ _) ?_) | ((with_reducible refine is_load 73 _ rfl ?_); refine wpList_load_at rfl 73 _ rfl _ rfl (de k a b) _ (by with_reducible assumption) 3 (de_size _ _ _) _ Try.underlying73 rfl (by kernel_rfl) ?_) | ((with_reducible refine is_store 73 _ _ rfl ?_); refine wpList_store_at rfl 73 _ _ rfl _ rfl (de k a b) rfl (#[.int .i64 0, .int .i64 0, .int .i64 0]) _ (by with_reducible assumption) 3 (de_size _ _ _) rfl (by kernel_rfl) (de_one _ _ _) ?_))
  exact bodyPost_ret (v := .agg (de k a b)) (results_at (p := 2) (ty := 73) rfl _ _ _ (de k a b) _ rfl R9 _ Try.underlying73 rfl 3 (de_size _ _ _) (by kernel_rfl)) rfl ⟨rfl, B9.out⟩

set_option maxHeartbeats 1000000 in
theorem ValidDeed_any (k a b : Int) (w : World) :
    Calls Try.prog 39 #[.agg (de k a b)] w fun e w' => e = .returned (.bool (okE k a b)) ∧ Below w.heap.size w w' := by
  have P0 := At.new w (de k a b) 73
  have B0 := Lib.hid (b0 w (.cells (de k a b) 73))
  have c00 := P0.cell (de_0 _ _ _)
  have c01 := P0.cell (de_1 _ _ _)
  have c02 := P0.cell (de_2 _ _ _)
  have KA := isInDeed_b a
  have KB := isInDeed_b b
  by_cases l1 : 1 ≤ k
  · have l1' : decide (1 ≤ k) = true := decide_eq_true l1
    by_cases l7 : k ≤ 7
    · have l7' : decide (k ≤ 7) = true := decide_eq_true l7
      have qk : inB 1 7 k = true := decide_eq_true ⟨l1, l7⟩
      cases qa : inB 0 999 a
      · rw [qa] at KA
        have hv := Lib.hid (okE_1 qa (k := k) (b := b))
        go_enter Try.func39, Try.ntmps39
        go_wp2_with fail
        refine (KA _).mono ?_
        rintro e w1 ⟨rfl, n1, rfl⟩
        have P1 := P0.drewN n1
        have c10 := P1.cell (de_0 _ _ _)
        have c11 := P1.cell (de_1 _ _ _)
        have c12 := P1.cell (de_2 _ _ _)
        go_wp2_with fail
        go_ret
        exact ⟨by rw [hv.out]; rfl, (bdrew B0.out _)⟩
      · rw [qa] at KA
        cases qb : inB 0 999 b
        · rw [qb] at KB
          have hv := Lib.hid (okE_2 qb (k := k) (a := a))
          go_enter Try.func39, Try.ntmps39
          go_wp2_with fail
          refine (KA _).mono ?_
          rintro e w1 ⟨rfl, n1, rfl⟩
          have P1 := P0.drewN n1
          have c10 := P1.cell (de_0 _ _ _)
          have c11 := P1.cell (de_1 _ _ _)
          have c12 := P1.cell (de_2 _ _ _)
          go_wp2_with fail
          refine (KB _).mono ?_
          rintro e w2 ⟨rfl, n2, rfl⟩
          have P2 := P1.drewN n2
          have c20 := P2.cell (de_0 _ _ _)
          have c21 := P2.cell (de_1 _ _ _)
          have c22 := P2.cell (de_2 _ _ _)
          go_wp2_with fail
          go_ret
          exact ⟨by rw [hv.out]; rfl, (bdrew B0.out _)⟩
        · rw [qb] at KB
          by_cases k1 : k = 1
          · subst k1
            have hv := Lib.hid (show okE 1 a b = true from by rw [okE_3 qk qa qb]; rfl)
            go_enter Try.func39, Try.ntmps39
            go_wp2_with fail
            refine (KA _).mono ?_
            rintro e w1 ⟨rfl, n1, rfl⟩
            have P1 := P0.drewN n1
            have c10 := P1.cell (de_0 _ _ _)
            have c11 := P1.cell (de_1 _ _ _)
            have c12 := P1.cell (de_2 _ _ _)
            go_wp2_with fail
            refine (KB _).mono ?_
            rintro e w2 ⟨rfl, n2, rfl⟩
            have P2 := P1.drewN n2
            have c20 := P2.cell (de_0 _ _ _)
            have c21 := P2.cell (de_1 _ _ _)
            have c22 := P2.cell (de_2 _ _ _)
            go_wp2_with fail
            go_ret
            exact ⟨by rw [hv.out]; rfl, (bdrew B0.out _)⟩
          · have e1 : decide (k = 1) = false := decide_eq_false k1
            have e2 : (k == 1) = false := by simp [k1]
            by_cases b0 : b = 0
            · subst b0
              have hv := Lib.hid (show okE k a 0 = true from by rw [okE_3 qk qa qb, e1]; rfl)
              go_enter Try.func39, Try.ntmps39
              go_wp2_with fail
              refine (KA _).mono ?_
              rintro e w1 ⟨rfl, n1, rfl⟩
              have P1 := P0.drewN n1
              have c10 := P1.cell (de_0 _ _ _)
              have c11 := P1.cell (de_1 _ _ _)
              have c12 := P1.cell (de_2 _ _ _)
              go_wp2_with fail
              refine (KB _).mono ?_
              rintro e w2 ⟨rfl, n2, rfl⟩
              have P2 := P1.drewN n2
              have c20 := P2.cell (de_0 _ _ _)
              have c21 := P2.cell (de_1 _ _ _)
              have c22 := P2.cell (de_2 _ _ _)
              go_wp2_with fail
              go_ret
              exact ⟨by rw [hv.out]; rfl, (bdrew B0.out _)⟩
            · have e3 : decide (b = 0) = false := decide_eq_false b0
              have e4 : (b == 0) = false := by simp [b0]
              have hv := Lib.hid (show okE k a b = false from by rw [okE_3 qk qa qb, e1, e3]; rfl)
              go_enter Try.func39, Try.ntmps39
              go_wp2_with fail
              refine (KA _).mono ?_
              rintro e w1 ⟨rfl, n1, rfl⟩
              have P1 := P0.drewN n1
              have c10 := P1.cell (de_0 _ _ _)
              have c11 := P1.cell (de_1 _ _ _)
              have c12 := P1.cell (de_2 _ _ _)
              go_wp2_with fail
              refine (KB _).mono ?_
              rintro e w2 ⟨rfl, n2, rfl⟩
              have P2 := P1.drewN n2
              have c20 := P2.cell (de_0 _ _ _)
              have c21 := P2.cell (de_1 _ _ _)
              have c22 := P2.cell (de_2 _ _ _)
              go_wp2_with fail
              go_ret
              exact ⟨by rw [hv.out]; rfl, (bdrew B0.out _)⟩
    · have l7' : decide (k ≤ 7) = false := decide_eq_false l7
      have hv := Lib.hid (okE_0 (decide_eq_false (by omega)) (k := k) (a := a) (b := b))
      go_enter Try.func39, Try.ntmps39
      go_wp2_with fail
      go_ret
      exact ⟨by rw [hv.out]; rfl, B0.out⟩
  · have l1' : decide (1 ≤ k) = false := decide_eq_false l1
    have hv := Lib.hid (okE_0 (decide_eq_false (by omega)) (k := k) (a := a) (b := b))
    go_enter Try.func39, Try.ntmps39
    go_wp2_with fail
    go_ret
    exact ⟨by rw [hv.out]; rfl, B0.out⟩

set_option maxHeartbeats 1000000 in
theorem l07Deed_any (k a b : Int) (w : World) :
    Calls Try.prog 75 #[.agg (de k a b)] w fun e w' => e = .returned (.bool (okE k a b)) ∧ Below w.heap.size w w' := by
  have P0 := At.new w (de k a b) 73
  have B0 := Lib.hid (b0 w (.cells (de k a b) 73))
  have c00 := P0.cell (de_0 _ _ _)
  have c01 := P0.cell (de_1 _ _ _)
  have c02 := P0.cell (de_2 _ _ _)
  have KK := l00In_b k 1 7
  have KA := l00In_b a 0 999
  have KB := l00In_b b 0 999
  cases qk : inB 1 7 k
  · rw [qk] at KK
    have hv := Lib.hid (okE_0 qk (a := a) (b := b))
    go_enter Try.func75, Try.ntmps75
    go_wp2_with fail
    refine (KK _).mono ?_
    rintro e w1 ⟨rfl, n1, rfl⟩
    have P1 := P0.drewN n1
    have c10 := P1.cell (de_0 _ _ _)
    have c11 := P1.cell (de_1 _ _ _)
    have c12 := P1.cell (de_2 _ _ _)
    go_wp2_with fail
    go_ret
    exact ⟨by rw [hv.out]; rfl, (bdrew B0.out _)⟩
  · rw [qk] at KK
    cases qa : inB 0 999 a
    · rw [qa] at KA
      have hv := Lib.hid (okE_1 qa (k := k) (b := b))
      go_enter Try.func75, Try.ntmps75
      go_wp2_with fail
      refine (KK _).mono ?_
      rintro e w1 ⟨rfl, n1, rfl⟩
      have P1 := P0.drewN n1
      have c10 := P1.cell (de_0 _ _ _)
      have c11 := P1.cell (de_1 _ _ _)
      have c12 := P1.cell (de_2 _ _ _)
      go_wp2_with fail
      refine (KA _).mono ?_
      rintro e w2 ⟨rfl, n2, rfl⟩
      have P2 := P1.drewN n2
      have c20 := P2.cell (de_0 _ _ _)
      have c21 := P2.cell (de_1 _ _ _)
      have c22 := P2.cell (de_2 _ _ _)
      go_wp2_with fail
      go_ret
      exact ⟨by rw [hv.out]; rfl, (bdrew B0.out _)⟩
    · rw [qa] at KA
      cases qb : inB 0 999 b
      · rw [qb] at KB
        have hv := Lib.hid (okE_2 qb (k := k) (a := a))
        go_enter Try.func75, Try.ntmps75
        go_wp2_with fail
        refine (KK _).mono ?_
        rintro e w1 ⟨rfl, n1, rfl⟩
        have P1 := P0.drewN n1
        have c10 := P1.cell (de_0 _ _ _)
        have c11 := P1.cell (de_1 _ _ _)
        have c12 := P1.cell (de_2 _ _ _)
        go_wp2_with fail
        refine (KA _).mono ?_
        rintro e w2 ⟨rfl, n2, rfl⟩
        have P2 := P1.drewN n2
        have c20 := P2.cell (de_0 _ _ _)
        have c21 := P2.cell (de_1 _ _ _)
        have c22 := P2.cell (de_2 _ _ _)
        go_wp2_with fail
        refine (KB _).mono ?_
        rintro e w3 ⟨rfl, n3, rfl⟩
        have P3 := P2.drewN n3
        have c30 := P3.cell (de_0 _ _ _)
        have c31 := P3.cell (de_1 _ _ _)
        have c32 := P3.cell (de_2 _ _ _)
        go_wp2_with fail
        go_ret
        exact ⟨by rw [hv.out]; rfl, (bdrew B0.out _)⟩
      · rw [qb] at KB
        by_cases k1 : k = 1
        · subst k1
          have hv := Lib.hid (show okE 1 a b = true from by rw [okE_3 qk qa qb]; rfl)
          go_enter Try.func75, Try.ntmps75
          go_wp2_with fail
          refine (KK _).mono ?_
          rintro e w1 ⟨rfl, n1, rfl⟩
          have P1 := P0.drewN n1
          have c10 := P1.cell (de_0 _ _ _)
          have c11 := P1.cell (de_1 _ _ _)
          have c12 := P1.cell (de_2 _ _ _)
          go_wp2_with fail
          refine (KA _).mono ?_
          rintro e w2 ⟨rfl, n2, rfl⟩
          have P2 := P1.drewN n2
          have c20 := P2.cell (de_0 _ _ _)
          have c21 := P2.cell (de_1 _ _ _)
          have c22 := P2.cell (de_2 _ _ _)
          go_wp2_with fail
          refine (KB _).mono ?_
          rintro e w3 ⟨rfl, n3, rfl⟩
          have P3 := P2.drewN n3
          have c30 := P3.cell (de_0 _ _ _)
          have c31 := P3.cell (de_1 _ _ _)
          have c32 := P3.cell (de_2 _ _ _)
          go_wp2_with fail
          go_ret
          exact ⟨by rw [hv.out]; rfl, (bdrew B0.out _)⟩
        · have e1 : decide (k = 1) = false := decide_eq_false k1
          have e2 : (k == 1) = false := by simp [k1]
          by_cases b0 : b = 0
          · subst b0
            have hv := Lib.hid (show okE k a 0 = true from by rw [okE_3 qk qa qb, e1]; rfl)
            go_enter Try.func75, Try.ntmps75
            go_wp2_with fail
            refine (KK _).mono ?_
            rintro e w1 ⟨rfl, n1, rfl⟩
            have P1 := P0.drewN n1
            have c10 := P1.cell (de_0 _ _ _)
            have c11 := P1.cell (de_1 _ _ _)
            have c12 := P1.cell (de_2 _ _ _)
            go_wp2_with fail
            refine (KA _).mono ?_
            rintro e w2 ⟨rfl, n2, rfl⟩
            have P2 := P1.drewN n2
            have c20 := P2.cell (de_0 _ _ _)
            have c21 := P2.cell (de_1 _ _ _)
            have c22 := P2.cell (de_2 _ _ _)
            go_wp2_with fail
            refine (KB _).mono ?_
            rintro e w3 ⟨rfl, n3, rfl⟩
            have P3 := P2.drewN n3
            have c30 := P3.cell (de_0 _ _ _)
            have c31 := P3.cell (de_1 _ _ _)
            have c32 := P3.cell (de_2 _ _ _)
            go_wp2_with fail
            go_ret
            exact ⟨by rw [hv.out]; rfl, (bdrew B0.out _)⟩
          · have e3 : decide (b = 0) = false := decide_eq_false b0
            have e4 : (b == 0) = false := by simp [b0]
            have hv := Lib.hid (show okE k a b = false from by rw [okE_3 qk qa qb, e1, e3]; rfl)
            go_enter Try.func75, Try.ntmps75
            go_wp2_with fail
            refine (KK _).mono ?_
            rintro e w1 ⟨rfl, n1, rfl⟩
            have P1 := P0.drewN n1
            have c10 := P1.cell (de_0 _ _ _)
            have c11 := P1.cell (de_1 _ _ _)
            have c12 := P1.cell (de_2 _ _ _)
            go_wp2_with fail
            refine (KA _).mono ?_
            rintro e w2 ⟨rfl, n2, rfl⟩
            have P2 := P1.drewN n2
            have c20 := P2.cell (de_0 _ _ _)
            have c21 := P2.cell (de_1 _ _ _)
            have c22 := P2.cell (de_2 _ _ _)
            go_wp2_with fail
            refine (KB _).mono ?_
            rintro e w3 ⟨rfl, n3, rfl⟩
            have P3 := P2.drewN n3
            have c30 := P3.cell (de_0 _ _ _)
            have c31 := P3.cell (de_1 _ _ _)
            have c32 := P3.cell (de_2 _ _ _)
            go_wp2_with fail
            go_ret
            exact ⟨by rw [hv.out]; rfl, (bdrew B0.out _)⟩

theorem sValidDeed_any (k a b : Int) (w : World) :
    Calls Try.prog 37 #[.agg (de k a b)] w fun e w' => e = .returned (.bool (okE k a b)) ∧ Below w.heap.size w w' := by
  have P0 := At.new w (de k a b) 73
  go_enter Try.func37, Try.ntmps37
  go_wp2_with (((with_reducible refine is_load 73 _ rfl ?_); refine wpList_load_at rfl 73 _ rfl _ rfl ((de k a b)) _ (by with_reducible assumption) 3 (de_size _ _ _) _ Try.underlying73 rfl (by kernel_rfl) ?_))
  refine (l07Deed_any k a b _).mono ?_
  rintro e w1 ⟨rfl, hb1⟩
  go_wp2_with fail
  go_ret
  exact ⟨rfl, bthen (b0 _ _) hb1⟩

theorem cell_i64d {W : World} {r : Reach} {base : Nat} {v : Value} (h : Cell.okWide Try.prog W r base 2 v) : ∃ x, v = .int .i64 x ∧ (-9223372036854775808 ≤ x ∧ x ≤ 9223372036854775807) := by
  have h1 : Value.okWide Try.prog W r base 2 v := by simpa [Value.okWide, Try.underlying2] using h
  obtain ⟨x, rfl, h2⟩ := shape_i64 h1
  exact ⟨x, rfl, h2⟩

theorem shape_deed {W : World} {r : Reach} {base : Nat} {v : Value} (h : Value.okWide Try.prog W r base 71 v) : ∃ k a b : Int, v = .agg (de k a b) ∧ (-9223372036854775808 ≤ k ∧ k ≤ 9223372036854775807) ∧ (-9223372036854775808 ≤ a ∧ a ≤ 9223372036854775807) ∧ (-9223372036854775808 ≤ b ∧ b ≤ 9223372036854775807) := by
  have h' : ∃ cs, v = .agg cs ∧ cs.size = Try.prog.cellsOf 71 ∧ Row.okWide Try.prog W r base 71 cs := by
    unfold Value.okWide at h
    rw [Try.underlying71] at h
    simpa using h
  obtain ⟨cs, rfl, hsz, ts, hts, -, hcell⟩ := h'
  have hc : Try.prog.cellsOf 71 = 3 := by kernel_rfl
  have ht : Try.prog.cellTypes Try.prog.depth 71 = some [2, 2, 2] := by kernel_rfl
  rw [ht] at hts
  obtain rfl := Option.some.inj hts
  rw [hc] at hsz
  obtain ⟨c0, c1, c2, rfl⟩ : ∃ c0 c1 c2, cs = #[c0, c1, c2] := by
    obtain ⟨l⟩ := cs
    match l, hsz with
    | [c0, c1, c2], _ => exact ⟨c0, c1, c2, rfl⟩
  obtain ⟨u0, hu0, k0⟩ := hcell 0 c0 rfl
  obtain ⟨u1, hu1, k1⟩ := hcell 1 c1 rfl
  obtain ⟨u2, hu2, k2⟩ := hcell 2 c2 rfl
  obtain rfl := Option.some.inj hu0
  obtain rfl := Option.some.inj hu1
  obtain rfl := Option.some.inj hu2
  obtain ⟨k, rfl, hk⟩ := cell_i64d k0
  obtain ⟨a, rfl, ha⟩ := cell_i64d k1
  obtain ⟨b, rfl, hb⟩ := cell_i64d k2
  exact ⟨k, a, b, rfl, hk, ha, hb⟩

end Go.Proofs.Ytkaghfoaicbngab
