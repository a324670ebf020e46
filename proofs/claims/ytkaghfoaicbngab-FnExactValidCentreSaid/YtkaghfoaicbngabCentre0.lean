/-
  CONTRACTS: centres: rows, sizes, made the program's, held against each other.
-/
import Derived.Test.YtkaghfoaicbngabIn
import Derived.Test.YtkaghfoaicbngabInts
import Derived.Test.YtkaghfoaicbngabOneCell
import Derived.Test.YtkaghfoaicbngabEq
import Derived.Test.YtkaghfoaicbngabNum
import Derived.Test.YtkaghfoaicbngabLaw
namespace Go.Proofs.Ytkaghfoaicbngab
open Go Go.ChangeShapes Go.WideShapes Go.ChangeAt Go.RowKit
set_option maxRecDepth 100000
def ce (p : Int) (s : Value) : Array Value := #[.int .i64 p, s]

theorem ce_size (p : Int) (s : Value) : (ce p s).size = 2 := rfl

theorem ce_one (p : Int) (s : Value) (h1 : s.oneCell' = true) : (ce p s).all (·.oneCell') = true := by unfold ce; rw [List.all_toArray]; simp only [List.all_cons, List.all_nil, h1, Bool.and_true]; try rfl

theorem ce_0 (p : Int) (s : Value) : (ce p s)[0]? = some (.int .i64 p) := rfl

theorem ce_1 (p : Int) (s : Value) : (ce p s)[1]? = some (s) := rfl

theorem ce_s0 (p : Int) (s : Value) (x : Int) : (ce p s).setIfInBounds 0 (.int .i64 x) = ce x s := rfl

theorem ce_s1 (p : Int) (s : Value) (x : Value) : (ce p s).setIfInBounds 1 (x) = ce p x := rfl

theorem ce_sz (p : Int) : (#[.int .i64 0, .slice none 0 0] : Array Value).setIfInBounds 0 (.int .i64 p) = (ce p (.slice none 0 0)) := rfl


theorem isIndex_b (k n : Int) (w : World) : Calls Try.prog 74 #[.int .i64 k, .int .i64 n] w (Rd (.bool (decide (0 ≤ k ∧ k < n))) w) := by
  by_cases h : 0 ≤ k
  · by_cases h2 : k < n
    · rw [decide_eq_true ⟨h, h2⟩]
      go_enter Try.func74, Try.ntmps74
      go_wp2
      go_ret
      exact Rd.mk0
    · rw [decide_eq_false (by omega)]
      go_enter Try.func74, Try.ntmps74
      go_wp2
      go_ret
      exact Rd.mk0
  · rw [decide_eq_false (by omega)]
    go_enter Try.func74, Try.ntmps74
    go_wp2
    go_ret
    exact Rd.mk0

/-- so many of them hold -/
def allJ (f : Nat → Bool) : Nat → Bool
  | 0 => true
  | k + 1 => allJ f k && f k

theorem allJ_le {f : Nat → Bool} {n k : Nat} (h : k ≤ n) (hf : allJ f k = false) : allJ f n = false := by
  induction h with
  | refl => exact hf
  | step _ ih => unfold allJ; rw [ih]; rfl

/-- are all of them plans -/
def okF (p : Int) (xs : List Int) (k : Nat) : Bool := inB 0 (p - 1) (ith xs k)

/-- is it a valid centre -/
def okCe (p : Int) (xs : List Int) : Bool := inB 1 9 p && (inB 1 6 (xs.length : Int) && allJ (okF p xs) xs.length)

section
variable {p : Int} {xs : List Int}
theorem okCe_0 (h : inB 1 9 p = false) : okCe p xs = false := by unfold okCe; rw [h]; rfl

theorem okCe_1 (h : inB 1 6 (xs.length : Int) = false) : okCe p xs = false := by unfold okCe; rw [h, Bool.false_and, Bool.and_false]

theorem okCe_2 (h0 : inB 1 9 p = true) (h1 : inB 1 6 (xs.length : Int) = true) : okCe p xs = allJ (okF p xs) xs.length := by unfold okCe; rw [h0, h1]; rfl
end

theorem szCentre_any (p : Int) (a : Option Addr) (n cap : Nat) (hn : n ≤ maxLen) (left : Int) (hl : 0 ≤ left ∧ left ≤ 1048576) (w : World) :
    Calls Try.prog 32 #[.agg (ce p (.slice a n cap)), .int .i64 left] w fun e w' => e = .returned (.int .i64 (if left < (n : Int) then -1 else left - (n : Int))) ∧ Below w.heap.size w w' := by
  have A0 := At.new w (ce p (.slice a n cap)) 63
  have B0 := Lib.hid (b0 w (.cells (ce p (.slice a n cap)) 63))
  have K := szInt64S_any a n cap hn left hl
  have c1 := A0.cell (ce_1 _ _)
  by_cases hb : left < (n : Int)
  · rw [if_pos hb] at K ⊢
    clear hb
    go_enter Try.func32, Try.ntmps32
    go_wp2_with fail
    refine (K _).mono ?_
    rintro e w1 ⟨rfl, hb1⟩
    go_wp2_with fail
    go_ret
    exact ⟨rfl, bthen B0.out hb1⟩
  · rw [if_neg hb] at K ⊢
    have h1 : ¬ left - (n : Int) < 0 := by omega
    clear hb
    go_enter Try.func32, Try.ntmps32
    go_wp2_with fail
    refine (K _).mono ?_
    rintro e w1 ⟨rfl, hb1⟩
    go_wp2_with fail
    go_ret
    exact ⟨rfl, bthen B0.out hb1⟩

set_option maxHeartbeats 1000000 in
theorem toCentre_any (p : Int) (a : Option Addr) (cap : Nat) (xs : List Int) (w : World) (hF : ISl w (.slice a xs.length cap) xs) (hn : xs.length ≤ 1048576) :
    Calls Try.prog 34 #[.agg (ce p (.slice a xs.length cap))] w fun e w' => ∃ G : Nat, e = .returned (.agg (ce p (.slice (some ⟨G, 0, none⟩) xs.length xs.length))) ∧ At w' G (il xs) 2 ∧ Below w.heap.size w w' := by
  have A0 : At (((w.alloc (.cells (ce p (.slice a xs.length cap)) 63)).alloc (.cells (#[.int .i64 0, .slice none 0 0]) 66)).alloc (.cells (#[.int .i64 0, .slice none 0 0]) 66)) w.heap.size (ce p (.slice a xs.length cap)) 63 := ((At.new w _ _).alloc _).alloc _
  have R0 : At (((w.alloc (.cells (ce p (.slice a xs.length cap)) 63)).alloc (.cells (#[.int .i64 0, .slice none 0 0]) 66)).alloc (.cells (#[.int .i64 0, .slice none 0 0]) 66)) (w.heap.size + 1) (#[.int .i64 0, .slice none 0 0]) 66 := (At.last1 w _ _ _).alloc _
  have L0 : At (((w.alloc (.cells (ce p (.slice a xs.length cap)) 63)).alloc (.cells (#[.int .i64 0, .slice none 0 0]) 66)).alloc (.cells (#[.int .i64 0, .slice none 0 0]) 66)) (w.heap.size + 1 + 1) (#[.int .i64 0, .slice none 0 0]) 66 := by
    have := At.new ((w.alloc (.cells (ce p (.slice a xs.length cap)) 63)).alloc (.cells (#[.int .i64 0, .slice none 0 0]) 66)) (#[.int .i64 0, .slice none 0 0]) 66
    rwa [World.size_alloc, World.size_alloc] at this
  have B0 := Lib.hid (bnew (bnew (b0 w (.cells (ce p (.slice a xs.length cap)) 63)) (.cells (#[.int .i64 0, .slice none 0 0]) 66)) (.cells (#[.int .i64 0, .slice none 0 0]) 66))
  have F0 := hF.step (Nat.le_refl _) B0.out
  have A1 := A0.setRow_other (k := w.heap.size + 1 + 1) (by omega) (ce p (.slice none 0 0))
  have R1 := R0.setRow_other (k := w.heap.size + 1 + 1) (by omega) (ce p (.slice none 0 0))
  have L1 := L0.setRow (ce p (.slice none 0 0))
  have B1 := Lib.hid (bset B0.out (g := w.heap.size + 1 + 1) (by omega) (ce p (.slice none 0 0)))
  have F1 := hF.step (Nat.le_refl _) B1.out
  clear hF F0
  go_enter Try.func34, Try.ntmps34
  go_wp2_with (first | ((with_reducible refine is_load 2 _ rfl ?_); refine wpList_load_cell rfl 2 _ rfl _ 0 rfl (ce p (.slice a xs.length cap)) _ (by with_reducible assumption) _ Try.underlying2 rfl (.int .i64 p) (ce_0 _ _) ?_) | ((with_reducible refine is_store 2 _ _ rfl ?_); refine wpList_store_cell rfl 2 _ _ rfl _ 0 rfl (.int .i64 p) rfl (#[.int .i64 0, .slice none 0 0]) _ (by with_reducible assumption) (by decide) (by kernel_rfl) rfl (ce p (.slice none 0 0)) (ce_sz _) ?_) | ((with_reducible refine is_load 23 _ rfl ?_); refine wpList_load_cell rfl 23 _ rfl _ 1 rfl (ce p (.slice a xs.length cap)) _ (by with_reducible assumption) _ Try.underlying23 rfl ((.slice a xs.length cap)) (ce_1 _ _) ?_))
  refine (toInt64S_any _ xs _ F1 hn).mono ?_
  rintro e w2 ⟨rfl, G2, hb2⟩
  have A2 := A1.step hb2
  have R2 := R1.step hb2
  have L2 := L1.step hb2
  have B2 := Lib.hid (bthen B1.out hb2)
  clear A0 R0 L0 B0 A1 R1 B1 F1 hb2
  have hs1 : w.heap.size + 1 + 1 < (World.setRow (((w.alloc (.cells (ce p (.slice a xs.length cap)) 63)).alloc (.cells (#[.int .i64 0, .slice none 0 0]) 66)).alloc (.cells (#[.int .i64 0, .slice none 0 0]) 66)) (w.heap.size + 1 + 1) (ce p (.slice none 0 0))).heap.size := L1.lt
  clear L1
  obtain ⟨G, hG⟩ : ∃ G, G = (World.setRow (((w.alloc (.cells (ce p (.slice a xs.length cap)) 63)).alloc (.cells (#[.int .i64 0, .slice none 0 0]) 66)).alloc (.cells (#[.int .i64 0, .slice none 0 0]) 66)) (w.heap.size + 1 + 1) (ce p (.slice none 0 0))).heap.size := ⟨_, rfl⟩
  rw [← hG] at hs1 G2
  rw [← hG]
  clear hG
  have R3 := R2.setRow_other (k := w.heap.size + 1 + 1) (by omega) (ce p (.slice (some ⟨G, 0, none⟩) xs.length xs.length))
  have L3 := L2.setRow (ce p (.slice (some ⟨G, 0, none⟩) xs.length xs.length))
  have G3 := G2.setRow_other (k := w.heap.size + 1 + 1) (by omega) (ce p (.slice (some ⟨G, 0, none⟩) xs.length xs.length))
  have B3 := Lib.hid (bset B2.out (g := w.heap.size + 1 + 1) (by omega) (ce p (.slice (some ⟨G, 0, none⟩) xs.length xs.length)))
  have L4 := L3.setRow_other (k := w.heap.size + 1) (by omega) (ce p (.slice (some ⟨G, 0, none⟩) xs.length xs.length))
  have R4 := R3.setRow (ce p (.slice (some ⟨G, 0, none⟩) xs.length xs.length))
  have G4 := G3.setRow_other (k := w.heap.size + 1) (by omega) (ce p (.slice (some ⟨G, 0, none⟩) xs.length xs.length))
  have B4 := Lib.hid (bset B3.out (g := w.heap.size + 1) (by omega) (ce p (.slice (some ⟨G, 0, none⟩) xs.length xs.length)))
  clear hs1
  go_wp2_with (first | ((with_reducible refine is_store 23 _ _ rfl ?_); refine wpList_store_cell rfl 23 _ _ rfl _ 1 rfl ((.slice (some ⟨G, 0, none⟩) xs.length xs.length)) rfl (ce p (.slice none 0 0)) _ (by with_reducible assumption) (by rw [ce_size]; omega) (by kernel_rfl) rfl (ce p (.slice (some ⟨G, 0, none⟩) xs.length xs.length)) (ce_s1 _ _ _) ?_) | ((with_reducible refine is_load 66 _ rfl ?_); refine wpList_load_at rfl 66 _ rfl _ rfl (ce p (.slice (some ⟨G, 0, none⟩) xs.length xs.length)) _ (by with_reducible assumption) 2 (ce_size _ _) _ Try.underlying66 rfl (by kernel_rfl) ?_) | ((with_reducible refine is_store 66 _ _ rfl ?_); refine wpList_store_at rfl 66 _ _ rfl _ rfl (ce p (.slice (some ⟨G, 0, none⟩) xs.length xs.length)) rfl (#[.int .i64 0, .slice none 0 0]) _ (by with_reducible assumption) 2 (ce_size _ _) rfl (by kernel_rfl) (ce_one _ _ rfl) ?_))
  exact bodyPost_ret (v := .agg (ce p (.slice (some ⟨G, 0, none⟩) xs.length xs.length))) (results_at (p := 2) (ty := 66) rfl _ _ _ (ce p (.slice (some ⟨G, 0, none⟩) xs.length xs.length)) _ rfl R4 _ Try.underlying66 rfl 2 (ce_size _ _) (by kernel_rfl)) rfl ⟨G, rfl, G4, B4.out⟩

theorem eqCentre_same (p : Int) (g1 g2 : Nat) (xs : List Int) (hn : xs.length ≤ 1048576) (T1 T2 : TypeId) (w : World) (h1 : At w g1 (il xs) T1) (h2 : At w g2 (il xs) T2) :
    Calls Try.prog 36 #[.agg (ce p (.slice (some ⟨g1, 0, none⟩) xs.length xs.length)), .agg (ce p (.slice (some ⟨g2, 0, none⟩) xs.length xs.length))] w fun e w' => e = .returned (.bool true) ∧ Below w.heap.size w w' := by
  have T0 := Two.mk w (ce p (.slice (some ⟨g1, 0, none⟩) xs.length xs.length)) 66 (ce p (.slice (some ⟨g2, 0, none⟩) xs.length xs.length)) 66
  have c0 := T0.cell1 (ce_0 _ _)
  have c1 := T0.cell1 (ce_1 _ _)
  have d0 := T0.cell2 (ce_0 _ _)
  have d1 := T0.cell2 (ce_1 _ _)
  have H1 := (h1.alloc (.cells (ce p (.slice (some ⟨g1, 0, none⟩) xs.length xs.length)) 66)).alloc (.cells (ce p (.slice (some ⟨g2, 0, none⟩) xs.length xs.length)) 66)
  have H2 := (h2.alloc (.cells (ce p (.slice (some ⟨g1, 0, none⟩) xs.length xs.length)) 66)).alloc (.cells (ce p (.slice (some ⟨g2, 0, none⟩) xs.length xs.length)) 66)
  have K := eqInt64S_same g1 g2 xs hn T1 T2 _ H1 H2
  have B0 := Lib.hid (bnew (b0 w (.cells (ce p (.slice (some ⟨g1, 0, none⟩) xs.length xs.length)) 66)) (.cells (ce p (.slice (some ⟨g2, 0, none⟩) xs.length xs.length)) 66))
  clear T0 H1 H2 h1 h2 hn
  go_enter Try.func36, Try.ntmps36
  go_wp2_with fail
  refine K.mono ?_
  rintro e w1 ⟨rfl, hb1⟩
  go_wp2_with fail
  go_ret
  exact ⟨rfl, bthen B0.out hb1⟩

end Go.Proofs.Ytkaghfoaicbngab
