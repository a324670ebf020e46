/-
  CONTRACTS: acts: rows, made the program's, valid ones; their shape.
-/
import Derived.Test.YtboahhipobcabaaStrC
import Derived.Test.YtboahhipobcabaaIn
import Derived.Test.YtboahhipobcabaaOneCell
import Derived.Test.YtboahhipobcabaaLaw
import Derived.Test.YtboahhipobcabaaNum
import Derived.Test.YtboahhipobcabaaHeldCall
import Derived.Test.YtboahhipobcabaaHeldOps
namespace Go.Proofs.Ytboahhipobcabaa
open Go Go.ChangeShapes Go.WideShapes Go.ChangeAt Go.RowKit
set_option maxRecDepth 100000
def ac (k : Int) (a : Int) (b : Int) (c : Int) (f : Nat) : Array Value := #[.int .i64 k, .int .i64 a, .int .i64 b, .int .i64 c, .float .f32 f]

theorem ac_size (k : Int) (a : Int) (b : Int) (c : Int) (f : Nat) : (ac k a b c f).size = 5 := rfl

theorem ac_one (k : Int) (a : Int) (b : Int) (c : Int) (f : Nat) : (ac k a b c f).all (·.oneCell') = true := by unfold ac; rw [List.all_toArray]; rfl

theorem ac_0 (k : Int) (a : Int) (b : Int) (c : Int) (f : Nat) : (ac k a b c f)[0]? = some (.int .i64 k) := rfl

theorem ac_1 (k : Int) (a : Int) (b : Int) (c : Int) (f : Nat) : (ac k a b c f)[1]? = some (.int .i64 a) := rfl

theorem ac_2 (k : Int) (a : Int) (b : Int) (c : Int) (f : Nat) : (ac k a b c f)[2]? = some (.int .i64 b) := rfl

theorem ac_3 (k : Int) (a : Int) (b : Int) (c : Int) (f : Nat) : (ac k a b c f)[3]? = some (.int .i64 c) := rfl

theorem ac_4 (k : Int) (a : Int) (b : Int) (c : Int) (f : Nat) : (ac k a b c f)[4]? = some (.float .f32 f) := rfl

theorem ac_s0 (k : Int) (a : Int) (b : Int) (c : Int) (f : Nat) (x : Int) : (ac k a b c f).setIfInBounds 0 (.int .i64 x) = ac x a b c f := rfl

theorem ac_s1 (k : Int) (a : Int) (b : Int) (c : Int) (f : Nat) (x : Int) : (ac k a b c f).setIfInBounds 1 (.int .i64 x) = ac k x b c f := rfl

theorem ac_s2 (k : Int) (a : Int) (b : Int) (c : Int) (f : Nat) (x : Int) : (ac k a b c f).setIfInBounds 2 (.int .i64 x) = ac k a x c f := rfl

theorem ac_s3 (k : Int) (a : Int) (b : Int) (c : Int) (f : Nat) (x : Int) : (ac k a b c f).setIfInBounds 3 (.int .i64 x) = ac k a b x f := rfl

theorem ac_s4 (k : Int) (a : Int) (b : Int) (c : Int) (f : Nat) (x : Nat) : (ac k a b c f).setIfInBounds 4 (.float .f32 x) = ac k a b c x := rfl

theorem ac_sz (k : Int) : (#[.int .i64 0, .int .i64 0, .int .i64 0, .int .i64 0, .float .f32 0] : Array Value).setIfInBounds 0 (.int .i64 k) = (ac k 0 0 0 0) := rfl


set_option maxHeartbeats 1000000 in
theorem toAct_any (k : Int) (a : Int) (b : Int) (c : Int) (f : Nat) (w : World) :
    Calls Try.prog 16 #[.agg (ac k a b c f)] w fun e w' => e = .returned (.agg (ac k a b c f)) ∧ Below w.heap.size w w' := by
  have A0 : At (((w.alloc (.cells (ac k a b c f) 43)).alloc (.cells (#[.int .i64 0, .int .i64 0, .int .i64 0, .int .i64 0, .float .f32 0]) 45)).alloc (.cells (#[.int .i64 0, .int .i64 0, .int .i64 0, .int .i64 0, .float .f32 0]) 45)) w.heap.size (ac k a b c f) 43 := ((At.new w _ _).alloc _).alloc _
  have R0 : At (((w.alloc (.cells (ac k a b c f) 43)).alloc (.cells (#[.int .i64 0, .int .i64 0, .int .i64 0, .int .i64 0, .float .f32 0]) 45)).alloc (.cells (#[.int .i64 0, .int .i64 0, .int .i64 0, .int .i64 0, .float .f32 0]) 45)) (w.heap.size + 1) (#[.int .i64 0, .int .i64 0, .int .i64 0, .int .i64 0, .float .f32 0]) 45 := (At.last1 w _ _ _).alloc _
  have L0 : At (((w.alloc (.cells (ac k a b c f) 43)).alloc (.cells (#[.int .i64 0, .int .i64 0, .int .i64 0, .int .i64 0, .float .f32 0]) 45)).alloc (.cells (#[.int .i64 0, .int .i64 0, .int .i64 0, .int .i64 0, .float .f32 0]) 45)) (w.heap.size + 1 + 1) (#[.int .i64 0, .int .i64 0, .int .i64 0, .int .i64 0, .float .f32 0]) 45 := by
    have := At.new ((w.alloc (.cells (ac k a b c f) 43)).alloc (.cells (#[.int .i64 0, .int .i64 0, .int .i64 0, .int .i64 0, .float .f32 0]) 45)) (#[.int .i64 0, .int .i64 0, .int .i64 0, .int .i64 0, .float .f32 0]) 45
    rwa [World.size_alloc, World.size_alloc] at this
  have B0 := Lib.hid (bnew (bnew (b0 w (.cells (ac k a b c f) 43)) (.cells (#[.int .i64 0, .int .i64 0, .int .i64 0, .int .i64 0, .float .f32 0]) 45)) (.cells (#[.int .i64 0, .int .i64 0, .int .i64 0, .int .i64 0, .float .f32 0]) 45))
  have A1 := A0.setRow_other (k := w.heap.size + 1 + 1) (by omega) ((ac k 0 0 0 0))
  have R1 := R0.setRow_other (k := w.heap.size + 1 + 1) (by omega) ((ac k 0 0 0 0))
  have L1 := L0.setRow ((ac k 0 0 0 0))
  have B1 := Lib.hid (bset B0.out (g := w.heap.size + 1 + 1) (by omega) ((ac k 0 0 0 0)))
  have A2 := A1.setRow_other (k := w.heap.size + 1 + 1) (by omega) ((ac k a 0 0 0))
  have R2 := R1.setRow_other (k := w.heap.size + 1 + 1) (by omega) ((ac k a 0 0 0))
  have L2 := L1.setRow ((ac k a 0 0 0))
  have B2 := Lib.hid (bset B1.out (g := w.heap.size + 1 + 1) (by omega) ((ac k a 0 0 0)))
  have A3 := A2.setRow_other (k := w.heap.size + 1 + 1) (by omega) ((ac k a b 0 0))
  have R3 := R2.setRow_other (k := w.heap.size + 1 + 1) (by omega) ((ac k a b 0 0))
  have L3 := L2.setRow ((ac k a b 0 0))
  have B3 := Lib.hid (bset B2.out (g := w.heap.size + 1 + 1) (by omega) ((ac k a b 0 0)))
  have A4 := A3.setRow_other (k := w.heap.size + 1 + 1) (by omega) ((ac k a b c 0))
  have R4 := R3.setRow_other (k := w.heap.size + 1 + 1) (by omega) ((ac k a b c 0))
  have L4 := L3.setRow ((ac k a b c 0))
  have B4 := Lib.hid (bset B3.out (g := w.heap.size + 1 + 1) (by omega) ((ac k a b c 0)))
  have A5 := A4.setRow_other (k := w.heap.size + 1 + 1) (by omega) ((ac k a b c f))
  have R5 := R4.setRow_other (k := w.heap.size + 1 + 1) (by omega) ((ac k a b c f))
  have L5 := L4.setRow ((ac k a b c f))
  have B5 := Lib.hid (bset B4.out (g := w.heap.size + 1 + 1) (by omega) ((ac k a b c f)))
  have R9 := R5.setRow (ac k a b c f)
  have B9 := Lib.hid (bset B5.out (g := w.heap.size + 1) (by omega) (ac k a b c f))
  go_enter Try.func16, Try.ntmps16
  go_wp2_with (first | ((with_reducible refine is_load 2 _ rfl ?_); refine wpList_load_cell rfl 2 _ rfl _ 0 rfl (ac k a b c f) _ (by with_reducible assumption) _ Try.underlying2 rfl (.int .i64 k) (ac_0 _ _ _ _ _) ?_) | ((with_reducible refine is_load 2 _ rfl ?_); refine wpList_load_cell rfl 2 _ rfl _ 1 rfl (ac k a b c f) _ (by with_reducible assumption) _ Try.underlying2 rfl (.int .i64 a) (ac_1 _ _ _ _ _) ?_) | ((with_reducible refine is_load 2 _ rfl ?_); refine wpList_load_cell rfl 2 _ rfl _ 2 rfl (ac k a b c f) _ (by with_reducible assumption) _ Try.underlying2 rfl (.int .i64 b) (ac_2 _ _ _ _ _) ?_) | ((with_reducible refine is_load 2 _ rfl ?_); refine wpList_load_cell rfl 2 _ rfl _ 3 rfl (ac k a b c f) _ (by with_reducible assumption) _ Try.underlying2 rfl (.int .i64 c) (ac_3 _ _ _ _ _) ?_) | ((with_reducible refine is_load 26 _ rfl ?_); refine wpList_load_cell rfl 26 _ rfl _ 4 rfl (ac k a b c f) _ (by with_reducible assumption) _ Try.underlying26 rfl (.float .f32 f) (ac_4 _ _ _ _ _) ?_) | ((with_reducible refine is_store 2 _ _ rfl ?_); refine wpList_store_cell rfl 2 _ _ rfl _ 0 rfl (.int .i64 k) rfl (#[.int .i64 0, .int .i64 0, .int .i64 0, .int .i64 0, .float .f32 0]) _ (by with_reducible assumption) (by decide) (by kernel_rfl) rfl ((ac k 0 0 0 0)) (ac_sz _) ?_) | ((with_reducible refine is_store 2 _ _ rfl ?_); refine wpList_store_cell rfl 2 _ _ rfl _ 1 rfl (.int .i64 a) rfl ((ac k 0 0 0 0)) _ (by with_reducible assumption) (by rw [ac_size]; omega) (by kernel_rfl) rfl ((ac k a 0 0 0)) (ac_s1 _ _ _ _ _ _) ?_) | ((with_reducible refine is_store 2 _ _ rfl ?_); refine wpList_store_cell rfl 2 _ _ rfl _ 2 rfl (.int .i64 b) rfl ((ac k a 0 0 0)) _ (by with_reducible assumption) (by rw [ac_size]; omega) (by kernel_rfl) rfl ((ac k a b 0 0)) (ac_s2 _ _ _ _ _ _) ?_) | ((with_reducible refine is_store 2 _ _ rfl ?_); refine wpList_store_cell rfl 2 _ _ rfl _ 3 rfl (.int .i64 c) rfl ((ac k a b 0 0)) _ (by with_reducible assumption) (by rw [ac_size]; omega) (by kernel_rfl) rfl ((ac k a b c 0)) (ac_s3 _ _ _ _ _ _) ?_) | ((with_reducible refine is_store 26 _ _ rfl ?_); refine wpList_store_cell rfl 26 _ _ rfl _ 4 rfl (.float .f32 f) rfl ((ac k a b c 0)) _ (by with_reducible assumption) (by rw [ac_size]; omega) (by kernel_rfl) rfl ((ac k a b c f)) (ac_s4 _ _ _ _ _ _) ?_) | ((with_reducible refine is_load 45 _ rfl ?_); refine wpList_load_at rfl 45 _ rfl _ rfl (ac k a b c f) _ (by with_reducible assumption) 5 (ac_size _ _ _ _ _) _ Try.underlying45 rfl (by kernel_rfl) ?_) | ((with_reducible refine is_store 45 _ _ rfl ?_); refine wpList_store_at rfl 45 _ _ rfl _ rfl (ac k a b c f) rfl (#[.int .i64 0, .int .i64 0, .int .i64 0, .int .i64 0, .float .f32 0]) _ (by with_reducible assumption) 5 (ac_size _ _ _ _ _) rfl (by kernel_rfl) (ac_one _ _ _ _ _) ?_))
  exact bodyPost_ret (v := .agg (ac k a b c f)) (results_at (p := 2) (ty := 45) rfl _ _ _ (ac k a b c f) _ rfl R9 _ Try.underlying45 rfl 5 (ac_size _ _ _ _ _) (by kernel_rfl)) rfl ⟨rfl, B9.out⟩
theorem order_aboveA {r y : Nat} (hr : r < 2139095040) (h0 : 0 < r) (hy : y ≤ 2139095040) : FloatKind.f32.format.order y (2147483648 + r) = some .gt := by
  show S32.order y (2147483648 + r) = _
  by_cases cy : y = 2139095040
  · subst cy
    obtain ⟨m, i, h1, -, -⟩ := read_fin S32 true (r := r) (by rw [s_inf]; omega)
    rw [word_true, s_sw] at h1
    unfold Ieee.Format.order; rw [read_inf_pos, h1]; rfl
  · have := order_fin S32 false true (r := y) (q := r) (by rw [s_inf]; omega) (by rw [s_inf]; omega)
    rw [word_true, word_false, s_sw] at this
    rw [this]
    have hp := rv_pos (p := S32.fractionBits) h0
    rw [Int.compare_eq_gt.2]
    show -((rv S32.fractionBits r : Nat) : Int) < ((rv S32.fractionBits y : Nat) : Int)
    omega

/-- a word is a number that is nothing -/
def nilW (x : Nat) : Bool := FloatKind.f32.format.order x 0 == some .eq

theorem nilW_iff {x : Nat} (h : x < 4294967296) : nilW x = decide (x = 0 ∨ x = 2147483648) := by
  unfold nilW
  by_cases n : nanB x = true
  · rw [order_nanL h n, decide_eq_false (by unfold nanB at n; simp at n; omega)]; rfl
  · have n' : x % 2147483648 ≤ 2139095040 := by unfold nanB at n; simp at n; omega
    by_cases c : x < 2147483648
    · rw [order_amt (by omega) (by omega)]
      by_cases z : x = 0
      · subst z; rfl
      · rw [decide_eq_false (by omega)]
        have : compare x 0 = .gt := Nat.compare_eq_gt.2 (by omega)
        rw [this]; rfl
    · obtain ⟨r, rfl⟩ : ∃ r, x = 2147483648 + r := ⟨x - 2147483648, by omega⟩
      by_cases z : r = 0
      · subst z; rw [Nat.add_zero, order_negzero (by omega)]; rfl
      · rw [order_neg (by omega) (by omega) (by omega), decide_eq_false (by omega)]; rfl

theorem isFinite_any (x : Nat) (h : x < 4294967296) (w : World) : Calls Try.prog 58 #[.float .f32 x] w (Rd (.bool (finB x)) w) := by
  by_cases n : nanB x = true
  · have h1 : FloatKind.f32.format.order x 4286578687 = none := order_nanL h n
    rw [show finB x = false from by unfold finB; unfold nanB at n; simp at n ⊢; omega]
    go_enter Try.func58, Try.ntmps58
    go_wp2
    go_ret
    exact Rd.mk0
  · have n' : x % 2147483648 ≤ 2139095040 := by unfold nanB at n; simp at n; omega
    have key : (FloatKind.f32.format.order x 4286578687 == some .gt || FloatKind.f32.format.order x 4286578687 == some .eq) = true ∧ (FloatKind.f32.format.order x 2139095039 == some .lt || FloatKind.f32.format.order x 2139095039 == some .eq) = finB x ∨ (FloatKind.f32.format.order x 4286578687 == some .gt || FloatKind.f32.format.order x 4286578687 == some .eq) = false ∧ finB x = false := by
      by_cases c : x < 2147483648
      · have hx : x ≤ 2139095040 := by omega
        refine .inl ⟨?_, ?_⟩
        · have := order_aboveA (r := 2139095039) (y := x) (by omega) (by omega) hx
          rw [show (2147483648 + 2139095039 : Nat) = 4286578687 from rfl] at this
          rw [this]; rfl
        · rw [le_amt (x := x) (y := 2139095039) hx (by omega)]
          unfold finB
          exact decide_eq_decide.2 (by omega)
      · obtain ⟨r, rfl⟩ : ∃ r, x = 2147483648 + r := ⟨x - 2147483648, by omega⟩
        by_cases z : r = 0
        · subst z; exact .inl ⟨by decide, by decide⟩
        · by_cases i : r = 2139095040
          · subst i; exact .inr ⟨by decide, by decide⟩
          · have hr : r < 2139095040 := by omega
            refine .inl ⟨?_, ?_⟩
            · have := order_fin S32 true true (r := r) (q := 2139095039) (by rw [s_inf]; omega) (by rw [s_inf]; omega)
              rw [word_true, word_true, s_sw] at this
              rw [show FloatKind.f32.format.order (2147483648 + r) 4286578687 = S32.order (2147483648 + r) (2147483648 + 2139095039) from rfl, this]
              have hle := rv_le (p := S32.fractionBits) (show r ≤ 2139095039 by omega)
              have hc : compare (-((rv S32.fractionBits r : Nat) : Int)) (-((rv S32.fractionBits 2139095039 : Nat) : Int)) = .eq ∨ compare (-((rv S32.fractionBits r : Nat) : Int)) (-((rv S32.fractionBits 2139095039 : Nat) : Int)) = .gt := by
                by_cases e : rv S32.fractionBits r = rv S32.fractionBits 2139095039
                · exact .inl (Int.compare_eq_eq.2 (by rw [e]))
                · exact .inr (Int.compare_eq_gt.2 (by omega))
              show (some (compare (-((rv S32.fractionBits r : Nat) : Int)) (-((rv S32.fractionBits 2139095039 : Nat) : Int))) == some .gt || some (compare (-((rv S32.fractionBits r : Nat) : Int)) (-((rv S32.fractionBits 2139095039 : Nat) : Int))) == some .eq) = true
              rcases hc with e | e <;> (rw [e]; rfl)
            · rw [order_neg (by omega) (by omega) (by omega), show finB (2147483648 + r) = true from by unfold finB; simp; omega]; rfl
    rcases key with ⟨h1, h2⟩ | ⟨h1, h2⟩
    · generalize finB x = fb at *
      go_enter Try.func58, Try.ntmps58
      go_wp2
      go_ret
      exact Rd.mk0
    · rw [h2]
      go_enter Try.func58, Try.ntmps58
      go_wp2
      go_ret
      exact Rd.mk0

/-- a part: a number that an act may hold, 0 if its form has it not -/
def okA (h : Bool) (x : Int) : Bool := inB 0 999 x && (decide (x = 0) || h)

def okF (h : Bool) (f : Nat) : Bool := if nilW f then !decide (2147483648 ≤ f) else finB f && h

def hasB (k : Int) : Bool := decide (k = 2 ∨ k = 3 ∨ k = 5)
def hasC (k : Int) : Bool := decide (k = 5)
def hasF (k : Int) : Bool := decide (k = 1 ∨ k = 2 ∨ k = 5)

/-- a valid act -/
def vVA (k a b c : Int) (f : Nat) : Bool := inB 1 6 k && (okA true a && (okA (hasB k) b && (okA (hasC k) c && okF (hasF k) f)))

theorem vVA_k {k : Int} (a b c : Int) (f : Nat) (h : ¬ (1 ≤ k ∧ k ≤ 6)) : vVA k a b c f = false := by unfold vVA inB; rw [decide_eq_false h]; rfl

theorem k_six {k : Int} (h : 1 ≤ k ∧ k ≤ 6) : k = 1 ∨ k = 2 ∨ k = 3 ∨ k = 4 ∨ k = 5 ∨ k = 6 := by omega

theorem partOf_A (g : Nat) (w : World) : Calls Try.prog 55 #[.pointer (some ⟨g, 0, none⟩), .string ⟨#[65]⟩] w fun e w' => e = .returned (.pointer (some ⟨g, 1, none⟩)) ∧ w' = w := by
  go_enter Try.func55, Try.ntmps55
  go_wp2
  go_ret
  exact ⟨rfl, rfl⟩

theorem partOf_B (g : Nat) (w : World) : Calls Try.prog 55 #[.pointer (some ⟨g, 0, none⟩), .string ⟨#[66]⟩] w fun e w' => e = .returned (.pointer (some ⟨g, 2, none⟩)) ∧ w' = w := by
  go_enter Try.func55, Try.ntmps55
  go_wp2
  go_ret
  exact ⟨rfl, rfl⟩

theorem partOf_C (g : Nat) (w : World) : Calls Try.prog 55 #[.pointer (some ⟨g, 0, none⟩), .string ⟨#[67]⟩] w fun e w' => e = .returned (.pointer (some ⟨g, 3, none⟩)) ∧ w' = w := by
  go_enter Try.func55, Try.ntmps55
  go_wp2
  go_ret
  exact ⟨rfl, rfl⟩

def FORMS : Array Value := #[.string ⟨#[]⟩, .nilFunc, .string ⟨#[111, 102, 102, 101, 114, 32, 65, 32, 70]⟩, .func (Fn.func 91) #[] #[], .string ⟨#[98, 108, 111, 99, 107, 32, 65, 32, 66, 32, 70]⟩, .func (Fn.func 92) #[] #[], .string ⟨#[112, 108, 97, 110, 32, 65, 32, 66]⟩, .func (Fn.func 93) #[] #[], .string ⟨#[102, 114, 101, 101, 32, 65]⟩, .func (Fn.func 94) #[] #[], .string ⟨#[116, 117, 114, 110, 32, 65, 32, 66, 32, 67, 32, 70]⟩, .func (Fn.func 95) #[] #[], .string ⟨#[119, 97, 105, 116, 32, 65]⟩, .func (Fn.func 96) #[] #[]]

set_option maxHeartbeats 1000000 in
theorem actForms_any (w : World) : Calls Try.prog 54 #[] w fun e w' => e = .returned (.agg FORMS) ∧ Below w.heap.size w w' := by
  have A0 := At.new w (#[.string ⟨#[]⟩, .nilFunc, .string ⟨#[]⟩, .nilFunc, .string ⟨#[]⟩, .nilFunc, .string ⟨#[]⟩, .nilFunc, .string ⟨#[]⟩, .nilFunc, .string ⟨#[]⟩, .nilFunc, .string ⟨#[]⟩, .nilFunc]) 102
  have R1 := A0.setRow FORMS
  have B1 := Lib.hid (bset (b0 w (.cells (#[.string ⟨#[]⟩, .nilFunc, .string ⟨#[]⟩, .nilFunc, .string ⟨#[]⟩, .nilFunc, .string ⟨#[]⟩, .nilFunc, .string ⟨#[]⟩, .nilFunc, .string ⟨#[]⟩, .nilFunc, .string ⟨#[]⟩, .nilFunc]) 102)) (g := w.heap.size) (Nat.le_refl _) FORMS)
  go_enter Try.func54, Try.ntmps54
  go_wp2_with (((with_reducible refine is_store 102 _ _ rfl ?_); refine wpList_store_at rfl 102 _ _ rfl _ rfl FORMS rfl (#[.string ⟨#[]⟩, .nilFunc, .string ⟨#[]⟩, .nilFunc, .string ⟨#[]⟩, .nilFunc, .string ⟨#[]⟩, .nilFunc, .string ⟨#[]⟩, .nilFunc, .string ⟨#[]⟩, .nilFunc, .string ⟨#[]⟩, .nilFunc]) _ (by with_reducible assumption) 14 rfl rfl (by kernel_rfl) (by kernel_rfl) ?_))
  exact bodyPost_ret (v := .agg FORMS) (results_at (p := 0) (ty := 102) rfl _ _ _ FORMS _ rfl R1 _ Try.underlying102 rfl 14 rfl (by kernel_rfl)) rfl ⟨rfl, B1.out⟩

theorem is_idx {P : Program} {w : World} {ops : Array Oper} {rest : List Oper} {o : Oper} {a : Act} {Q : Exit → Act → World → Prop} (t : TypeId) (x ix : Operand) (_ho : o.op = .index t x ix) (h : wpList P ops Q (o :: rest) a w) : wpList P ops Q (o :: rest) a w := h

theorem wpList_idx {P : Program} {w : World} {ops : Array Oper} {rest : List Oper} {o : Oper} {a : Act} {Q : Exit → Act → World → Prop} {v : Value} (hg : o.guard = none) (t : TypeId) (x ix : Operand) (ho : o.op = .index t x ix) (vx vi : Value) (hx : a.eval x = vx) (hi : a.eval ix = vi) (hrun : (Instr.index t vx vi).run P w = .ok v w) (h : wpList P ops Q rest (a.put o.dst v) w) : wpList P ops Q (o :: rest) a w := by
  refine wpList_plain hg fun K hK' => ?_
  unfold Oper.wp execOp
  simp only [ho, hx, hi, Sem.run_bind, hrun, Sem.run_pure, Result.andThen_ok]
  exact hK' _ _ h

theorem and_n1 {x y z u : Bool} (h : x = false) : (x && (y && (z && u))) = false := by rw [h]; rfl
theorem and_n2 {x y z u : Bool} (h : y = false) : (x && (y && (z && u))) = false := by rw [h]; cases x <;> rfl
theorem and_n3 {x y z u : Bool} (h : z = false) : (x && (y && (z && u))) = false := by rw [h]; cases x <;> cases y <;> rfl

end Go.Proofs.Ytboahhipobcabaa
