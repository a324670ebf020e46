/-
  CONTRACTS: towns held against each other, the program: whole numbers, joints, and lists of roads, numbers, joints, plans.
-/
import Derived.Test.YtboahhipobcabaaG15
import Derived.Test.YtboahhipobcabaaG17
import Derived.Test.YtboahhipobcabaaSameJn
import Derived.Test.YtboahhipobcabaaG18
import Derived.Test.YtboahhipobcabaaValidL
namespace Go.Proofs.Ytboahhipobcabaa
open Go Go.ChangeShapes Go.WideShapes Go.ChangeAt Go.RowKit
set_option maxRecDepth 100000

theorem ints_ext {xs ys : List Int} (h : xs.length = ys.length) (q : ∀ k, k < xs.length → ith xs k = ith ys k) : xs = ys := by
  apply List.ext_getElem h
  intro k h1 h2
  have := q k h1
  unfold ith at this
  rwa [List.getD_eq_getElem?_getD, List.getD_eq_getElem?_getD, List.getElem?_eq_getElem h1, List.getElem?_eq_getElem h2] at this

/-- two lists have as many, and all are the same -/
def eqN (f : Nat → Bool) (n m : Nat) : Bool := decide (n = m) && allN f n

theorem eqN_ne {f : Nat → Bool} {n m : Nat} (h : ¬ n = m) : eqN f n m = false := by unfold eqN; rw [decide_eq_false h]; rfl

theorem eqN_eq (f : Nat → Bool) (n : Nat) : eqN f n n = allN f n := by unfold eqN; rw [decide_eq_true rfl]; rfl

def sameRd (r s : Rd4) : Bool := sameR r.cs r.p r.b r.l s.cs s.p s.b s.l

def sameJt (j k : Jt) : Bool := sameJ j.i j.o j.ts j.ps k.i k.o k.ts k.ps && decide (j.ns = k.ns) && decide (j.us = k.us) && decide (j.p = k.p)

def samePk (ps qs : Ps) (k : Nat) : Bool := vSame (pS ps k) (pS qs k) (pB ps k) (pO ps k) (pB qs k) (pO qs k)


set_option maxHeartbeats 1000000 in
theorem EqualI_any (g1 g2 : Nat) (xs ys : List Int) (hn : xs.length ≤ 1048576) (T1 T2 : TypeId) (w : World) (h1 : At w g1 (il xs) T1) (h2 : At w g2 (il ys) T2) :
    Calls Try.prog 72 #[.slice (some ⟨g1, 0, none⟩) xs.length xs.length, .slice (some ⟨g2, 0, none⟩) ys.length ys.length] w fun e w' => e = .returned (.bool (decide (xs = ys))) ∧ Below w.heap.size w w' := by
  have B0 := Lib.hid (Below.refl w.heap.size w)
  by_cases hl : xs.length = ys.length
  · obtain ⟨n, hnn⟩ : ∃ n, n = xs.length := ⟨_, rfl⟩
    have HN := Lib.hid (And.intro hnn (hnn.trans hl))
    have HX := Lib.hid (And.intro h1 h2)
    rw [← hl, ← hnn]
    rw [← hnn] at hn
    clear hnn hl h1 h2
    go_enter Try.func72, Try.ntmps72
    go_wp2
    go_loopw [13] (fun i wr => ∃ k : Nat, k ≤ n ∧ i = .int .i64 (k : Int) ∧ Hid (∀ j, j < k → ith xs j = ith ys j) ∧ Hid (Below w.heap.size w wr)) (fun i _ => n - (intOf i).toNat)
    case atStart => exact ⟨0, by omega, rfl, Lib.hid (fun j hj => by omega), B0⟩
    case round =>
      obtain ⟨k, hk, rfl, hall, B1⟩ := hrel
      by_cases hlt : k < n
      · have s2 : IntKind.i64.wrap ((k : Int) + 1) = (k : Int) + 1 := IntWalk.i64_in _ (by omega)
        have kd : (k : Int) < (n : Int) := by omega
        have A1 := HX.out.1.step B1.out
        have A2 := HX.out.2.step B1.out
        have dx := il_get (xs := xs) (k := k) (by rw [← HN.out.1]; exact hlt)
        have dy := il_get (xs := ys) (k := k) (by rw [← HN.out.2]; exact hlt)
        have hC := Cb.const wr
        by_cases he : ith xs k = ith ys k
        · have hall2 : Hid (∀ j, j < k + 1 → ith xs j = ith ys j) := Lib.hid (fun j hj => by
            by_cases c : j = k
            · subst c; exact he
            · exact hall.out j (by omega))
          have hb : (ith xs k != ith ys k) = false := by simpa using he
          have hb2 : (ith xs k == ith ys k) = true := by simpa using he
          clear he hall
          generalize ith xs k = x at *
          generalize ith ys k = y at *
          go_wp2
          refine wp_region_cb (by kernel_rfl) (by kernel_rfl) ?_
          repeat (first
            | go_big_quiet_skip
            | (go_big_quiet_want; first
              | (refine q_oneI 2 _ rfl _ Try.underlying2 rfl k rfl A1 _ dx ?_; go_simp; go_big_quiet_on)
              | (refine q_oneI 2 _ rfl _ Try.underlying2 rfl k rfl A2 _ dy ?_; go_simp; go_big_quiet_on)
              | (go_big_quiet_op; go_big_quiet_on)))
          refine wpQuiet_nil ?_
          intro w5 hw5
          have B5 := Lib.hid (bthen B1.out hw5)
          clear hC A1 A2 hw5 dx dy
          go_wp2
          exact ⟨⟨k + 1, by omega, by go_num, hall2, B5⟩, by simp [intOf]; omega⟩
        · have hno : decide (xs = ys) = false := decide_eq_false (fun e => he (by rw [e]))
          have HNO := Lib.hid hno
          have hb : (ith xs k != ith ys k) = true := by simpa using he
          have hb2 : (ith xs k == ith ys k) = false := by simpa using he
          clear hall hno
          generalize ith xs k = x at *
          generalize ith ys k = y at *
          go_wp2
          refine wp_region_cb (by kernel_rfl) (by kernel_rfl) ?_
          repeat (first
            | go_big_quiet_skip
            | (go_big_quiet_want; first
              | (refine q_oneI 2 _ rfl _ Try.underlying2 rfl k rfl A1 _ dx ?_; go_simp; go_big_quiet_on)
              | (refine q_oneI 2 _ rfl _ Try.underlying2 rfl k rfl A2 _ dy ?_; go_simp; go_big_quiet_on)
              | (go_big_quiet_op; go_big_quiet_on)))
          refine wpQuiet_nil ?_
          intro w5 hw5
          have B5 := Lib.hid (bthen B1.out hw5)
          clear hC A1 A2 hw5 dx dy
          go_wp2
          go_ret
          exact ⟨by rw [HNO.out]; rfl, B5.out⟩
      · obtain rfl : n = k := by omega
        have hyes : decide (xs = ys) = true := decide_eq_true (ints_ext (HN.out.1.symm.trans HN.out.2) (fun j hj => hall.out j (by rw [HN.out.1]; exact hj)))
        go_wp2
        go_ret
        exact ⟨by rw [hyes]; rfl, B1.out⟩
  · have hno : decide (xs = ys) = false := decide_eq_false (fun e => hl (by rw [e]))
    generalize xs.length = n at hl
    generalize ys.length = m at hl
    have hne : ¬ (n : Int) = (m : Int) := by omega
    rw [hno]
    clear h1 h2
    go_enter Try.func72, Try.ntmps72
    go_wp2
    go_ret
    exact ⟨rfl, B0.out⟩

set_option maxHeartbeats 2000000 in
theorem sameJoint_own (j k : Jt) (g h g' h' : Nat) (hn : j.ns.length ≤ 1048576) (hu : j.us.length ≤ 1048576) (w : World) (N1 : At w g (il j.ns) 2) (U1 : At w h (il j.us) 2) (N2 : At w g' (il k.ns) 2) (U2 : At w h' (il k.us) 2) :
    Calls Try.prog 32 #[.agg (jrC (jrOf j (some ⟨g, 0, none⟩) j.ns.length (some ⟨h, 0, none⟩) j.us.length)), .agg (jrC (jrOf k (some ⟨g', 0, none⟩) k.ns.length (some ⟨h', 0, none⟩) k.us.length))] w fun e w' => e = .returned (.bool (sameJt j k)) ∧ Below w.heap.size w w' := by
  have A0 : At ((w.alloc (.cells (jrC (jrOf j (some ⟨g, 0, none⟩) j.ns.length (some ⟨h, 0, none⟩) j.us.length)) 75)).alloc (.cells (jrC (jrOf k (some ⟨g', 0, none⟩) k.ns.length (some ⟨h', 0, none⟩) k.us.length)) 75)) w.heap.size (jrC (jrOf j (some ⟨g, 0, none⟩) j.ns.length (some ⟨h, 0, none⟩) j.us.length)) 75 := (At.new w _ _).alloc _
  have E0 : At ((w.alloc (.cells (jrC (jrOf j (some ⟨g, 0, none⟩) j.ns.length (some ⟨h, 0, none⟩) j.us.length)) 75)).alloc (.cells (jrC (jrOf k (some ⟨g', 0, none⟩) k.ns.length (some ⟨h', 0, none⟩) k.us.length)) 75)) (w.heap.size + 1) (jrC (jrOf k (some ⟨g', 0, none⟩) k.ns.length (some ⟨h', 0, none⟩) k.us.length)) 75 := At.last1 w _ _ _
  have B0 := Lib.hid (bnew (b0 w (.cells (jrC (jrOf j (some ⟨g, 0, none⟩) j.ns.length (some ⟨h, 0, none⟩) j.us.length)) 75)) (.cells (jrC (jrOf k (some ⟨g', 0, none⟩) k.ns.length (some ⟨h', 0, none⟩) k.us.length)) 75))
  have KJ := fun w' => SameJunction_b j.i j.o j.ts j.ps j.hi j.ho j.hlt j.hlp j.hct j.hcp k.i k.o k.ts k.ps k.hi k.ho k.hlt k.hlp k.hct k.hcp w'
  have KN := fun w' (hb : Below w.heap.size w w') => EqualI_any g g' j.ns k.ns hn _ _ w' (N1.step hb) (N2.step hb)
  have KU := fun w' (hb : Below w.heap.size w w') => EqualI_any h h' j.us k.us hu _ _ w' (U1.step hb) (U2.step hb)
  have hv : sameJt j k = (sameJ j.i j.o j.ts j.ps k.i k.o k.ts k.ps && decide (j.ns = k.ns) && decide (j.us = k.us) && decide (j.p = k.p)) := rfl
  clear N1 U1 N2 U2 hn hu
  generalize sameJ j.i j.o j.ts j.ps k.i k.o k.ts k.ps = b1 at *
  generalize decide (j.ns = k.ns) = b2 at *
  generalize decide (j.us = k.us) = b3 at *
  cases b1
  · have HV := Lib.hid (show sameJt j k = false from by rw [hv]; rfl)
    clear hv KN KU
    go_enter Try.func32, Try.ntmps32
    go_wp2_with (first | ((with_reducible refine is_load 72 _ rfl ?_); refine wpList_load_part rfl 72 _ rfl _ 0 rfl (jrC (jrOf j (some ⟨g, 0, none⟩) j.ns.length (some ⟨h, 0, none⟩) j.us.length)) _ (by with_reducible assumption) 22 (by rw [jrC_size]; omega) _ Try.underlying72 rfl (by kernel_rfl) ((jn j.i j.o j.ts j.ps)) (jr_jn j.hlt j.hlp _ _ _ _ _) ?_) | ((with_reducible refine is_load 73 _ rfl ?_); refine wpList_load_cell_g rfl 73 _ rfl _ 22 rfl (jrC (jrOf j (some ⟨g, 0, none⟩) j.ns.length (some ⟨h, 0, none⟩) j.us.length)) _ (by with_reducible assumption) _ Try.underlying73 rfl (.slice (some ⟨g, 0, none⟩) j.ns.length j.ns.length) (jr_v j.hlt j.hlp _ _ _ _ _) ?_) | ((with_reducible refine is_load 73 _ rfl ?_); refine wpList_load_cell_g rfl 73 _ rfl _ 23 rfl (jrC (jrOf j (some ⟨g, 0, none⟩) j.ns.length (some ⟨h, 0, none⟩) j.us.length)) _ (by with_reducible assumption) _ Try.underlying73 rfl (.slice (some ⟨h, 0, none⟩) j.us.length j.us.length) (jr_u j.hlt j.hlp _ _ _ _ _) ?_) | ((with_reducible refine is_load 2 _ rfl ?_); refine wpList_load_cell_g rfl 2 _ rfl _ 24 rfl (jrC (jrOf j (some ⟨g, 0, none⟩) j.ns.length (some ⟨h, 0, none⟩) j.us.length)) _ (by with_reducible assumption) _ Try.underlying2 rfl (.int .i64 j.p) (jr_p j.hlt j.hlp _ _ _ _ _) ?_) | ((with_reducible refine is_load 72 _ rfl ?_); refine wpList_load_part rfl 72 _ rfl _ 0 rfl (jrC (jrOf k (some ⟨g', 0, none⟩) k.ns.length (some ⟨h', 0, none⟩) k.us.length)) _ (by with_reducible assumption) 22 (by rw [jrC_size]; omega) _ Try.underlying72 rfl (by kernel_rfl) ((jn k.i k.o k.ts k.ps)) (jr_jn k.hlt k.hlp _ _ _ _ _) ?_) | ((with_reducible refine is_load 73 _ rfl ?_); refine wpList_load_cell_g rfl 73 _ rfl _ 22 rfl (jrC (jrOf k (some ⟨g', 0, none⟩) k.ns.length (some ⟨h', 0, none⟩) k.us.length)) _ (by with_reducible assumption) _ Try.underlying73 rfl (.slice (some ⟨g', 0, none⟩) k.ns.length k.ns.length) (jr_v k.hlt k.hlp _ _ _ _ _) ?_) | ((with_reducible refine is_load 73 _ rfl ?_); refine wpList_load_cell_g rfl 73 _ rfl _ 23 rfl (jrC (jrOf k (some ⟨g', 0, none⟩) k.ns.length (some ⟨h', 0, none⟩) k.us.length)) _ (by with_reducible assumption) _ Try.underlying73 rfl (.slice (some ⟨h', 0, none⟩) k.us.length k.us.length) (jr_u k.hlt k.hlp _ _ _ _ _) ?_) | ((with_reducible refine is_load 2 _ rfl ?_); refine wpList_load_cell_g rfl 2 _ rfl _ 24 rfl (jrC (jrOf k (some ⟨g', 0, none⟩) k.ns.length (some ⟨h', 0, none⟩) k.us.length)) _ (by with_reducible assumption) _ Try.underlying2 rfl (.int .i64 k.p) (jr_p k.hlt k.hlp _ _ _ _ _) ?_))
    refine (KJ _).mono ?_
    rintro e w1 ⟨rfl, hb1⟩
    have A1 := A0.step hb1
    have E1 := E0.step hb1
    have B1 := Lib.hid (bthen B0.out hb1)
    clear A0 E0 B0 hb1
    go_wp2_with (first | ((with_reducible refine is_load 72 _ rfl ?_); refine wpList_load_part rfl 72 _ rfl _ 0 rfl (jrC (jrOf j (some ⟨g, 0, none⟩) j.ns.length (some ⟨h, 0, none⟩) j.us.length)) _ (by with_reducible assumption) 22 (by rw [jrC_size]; omega) _ Try.underlying72 rfl (by kernel_rfl) ((jn j.i j.o j.ts j.ps)) (jr_jn j.hlt j.hlp _ _ _ _ _) ?_) | ((with_reducible refine is_load 73 _ rfl ?_); refine wpList_load_cell_g rfl 73 _ rfl _ 22 rfl (jrC (jrOf j (some ⟨g, 0, none⟩) j.ns.length (some ⟨h, 0, none⟩) j.us.length)) _ (by with_reducible assumption) _ Try.underlying73 rfl (.slice (some ⟨g, 0, none⟩) j.ns.length j.ns.length) (jr_v j.hlt j.hlp _ _ _ _ _) ?_) | ((with_reducible refine is_load 73 _ rfl ?_); refine wpList_load_cell_g rfl 73 _ rfl _ 23 rfl (jrC (jrOf j (some ⟨g, 0, none⟩) j.ns.length (some ⟨h, 0, none⟩) j.us.length)) _ (by with_reducible assumption) _ Try.underlying73 rfl (.slice (some ⟨h, 0, none⟩) j.us.length j.us.length) (jr_u j.hlt j.hlp _ _ _ _ _) ?_) | ((with_reducible refine is_load 2 _ rfl ?_); refine wpList_load_cell_g rfl 2 _ rfl _ 24 rfl (jrC (jrOf j (some ⟨g, 0, none⟩) j.ns.length (some ⟨h, 0, none⟩) j.us.length)) _ (by with_reducible assumption) _ Try.underlying2 rfl (.int .i64 j.p) (jr_p j.hlt j.hlp _ _ _ _ _) ?_) | ((with_reducible refine is_load 72 _ rfl ?_); refine wpList_load_part rfl 72 _ rfl _ 0 rfl (jrC (jrOf k (some ⟨g', 0, none⟩) k.ns.length (some ⟨h', 0, none⟩) k.us.length)) _ (by with_reducible assumption) 22 (by rw [jrC_size]; omega) _ Try.underlying72 rfl (by kernel_rfl) ((jn k.i k.o k.ts k.ps)) (jr_jn k.hlt k.hlp _ _ _ _ _) ?_) | ((with_reducible refine is_load 73 _ rfl ?_); refine wpList_load_cell_g rfl 73 _ rfl _ 22 rfl (jrC (jrOf k (some ⟨g', 0, none⟩) k.ns.length (some ⟨h', 0, none⟩) k.us.length)) _ (by with_reducible assumption) _ Try.underlying73 rfl (.slice (some ⟨g', 0, none⟩) k.ns.length k.ns.length) (jr_v k.hlt k.hlp _ _ _ _ _) ?_) | ((with_reducible refine is_load 73 _ rfl ?_); refine wpList_load_cell_g rfl 73 _ rfl _ 23 rfl (jrC (jrOf k (some ⟨g', 0, none⟩) k.ns.length (some ⟨h', 0, none⟩) k.us.length)) _ (by with_reducible assumption) _ Try.underlying73 rfl (.slice (some ⟨h', 0, none⟩) k.us.length k.us.length) (jr_u k.hlt k.hlp _ _ _ _ _) ?_) | ((with_reducible refine is_load 2 _ rfl ?_); refine wpList_load_cell_g rfl 2 _ rfl _ 24 rfl (jrC (jrOf k (some ⟨g', 0, none⟩) k.ns.length (some ⟨h', 0, none⟩) k.us.length)) _ (by with_reducible assumption) _ Try.underlying2 rfl (.int .i64 k.p) (jr_p k.hlt k.hlp _ _ _ _ _) ?_))
    go_ret
    exact ⟨by rw [HV.out]; rfl, B1.out⟩
  · cases b2
    · have HV := Lib.hid (show sameJt j k = false from by rw [hv]; rfl)
      clear hv KU
      go_enter Try.func32, Try.ntmps32
      go_wp2_with (first | ((with_reducible refine is_load 72 _ rfl ?_); refine wpList_load_part rfl 72 _ rfl _ 0 rfl (jrC (jrOf j (some ⟨g, 0, none⟩) j.ns.length (some ⟨h, 0, none⟩) j.us.length)) _ (by with_reducible assumption) 22 (by rw [jrC_size]; omega) _ Try.underlying72 rfl (by kernel_rfl) ((jn j.i j.o j.ts j.ps)) (jr_jn j.hlt j.hlp _ _ _ _ _) ?_) | ((with_reducible refine is_load 73 _ rfl ?_); refine wpList_load_cell_g rfl 73 _ rfl _ 22 rfl (jrC (jrOf j (some ⟨g, 0, none⟩) j.ns.length (some ⟨h, 0, none⟩) j.us.length)) _ (by with_reducible assumption) _ Try.underlying73 rfl (.slice (some ⟨g, 0, none⟩) j.ns.length j.ns.length) (jr_v j.hlt j.hlp _ _ _ _ _) ?_) | ((with_reducible refine is_load 73 _ rfl ?_); refine wpList_load_cell_g rfl 73 _ rfl _ 23 rfl (jrC (jrOf j (some ⟨g, 0, none⟩) j.ns.length (some ⟨h, 0, none⟩) j.us.length)) _ (by with_reducible assumption) _ Try.underlying73 rfl (.slice (some ⟨h, 0, none⟩) j.us.length j.us.length) (jr_u j.hlt j.hlp _ _ _ _ _) ?_) | ((with_reducible refine is_load 2 _ rfl ?_); refine wpList_load_cell_g rfl 2 _ rfl _ 24 rfl (jrC (jrOf j (some ⟨g, 0, none⟩) j.ns.length (some ⟨h, 0, none⟩) j.us.length)) _ (by with_reducible assumption) _ Try.underlying2 rfl (.int .i64 j.p) (jr_p j.hlt j.hlp _ _ _ _ _) ?_) | ((with_reducible refine is_load 72 _ rfl ?_); refine wpList_load_part rfl 72 _ rfl _ 0 rfl (jrC (jrOf k (some ⟨g', 0, none⟩) k.ns.length (some ⟨h', 0, none⟩) k.us.length)) _ (by with_reducible assumption) 22 (by rw [jrC_size]; omega) _ Try.underlying72 rfl (by kernel_rfl) ((jn k.i k.o k.ts k.ps)) (jr_jn k.hlt k.hlp _ _ _ _ _) ?_) | ((with_reducible refine is_load 73 _ rfl ?_); refine wpList_load_cell_g rfl 73 _ rfl _ 22 rfl (jrC (jrOf k (some ⟨g', 0, none⟩) k.ns.length (some ⟨h', 0, none⟩) k.us.length)) _ (by with_reducible assumption) _ Try.underlying73 rfl (.slice (some ⟨g', 0, none⟩) k.ns.length k.ns.length) (jr_v k.hlt k.hlp _ _ _ _ _) ?_) | ((with_reducible refine is_load 73 _ rfl ?_); refine wpList_load_cell_g rfl 73 _ rfl _ 23 rfl (jrC (jrOf k (some ⟨g', 0, none⟩) k.ns.length (some ⟨h', 0, none⟩) k.us.length)) _ (by with_reducible assumption) _ Try.underlying73 rfl (.slice (some ⟨h', 0, none⟩) k.us.length k.us.length) (jr_u k.hlt k.hlp _ _ _ _ _) ?_) | ((with_reducible refine is_load 2 _ rfl ?_); refine wpList_load_cell_g rfl 2 _ rfl _ 24 rfl (jrC (jrOf k (some ⟨g', 0, none⟩) k.ns.length (some ⟨h', 0, none⟩) k.us.length)) _ (by with_reducible assumption) _ Try.underlying2 rfl (.int .i64 k.p) (jr_p k.hlt k.hlp _ _ _ _ _) ?_))
      refine (KJ _).mono ?_
      rintro e w1 ⟨rfl, hb1⟩
      have A1 := A0.step hb1
      have E1 := E0.step hb1
      have B1 := Lib.hid (bthen B0.out hb1)
      clear A0 E0 B0 hb1
      go_wp2_with (first | ((with_reducible refine is_load 72 _ rfl ?_); refine wpList_load_part rfl 72 _ rfl _ 0 rfl (jrC (jrOf j (some ⟨g, 0, none⟩) j.ns.length (some ⟨h, 0, none⟩) j.us.length)) _ (by with_reducible assumption) 22 (by rw [jrC_size]; omega) _ Try.underlying72 rfl (by kernel_rfl) ((jn j.i j.o j.ts j.ps)) (jr_jn j.hlt j.hlp _ _ _ _ _) ?_) | ((with_reducible refine is_load 73 _ rfl ?_); refine wpList_load_cell_g rfl 73 _ rfl _ 22 rfl (jrC (jrOf j (some ⟨g, 0, none⟩) j.ns.length (some ⟨h, 0, none⟩) j.us.length)) _ (by with_reducible assumption) _ Try.underlying73 rfl (.slice (some ⟨g, 0, none⟩) j.ns.length j.ns.length) (jr_v j.hlt j.hlp _ _ _ _ _) ?_) | ((with_reducible refine is_load 73 _ rfl ?_); refine wpList_load_cell_g rfl 73 _ rfl _ 23 rfl (jrC (jrOf j (some ⟨g, 0, none⟩) j.ns.length (some ⟨h, 0, none⟩) j.us.length)) _ (by with_reducible assumption) _ Try.underlying73 rfl (.slice (some ⟨h, 0, none⟩) j.us.length j.us.length) (jr_u j.hlt j.hlp _ _ _ _ _) ?_) | ((with_reducible refine is_load 2 _ rfl ?_); refine wpList_load_cell_g rfl 2 _ rfl _ 24 rfl (jrC (jrOf j (some ⟨g, 0, none⟩) j.ns.length (some ⟨h, 0, none⟩) j.us.length)) _ (by with_reducible assumption) _ Try.underlying2 rfl (.int .i64 j.p) (jr_p j.hlt j.hlp _ _ _ _ _) ?_) | ((with_reducible refine is_load 72 _ rfl ?_); refine wpList_load_part rfl 72 _ rfl _ 0 rfl (jrC (jrOf k (some ⟨g', 0, none⟩) k.ns.length (some ⟨h', 0, none⟩) k.us.length)) _ (by with_reducible assumption) 22 (by rw [jrC_size]; omega) _ Try.underlying72 rfl (by kernel_rfl) ((jn k.i k.o k.ts k.ps)) (jr_jn k.hlt k.hlp _ _ _ _ _) ?_) | ((with_reducible refine is_load 73 _ rfl ?_); refine wpList_load_cell_g rfl 73 _ rfl _ 22 rfl (jrC (jrOf k (some ⟨g', 0, none⟩) k.ns.length (some ⟨h', 0, none⟩) k.us.length)) _ (by with_reducible assumption) _ Try.underlying73 rfl (.slice (some ⟨g', 0, none⟩) k.ns.length k.ns.length) (jr_v k.hlt k.hlp _ _ _ _ _) ?_) | ((with_reducible refine is_load 73 _ rfl ?_); refine wpList_load_cell_g rfl 73 _ rfl _ 23 rfl (jrC (jrOf k (some ⟨g', 0, none⟩) k.ns.length (some ⟨h', 0, none⟩) k.us.length)) _ (by with_reducible assumption) _ Try.underlying73 rfl (.slice (some ⟨h', 0, none⟩) k.us.length k.us.length) (jr_u k.hlt k.hlp _ _ _ _ _) ?_) | ((with_reducible refine is_load 2 _ rfl ?_); refine wpList_load_cell_g rfl 2 _ rfl _ 24 rfl (jrC (jrOf k (some ⟨g', 0, none⟩) k.ns.length (some ⟨h', 0, none⟩) k.us.length)) _ (by with_reducible assumption) _ Try.underlying2 rfl (.int .i64 k.p) (jr_p k.hlt k.hlp _ _ _ _ _) ?_))
      refine (KN _ B1.out).mono ?_
      rintro e w2 ⟨rfl, hb2⟩
      have A2 := A1.step hb2
      have E2 := E1.step hb2
      have B2 := Lib.hid (bthen B1.out hb2)
      clear A1 E1 B1 hb2
      go_wp2_with (first | ((with_reducible refine is_load 72 _ rfl ?_); refine wpList_load_part rfl 72 _ rfl _ 0 rfl (jrC (jrOf j (some ⟨g, 0, none⟩) j.ns.length (some ⟨h, 0, none⟩) j.us.length)) _ (by with_reducible assumption) 22 (by rw [jrC_size]; omega) _ Try.underlying72 rfl (by kernel_rfl) ((jn j.i j.o j.ts j.ps)) (jr_jn j.hlt j.hlp _ _ _ _ _) ?_) | ((with_reducible refine is_load 73 _ rfl ?_); refine wpList_load_cell_g rfl 73 _ rfl _ 22 rfl (jrC (jrOf j (some ⟨g, 0, none⟩) j.ns.length (some ⟨h, 0, none⟩) j.us.length)) _ (by with_reducible assumption) _ Try.underlying73 rfl (.slice (some ⟨g, 0, none⟩) j.ns.length j.ns.length) (jr_v j.hlt j.hlp _ _ _ _ _) ?_) | ((with_reducible refine is_load 73 _ rfl ?_); refine wpList_load_cell_g rfl 73 _ rfl _ 23 rfl (jrC (jrOf j (some ⟨g, 0, none⟩) j.ns.length (some ⟨h, 0, none⟩) j.us.length)) _ (by with_reducible assumption) _ Try.underlying73 rfl (.slice (some ⟨h, 0, none⟩) j.us.length j.us.length) (jr_u j.hlt j.hlp _ _ _ _ _) ?_) | ((with_reducible refine is_load 2 _ rfl ?_); refine wpList_load_cell_g rfl 2 _ rfl _ 24 rfl (jrC (jrOf j (some ⟨g, 0, none⟩) j.ns.length (some ⟨h, 0, none⟩) j.us.length)) _ (by with_reducible assumption) _ Try.underlying2 rfl (.int .i64 j.p) (jr_p j.hlt j.hlp _ _ _ _ _) ?_) | ((with_reducible refine is_load 72 _ rfl ?_); refine wpList_load_part rfl 72 _ rfl _ 0 rfl (jrC (jrOf k (some ⟨g', 0, none⟩) k.ns.length (some ⟨h', 0, none⟩) k.us.length)) _ (by with_reducible assumption) 22 (by rw [jrC_size]; omega) _ Try.underlying72 rfl (by kernel_rfl) ((jn k.i k.o k.ts k.ps)) (jr_jn k.hlt k.hlp _ _ _ _ _) ?_) | ((with_reducible refine is_load 73 _ rfl ?_); refine wpList_load_cell_g rfl 73 _ rfl _ 22 rfl (jrC (jrOf k (some ⟨g', 0, none⟩) k.ns.length (some ⟨h', 0, none⟩) k.us.length)) _ (by with_reducible assumption) _ Try.underlying73 rfl (.slice (some ⟨g', 0, none⟩) k.ns.length k.ns.length) (jr_v k.hlt k.hlp _ _ _ _ _) ?_) | ((with_reducible refine is_load 73 _ rfl ?_); refine wpList_load_cell_g rfl 73 _ rfl _ 23 rfl (jrC (jrOf k (some ⟨g', 0, none⟩) k.ns.length (some ⟨h', 0, none⟩) k.us.length)) _ (by with_reducible assumption) _ Try.underlying73 rfl (.slice (some ⟨h', 0, none⟩) k.us.length k.us.length) (jr_u k.hlt k.hlp _ _ _ _ _) ?_) | ((with_reducible refine is_load 2 _ rfl ?_); refine wpList_load_cell_g rfl 2 _ rfl _ 24 rfl (jrC (jrOf k (some ⟨g', 0, none⟩) k.ns.length (some ⟨h', 0, none⟩) k.us.length)) _ (by with_reducible assumption) _ Try.underlying2 rfl (.int .i64 k.p) (jr_p k.hlt k.hlp _ _ _ _ _) ?_))
      go_ret
      exact ⟨by rw [HV.out]; rfl, B2.out⟩
    · cases b3
      · have HV := Lib.hid (show sameJt j k = false from by rw [hv]; rfl)
        clear hv
        go_enter Try.func32, Try.ntmps32
        go_wp2_with (first | ((with_reducible refine is_load 72 _ rfl ?_); refine wpList_load_part rfl 72 _ rfl _ 0 rfl (jrC (jrOf j (some ⟨g, 0, none⟩) j.ns.length (some ⟨h, 0, none⟩) j.us.length)) _ (by with_reducible assumption) 22 (by rw [jrC_size]; omega) _ Try.underlying72 rfl (by kernel_rfl) ((jn j.i j.o j.ts j.ps)) (jr_jn j.hlt j.hlp _ _ _ _ _) ?_) | ((with_reducible refine is_load 73 _ rfl ?_); refine wpList_load_cell_g rfl 73 _ rfl _ 22 rfl (jrC (jrOf j (some ⟨g, 0, none⟩) j.ns.length (some ⟨h, 0, none⟩) j.us.length)) _ (by with_reducible assumption) _ Try.underlying73 rfl (.slice (some ⟨g, 0, none⟩) j.ns.length j.ns.length) (jr_v j.hlt j.hlp _ _ _ _ _) ?_) | ((with_reducible refine is_load 73 _ rfl ?_); refine wpList_load_cell_g rfl 73 _ rfl _ 23 rfl (jrC (jrOf j (some ⟨g, 0, none⟩) j.ns.length (some ⟨h, 0, none⟩) j.us.length)) _ (by with_reducible assumption) _ Try.underlying73 rfl (.slice (some ⟨h, 0, none⟩) j.us.length j.us.length) (jr_u j.hlt j.hlp _ _ _ _ _) ?_) | ((with_reducible refine is_load 2 _ rfl ?_); refine wpList_load_cell_g rfl 2 _ rfl _ 24 rfl (jrC (jrOf j (some ⟨g, 0, none⟩) j.ns.length (some ⟨h, 0, none⟩) j.us.length)) _ (by with_reducible assumption) _ Try.underlying2 rfl (.int .i64 j.p) (jr_p j.hlt j.hlp _ _ _ _ _) ?_) | ((with_reducible refine is_load 72 _ rfl ?_); refine wpList_load_part rfl 72 _ rfl _ 0 rfl (jrC (jrOf k (some ⟨g', 0, none⟩) k.ns.length (some ⟨h', 0, none⟩) k.us.length)) _ (by with_reducible assumption) 22 (by rw [jrC_size]; omega) _ Try.underlying72 rfl (by kernel_rfl) ((jn k.i k.o k.ts k.ps)) (jr_jn k.hlt k.hlp _ _ _ _ _) ?_) | ((with_reducible refine is_load 73 _ rfl ?_); refine wpList_load_cell_g rfl 73 _ rfl _ 22 rfl (jrC (jrOf k (some ⟨g', 0, none⟩) k.ns.length (some ⟨h', 0, none⟩) k.us.length)) _ (by with_reducible assumption) _ Try.underlying73 rfl (.slice (some ⟨g', 0, none⟩) k.ns.length k.ns.length) (jr_v k.hlt k.hlp _ _ _ _ _) ?_) | ((with_reducible refine is_load 73 _ rfl ?_); refine wpList_load_cell_g rfl 73 _ rfl _ 23 rfl (jrC (jrOf k (some ⟨g', 0, none⟩) k.ns.length (some ⟨h', 0, none⟩) k.us.length)) _ (by with_reducible assumption) _ Try.underlying73 rfl (.slice (some ⟨h', 0, none⟩) k.us.length k.us.length) (jr_u k.hlt k.hlp _ _ _ _ _) ?_) | ((with_reducible refine is_load 2 _ rfl ?_); refine wpList_load_cell_g rfl 2 _ rfl _ 24 rfl (jrC (jrOf k (some ⟨g', 0, none⟩) k.ns.length (some ⟨h', 0, none⟩) k.us.length)) _ (by with_reducible assumption) _ Try.underlying2 rfl (.int .i64 k.p) (jr_p k.hlt k.hlp _ _ _ _ _) ?_))
        refine (KJ _).mono ?_
        rintro e w1 ⟨rfl, hb1⟩
        have A1 := A0.step hb1
        have E1 := E0.step hb1
        have B1 := Lib.hid (bthen B0.out hb1)
        clear A0 E0 B0 hb1
        go_wp2_with (first | ((with_reducible refine is_load 72 _ rfl ?_); refine wpList_load_part rfl 72 _ rfl _ 0 rfl (jrC (jrOf j (some ⟨g, 0, none⟩) j.ns.length (some ⟨h, 0, none⟩) j.us.length)) _ (by with_reducible assumption) 22 (by rw [jrC_size]; omega) _ Try.underlying72 rfl (by kernel_rfl) ((jn j.i j.o j.ts j.ps)) (jr_jn j.hlt j.hlp _ _ _ _ _) ?_) | ((with_reducible refine is_load 73 _ rfl ?_); refine wpList_load_cell_g rfl 73 _ rfl _ 22 rfl (jrC (jrOf j (some ⟨g, 0, none⟩) j.ns.length (some ⟨h, 0, none⟩) j.us.length)) _ (by with_reducible assumption) _ Try.underlying73 rfl (.slice (some ⟨g, 0, none⟩) j.ns.length j.ns.length) (jr_v j.hlt j.hlp _ _ _ _ _) ?_) | ((with_reducible refine is_load 73 _ rfl ?_); refine wpList_load_cell_g rfl 73 _ rfl _ 23 rfl (jrC (jrOf j (some ⟨g, 0, none⟩) j.ns.length (some ⟨h, 0, none⟩) j.us.length)) _ (by with_reducible assumption) _ Try.underlying73 rfl (.slice (some ⟨h, 0, none⟩) j.us.length j.us.length) (jr_u j.hlt j.hlp _ _ _ _ _) ?_) | ((with_reducible refine is_load 2 _ rfl ?_); refine wpList_load_cell_g rfl 2 _ rfl _ 24 rfl (jrC (jrOf j (some ⟨g, 0, none⟩) j.ns.length (some ⟨h, 0, none⟩) j.us.length)) _ (by with_reducible assumption) _ Try.underlying2 rfl (.int .i64 j.p) (jr_p j.hlt j.hlp _ _ _ _ _) ?_) | ((with_reducible refine is_load 72 _ rfl ?_); refine wpList_load_part rfl 72 _ rfl _ 0 rfl (jrC (jrOf k (some ⟨g', 0, none⟩) k.ns.length (some ⟨h', 0, none⟩) k.us.length)) _ (by with_reducible assumption) 22 (by rw [jrC_size]; omega) _ Try.underlying72 rfl (by kernel_rfl) ((jn k.i k.o k.ts k.ps)) (jr_jn k.hlt k.hlp _ _ _ _ _) ?_) | ((with_reducible refine is_load 73 _ rfl ?_); refine wpList_load_cell_g rfl 73 _ rfl _ 22 rfl (jrC (jrOf k (some ⟨g', 0, none⟩) k.ns.length (some ⟨h', 0, none⟩) k.us.length)) _ (by with_reducible assumption) _ Try.underlying73 rfl (.slice (some ⟨g', 0, none⟩) k.ns.length k.ns.length) (jr_v k.hlt k.hlp _ _ _ _ _) ?_) | ((with_reducible refine is_load 73 _ rfl ?_); refine wpList_load_cell_g rfl 73 _ rfl _ 23 rfl (jrC (jrOf k (some ⟨g', 0, none⟩) k.ns.length (some ⟨h', 0, none⟩) k.us.length)) _ (by with_reducible assumption) _ Try.underlying73 rfl (.slice (some ⟨h', 0, none⟩) k.us.length k.us.length) (jr_u k.hlt k.hlp _ _ _ _ _) ?_) | ((with_reducible refine is_load 2 _ rfl ?_); refine wpList_load_cell_g rfl 2 _ rfl _ 24 rfl (jrC (jrOf k (some ⟨g', 0, none⟩) k.ns.length (some ⟨h', 0, none⟩) k.us.length)) _ (by with_reducible assumption) _ Try.underlying2 rfl (.int .i64 k.p) (jr_p k.hlt k.hlp _ _ _ _ _) ?_))
        refine (KN _ B1.out).mono ?_
        rintro e w2 ⟨rfl, hb2⟩
        have A2 := A1.step hb2
        have E2 := E1.step hb2
        have B2 := Lib.hid (bthen B1.out hb2)
        clear A1 E1 B1 hb2
        go_wp2_with (first | ((with_reducible refine is_load 72 _ rfl ?_); refine wpList_load_part rfl 72 _ rfl _ 0 rfl (jrC (jrOf j (some ⟨g, 0, none⟩) j.ns.length (some ⟨h, 0, none⟩) j.us.length)) _ (by with_reducible assumption) 22 (by rw [jrC_size]; omega) _ Try.underlying72 rfl (by kernel_rfl) ((jn j.i j.o j.ts j.ps)) (jr_jn j.hlt j.hlp _ _ _ _ _) ?_) | ((with_reducible refine is_load 73 _ rfl ?_); refine wpList_load_cell_g rfl 73 _ rfl _ 22 rfl (jrC (jrOf j (some ⟨g, 0, none⟩) j.ns.length (some ⟨h, 0, none⟩) j.us.length)) _ (by with_reducible assumption) _ Try.underlying73 rfl (.slice (some ⟨g, 0, none⟩) j.ns.length j.ns.length) (jr_v j.hlt j.hlp _ _ _ _ _) ?_) | ((with_reducible refine is_load 73 _ rfl ?_); refine wpList_load_cell_g rfl 73 _ rfl _ 23 rfl (jrC (jrOf j (some ⟨g, 0, none⟩) j.ns.length (some ⟨h, 0, none⟩) j.us.length)) _ (by with_reducible assumption) _ Try.underlying73 rfl (.slice (some ⟨h, 0, none⟩) j.us.length j.us.length) (jr_u j.hlt j.hlp _ _ _ _ _) ?_) | ((with_reducible refine is_load 2 _ rfl ?_); refine wpList_load_cell_g rfl 2 _ rfl _ 24 rfl (jrC (jrOf j (some ⟨g, 0, none⟩) j.ns.length (some ⟨h, 0, none⟩) j.us.length)) _ (by with_reducible assumption) _ Try.underlying2 rfl (.int .i64 j.p) (jr_p j.hlt j.hlp _ _ _ _ _) ?_) | ((with_reducible refine is_load 72 _ rfl ?_); refine wpList_load_part rfl 72 _ rfl _ 0 rfl (jrC (jrOf k (some ⟨g', 0, none⟩) k.ns.length (some ⟨h', 0, none⟩) k.us.length)) _ (by with_reducible assumption) 22 (by rw [jrC_size]; omega) _ Try.underlying72 rfl (by kernel_rfl) ((jn k.i k.o k.ts k.ps)) (jr_jn k.hlt k.hlp _ _ _ _ _) ?_) | ((with_reducible refine is_load 73 _ rfl ?_); refine wpList_load_cell_g rfl 73 _ rfl _ 22 rfl (jrC (jrOf k (some ⟨g', 0, none⟩) k.ns.length (some ⟨h', 0, none⟩) k.us.length)) _ (by with_reducible assumption) _ Try.underlying73 rfl (.slice (some ⟨g', 0, none⟩) k.ns.length k.ns.length) (jr_v k.hlt k.hlp _ _ _ _ _) ?_) | ((with_reducible refine is_load 73 _ rfl ?_); refine wpList_load_cell_g rfl 73 _ rfl _ 23 rfl (jrC (jrOf k (some ⟨g', 0, none⟩) k.ns.length (some ⟨h', 0, none⟩) k.us.length)) _ (by with_reducible assumption) _ Try.underlying73 rfl (.slice (some ⟨h', 0, none⟩) k.us.length k.us.length) (jr_u k.hlt k.hlp _ _ _ _ _) ?_) | ((with_reducible refine is_load 2 _ rfl ?_); refine wpList_load_cell_g rfl 2 _ rfl _ 24 rfl (jrC (jrOf k (some ⟨g', 0, none⟩) k.ns.length (some ⟨h', 0, none⟩) k.us.length)) _ (by with_reducible assumption) _ Try.underlying2 rfl (.int .i64 k.p) (jr_p k.hlt k.hlp _ _ _ _ _) ?_))
        refine (KU _ B2.out).mono ?_
        rintro e w3 ⟨rfl, hb3⟩
        have A3 := A2.step hb3
        have E3 := E2.step hb3
        have B3 := Lib.hid (bthen B2.out hb3)
        clear A2 E2 B2 hb3
        go_wp2_with (first | ((with_reducible refine is_load 72 _ rfl ?_); refine wpList_load_part rfl 72 _ rfl _ 0 rfl (jrC (jrOf j (some ⟨g, 0, none⟩) j.ns.length (some ⟨h, 0, none⟩) j.us.length)) _ (by with_reducible assumption) 22 (by rw [jrC_size]; omega) _ Try.underlying72 rfl (by kernel_rfl) ((jn j.i j.o j.ts j.ps)) (jr_jn j.hlt j.hlp _ _ _ _ _) ?_) | ((with_reducible refine is_load 73 _ rfl ?_); refine wpList_load_cell_g rfl 73 _ rfl _ 22 rfl (jrC (jrOf j (some ⟨g, 0, none⟩) j.ns.length (some ⟨h, 0, none⟩) j.us.length)) _ (by with_reducible assumption) _ Try.underlying73 rfl (.slice (some ⟨g, 0, none⟩) j.ns.length j.ns.length) (jr_v j.hlt j.hlp _ _ _ _ _) ?_) | ((with_reducible refine is_load 73 _ rfl ?_); refine wpList_load_cell_g rfl 73 _ rfl _ 23 rfl (jrC (jrOf j (some ⟨g, 0, none⟩) j.ns.length (some ⟨h, 0, none⟩) j.us.length)) _ (by with_reducible assumption) _ Try.underlying73 rfl (.slice (some ⟨h, 0, none⟩) j.us.length j.us.length) (jr_u j.hlt j.hlp _ _ _ _ _) ?_) | ((with_reducible refine is_load 2 _ rfl ?_); refine wpList_load_cell_g rfl 2 _ rfl _ 24 rfl (jrC (jrOf j (some ⟨g, 0, none⟩) j.ns.length (some ⟨h, 0, none⟩) j.us.length)) _ (by with_reducible assumption) _ Try.underlying2 rfl (.int .i64 j.p) (jr_p j.hlt j.hlp _ _ _ _ _) ?_) | ((with_reducible refine is_load 72 _ rfl ?_); refine wpList_load_part rfl 72 _ rfl _ 0 rfl (jrC (jrOf k (some ⟨g', 0, none⟩) k.ns.length (some ⟨h', 0, none⟩) k.us.length)) _ (by with_reducible assumption) 22 (by rw [jrC_size]; omega) _ Try.underlying72 rfl (by kernel_rfl) ((jn k.i k.o k.ts k.ps)) (jr_jn k.hlt k.hlp _ _ _ _ _) ?_) | ((with_reducible refine is_load 73 _ rfl ?_); refine wpList_load_cell_g rfl 73 _ rfl _ 22 rfl (jrC (jrOf k (some ⟨g', 0, none⟩) k.ns.length (some ⟨h', 0, none⟩) k.us.length)) _ (by with_reducible assumption) _ Try.underlying73 rfl (.slice (some ⟨g', 0, none⟩) k.ns.length k.ns.length) (jr_v k.hlt k.hlp _ _ _ _ _) ?_) | ((with_reducible refine is_load 73 _ rfl ?_); refine wpList_load_cell_g rfl 73 _ rfl _ 23 rfl (jrC (jrOf k (some ⟨g', 0, none⟩) k.ns.length (some ⟨h', 0, none⟩) k.us.length)) _ (by with_reducible assumption) _ Try.underlying73 rfl (.slice (some ⟨h', 0, none⟩) k.us.length k.us.length) (jr_u k.hlt k.hlp _ _ _ _ _) ?_) | ((with_reducible refine is_load 2 _ rfl ?_); refine wpList_load_cell_g rfl 2 _ rfl _ 24 rfl (jrC (jrOf k (some ⟨g', 0, none⟩) k.ns.length (some ⟨h', 0, none⟩) k.us.length)) _ (by with_reducible assumption) _ Try.underlying2 rfl (.int .i64 k.p) (jr_p k.hlt k.hlp _ _ _ _ _) ?_))
        go_ret
        exact ⟨by rw [HV.out]; rfl, B3.out⟩
      · have HV := Lib.hid (show sameJt j k = (j.p == k.p) from by rw [hv]; by_cases c : j.p = k.p <;> simp [c])
        clear hv
        go_enter Try.func32, Try.ntmps32
        go_wp2_with (first | ((with_reducible refine is_load 72 _ rfl ?_); refine wpList_load_part rfl 72 _ rfl _ 0 rfl (jrC (jrOf j (some ⟨g, 0, none⟩) j.ns.length (some ⟨h, 0, none⟩) j.us.length)) _ (by with_reducible assumption) 22 (by rw [jrC_size]; omega) _ Try.underlying72 rfl (by kernel_rfl) ((jn j.i j.o j.ts j.ps)) (jr_jn j.hlt j.hlp _ _ _ _ _) ?_) | ((with_reducible refine is_load 73 _ rfl ?_); refine wpList_load_cell_g rfl 73 _ rfl _ 22 rfl (jrC (jrOf j (some ⟨g, 0, none⟩) j.ns.length (some ⟨h, 0, none⟩) j.us.length)) _ (by with_reducible assumption) _ Try.underlying73 rfl (.slice (some ⟨g, 0, none⟩) j.ns.length j.ns.length) (jr_v j.hlt j.hlp _ _ _ _ _) ?_) | ((with_reducible refine is_load 73 _ rfl ?_); refine wpList_load_cell_g rfl 73 _ rfl _ 23 rfl (jrC (jrOf j (some ⟨g, 0, none⟩) j.ns.length (some ⟨h, 0, none⟩) j.us.length)) _ (by with_reducible assumption) _ Try.underlying73 rfl (.slice (some ⟨h, 0, none⟩) j.us.length j.us.length) (jr_u j.hlt j.hlp _ _ _ _ _) ?_) | ((with_reducible refine is_load 2 _ rfl ?_); refine wpList_load_cell_g rfl 2 _ rfl _ 24 rfl (jrC (jrOf j (some ⟨g, 0, none⟩) j.ns.length (some ⟨h, 0, none⟩) j.us.length)) _ (by with_reducible assumption) _ Try.underlying2 rfl (.int .i64 j.p) (jr_p j.hlt j.hlp _ _ _ _ _) ?_) | ((with_reducible refine is_load 72 _ rfl ?_); refine wpList_load_part rfl 72 _ rfl _ 0 rfl (jrC (jrOf k (some ⟨g', 0, none⟩) k.ns.length (some ⟨h', 0, none⟩) k.us.length)) _ (by with_reducible assumption) 22 (by rw [jrC_size]; omega) _ Try.underlying72 rfl (by kernel_rfl) ((jn k.i k.o k.ts k.ps)) (jr_jn k.hlt k.hlp _ _ _ _ _) ?_) | ((with_reducible refine is_load 73 _ rfl ?_); refine wpList_load_cell_g rfl 73 _ rfl _ 22 rfl (jrC (jrOf k (some ⟨g', 0, none⟩) k.ns.length (some ⟨h', 0, none⟩) k.us.length)) _ (by with_reducible assumption) _ Try.underlying73 rfl (.slice (some ⟨g', 0, none⟩) k.ns.length k.ns.length) (jr_v k.hlt k.hlp _ _ _ _ _) ?_) | ((with_reducible refine is_load 73 _ rfl ?_); refine wpList_load_cell_g rfl 73 _ rfl _ 23 rfl (jrC (jrOf k (some ⟨g', 0, none⟩) k.ns.length (some ⟨h', 0, none⟩) k.us.length)) _ (by with_reducible assumption) _ Try.underlying73 rfl (.slice (some ⟨h', 0, none⟩) k.us.length k.us.length) (jr_u k.hlt k.hlp _ _ _ _ _) ?_) | ((with_reducible refine is_load 2 _ rfl ?_); refine wpList_load_cell_g rfl 2 _ rfl _ 24 rfl (jrC (jrOf k (some ⟨g', 0, none⟩) k.ns.length (some ⟨h', 0, none⟩) k.us.length)) _ (by with_reducible assumption) _ Try.underlying2 rfl (.int .i64 k.p) (jr_p k.hlt k.hlp _ _ _ _ _) ?_))
        refine (KJ _).mono ?_
        rintro e w1 ⟨rfl, hb1⟩
        have A1 := A0.step hb1
        have E1 := E0.step hb1
        have B1 := Lib.hid (bthen B0.out hb1)
        clear A0 E0 B0 hb1
        go_wp2_with (first | ((with_reducible refine is_load 72 _ rfl ?_); refine wpList_load_part rfl 72 _ rfl _ 0 rfl (jrC (jrOf j (some ⟨g, 0, none⟩) j.ns.length (some ⟨h, 0, none⟩) j.us.length)) _ (by with_reducible assumption) 22 (by rw [jrC_size]; omega) _ Try.underlying72 rfl (by kernel_rfl) ((jn j.i j.o j.ts j.ps)) (jr_jn j.hlt j.hlp _ _ _ _ _) ?_) | ((with_reducible refine is_load 73 _ rfl ?_); refine wpList_load_cell_g rfl 73 _ rfl _ 22 rfl (jrC (jrOf j (some ⟨g, 0, none⟩) j.ns.length (some ⟨h, 0, none⟩) j.us.length)) _ (by with_reducible assumption) _ Try.underlying73 rfl (.slice (some ⟨g, 0, none⟩) j.ns.length j.ns.length) (jr_v j.hlt j.hlp _ _ _ _ _) ?_) | ((with_reducible refine is_load 73 _ rfl ?_); refine wpList_load_cell_g rfl 73 _ rfl _ 23 rfl (jrC (jrOf j (some ⟨g, 0, none⟩) j.ns.length (some ⟨h, 0, none⟩) j.us.length)) _ (by with_reducible assumption) _ Try.underlying73 rfl (.slice (some ⟨h, 0, none⟩) j.us.length j.us.length) (jr_u j.hlt j.hlp _ _ _ _ _) ?_) | ((with_reducible refine is_load 2 _ rfl ?_); refine wpList_load_cell_g rfl 2 _ rfl _ 24 rfl (jrC (jrOf j (some ⟨g, 0, none⟩) j.ns.length (some ⟨h, 0, none⟩) j.us.length)) _ (by with_reducible assumption) _ Try.underlying2 rfl (.int .i64 j.p) (jr_p j.hlt j.hlp _ _ _ _ _) ?_) | ((with_reducible refine is_load 72 _ rfl ?_); refine wpList_load_part rfl 72 _ rfl _ 0 rfl (jrC (jrOf k (some ⟨g', 0, none⟩) k.ns.length (some ⟨h', 0, none⟩) k.us.length)) _ (by with_reducible assumption) 22 (by rw [jrC_size]; omega) _ Try.underlying72 rfl (by kernel_rfl) ((jn k.i k.o k.ts k.ps)) (jr_jn k.hlt k.hlp _ _ _ _ _) ?_) | ((with_reducible refine is_load 73 _ rfl ?_); refine wpList_load_cell_g rfl 73 _ rfl _ 22 rfl (jrC (jrOf k (some ⟨g', 0, none⟩) k.ns.length (some ⟨h', 0, none⟩) k.us.length)) _ (by with_reducible assumption) _ Try.underlying73 rfl (.slice (some ⟨g', 0, none⟩) k.ns.length k.ns.length) (jr_v k.hlt k.hlp _ _ _ _ _) ?_) | ((with_reducible refine is_load 73 _ rfl ?_); refine wpList_load_cell_g rfl 73 _ rfl _ 23 rfl (jrC (jrOf k (some ⟨g', 0, none⟩) k.ns.length (some ⟨h', 0, none⟩) k.us.length)) _ (by with_reducible assumption) _ Try.underlying73 rfl (.slice (some ⟨h', 0, none⟩) k.us.length k.us.length) (jr_u k.hlt k.hlp _ _ _ _ _) ?_) | ((with_reducible refine is_load 2 _ rfl ?_); refine wpList_load_cell_g rfl 2 _ rfl _ 24 rfl (jrC (jrOf k (some ⟨g', 0, none⟩) k.ns.length (some ⟨h', 0, none⟩) k.us.length)) _ (by with_reducible assumption) _ Try.underlying2 rfl (.int .i64 k.p) (jr_p k.hlt k.hlp _ _ _ _ _) ?_))
        refine (KN _ B1.out).mono ?_
        rintro e w2 ⟨rfl, hb2⟩
        have A2 := A1.step hb2
        have E2 := E1.step hb2
        have B2 := Lib.hid (bthen B1.out hb2)
        clear A1 E1 B1 hb2
        go_wp2_with (first | ((with_reducible refine is_load 72 _ rfl ?_); refine wpList_load_part rfl 72 _ rfl _ 0 rfl (jrC (jrOf j (some ⟨g, 0, none⟩) j.ns.length (some ⟨h, 0, none⟩) j.us.length)) _ (by with_reducible assumption) 22 (by rw [jrC_size]; omega) _ Try.underlying72 rfl (by kernel_rfl) ((jn j.i j.o j.ts j.ps)) (jr_jn j.hlt j.hlp _ _ _ _ _) ?_) | ((with_reducible refine is_load 73 _ rfl ?_); refine wpList_load_cell_g rfl 73 _ rfl _ 22 rfl (jrC (jrOf j (some ⟨g, 0, none⟩) j.ns.length (some ⟨h, 0, none⟩) j.us.length)) _ (by with_reducible assumption) _ Try.underlying73 rfl (.slice (some ⟨g, 0, none⟩) j.ns.length j.ns.length) (jr_v j.hlt j.hlp _ _ _ _ _) ?_) | ((with_reducible refine is_load 73 _ rfl ?_); refine wpList_load_cell_g rfl 73 _ rfl _ 23 rfl (jrC (jrOf j (some ⟨g, 0, none⟩) j.ns.length (some ⟨h, 0, none⟩) j.us.length)) _ (by with_reducible assumption) _ Try.underlying73 rfl (.slice (some ⟨h, 0, none⟩) j.us.length j.us.length) (jr_u j.hlt j.hlp _ _ _ _ _) ?_) | ((with_reducible refine is_load 2 _ rfl ?_); refine wpList_load_cell_g rfl 2 _ rfl _ 24 rfl (jrC (jrOf j (some ⟨g, 0, none⟩) j.ns.length (some ⟨h, 0, none⟩) j.us.length)) _ (by with_reducible assumption) _ Try.underlying2 rfl (.int .i64 j.p) (jr_p j.hlt j.hlp _ _ _ _ _) ?_) | ((with_reducible refine is_load 72 _ rfl ?_); refine wpList_load_part rfl 72 _ rfl _ 0 rfl (jrC (jrOf k (some ⟨g', 0, none⟩) k.ns.length (some ⟨h', 0, none⟩) k.us.length)) _ (by with_reducible assumption) 22 (by rw [jrC_size]; omega) _ Try.underlying72 rfl (by kernel_rfl) ((jn k.i k.o k.ts k.ps)) (jr_jn k.hlt k.hlp _ _ _ _ _) ?_) | ((with_reducible refine is_load 73 _ rfl ?_); refine wpList_load_cell_g rfl 73 _ rfl _ 22 rfl (jrC (jrOf k (some ⟨g', 0, none⟩) k.ns.length (some ⟨h', 0, none⟩) k.us.length)) _ (by with_reducible assumption) _ Try.underlying73 rfl (.slice (some ⟨g', 0, none⟩) k.ns.length k.ns.length) (jr_v k.hlt k.hlp _ _ _ _ _) ?_) | ((with_reducible refine is_load 73 _ rfl ?_); refine wpList_load_cell_g rfl 73 _ rfl _ 23 rfl (jrC (jrOf k (some ⟨g', 0, none⟩) k.ns.length (some ⟨h', 0, none⟩) k.us.length)) _ (by with_reducible assumption) _ Try.underlying73 rfl (.slice (some ⟨h', 0, none⟩) k.us.length k.us.length) (jr_u k.hlt k.hlp _ _ _ _ _) ?_) | ((with_reducible refine is_load 2 _ rfl ?_); refine wpList_load_cell_g rfl 2 _ rfl _ 24 rfl (jrC (jrOf k (some ⟨g', 0, none⟩) k.ns.length (some ⟨h', 0, none⟩) k.us.length)) _ (by with_reducible assumption) _ Try.underlying2 rfl (.int .i64 k.p) (jr_p k.hlt k.hlp _ _ _ _ _) ?_))
        refine (KU _ B2.out).mono ?_
        rintro e w3 ⟨rfl, hb3⟩
        have A3 := A2.step hb3
        have E3 := E2.step hb3
        have B3 := Lib.hid (bthen B2.out hb3)
        clear A2 E2 B2 hb3
        go_wp2_with (first | ((with_reducible refine is_load 72 _ rfl ?_); refine wpList_load_part rfl 72 _ rfl _ 0 rfl (jrC (jrOf j (some ⟨g, 0, none⟩) j.ns.length (some ⟨h, 0, none⟩) j.us.length)) _ (by with_reducible assumption) 22 (by rw [jrC_size]; omega) _ Try.underlying72 rfl (by kernel_rfl) ((jn j.i j.o j.ts j.ps)) (jr_jn j.hlt j.hlp _ _ _ _ _) ?_) | ((with_reducible refine is_load 73 _ rfl ?_); refine wpList_load_cell_g rfl 73 _ rfl _ 22 rfl (jrC (jrOf j (some ⟨g, 0, none⟩) j.ns.length (some ⟨h, 0, none⟩) j.us.length)) _ (by with_reducible assumption) _ Try.underlying73 rfl (.slice (some ⟨g, 0, none⟩) j.ns.length j.ns.length) (jr_v j.hlt j.hlp _ _ _ _ _) ?_) | ((with_reducible refine is_load 73 _ rfl ?_); refine wpList_load_cell_g rfl 73 _ rfl _ 23 rfl (jrC (jrOf j (some ⟨g, 0, none⟩) j.ns.length (some ⟨h, 0, none⟩) j.us.length)) _ (by with_reducible assumption) _ Try.underlying73 rfl (.slice (some ⟨h, 0, none⟩) j.us.length j.us.length) (jr_u j.hlt j.hlp _ _ _ _ _) ?_) | ((with_reducible refine is_load 2 _ rfl ?_); refine wpList_load_cell_g rfl 2 _ rfl _ 24 rfl (jrC (jrOf j (some ⟨g, 0, none⟩) j.ns.length (some ⟨h, 0, none⟩) j.us.length)) _ (by with_reducible assumption) _ Try.underlying2 rfl (.int .i64 j.p) (jr_p j.hlt j.hlp _ _ _ _ _) ?_) | ((with_reducible refine is_load 72 _ rfl ?_); refine wpList_load_part rfl 72 _ rfl _ 0 rfl (jrC (jrOf k (some ⟨g', 0, none⟩) k.ns.length (some ⟨h', 0, none⟩) k.us.length)) _ (by with_reducible assumption) 22 (by rw [jrC_size]; omega) _ Try.underlying72 rfl (by kernel_rfl) ((jn k.i k.o k.ts k.ps)) (jr_jn k.hlt k.hlp _ _ _ _ _) ?_) | ((with_reducible refine is_load 73 _ rfl ?_); refine wpList_load_cell_g rfl 73 _ rfl _ 22 rfl (jrC (jrOf k (some ⟨g', 0, none⟩) k.ns.length (some ⟨h', 0, none⟩) k.us.length)) _ (by with_reducible assumption) _ Try.underlying73 rfl (.slice (some ⟨g', 0, none⟩) k.ns.length k.ns.length) (jr_v k.hlt k.hlp _ _ _ _ _) ?_) | ((with_reducible refine is_load 73 _ rfl ?_); refine wpList_load_cell_g rfl 73 _ rfl _ 23 rfl (jrC (jrOf k (some ⟨g', 0, none⟩) k.ns.length (some ⟨h', 0, none⟩) k.us.length)) _ (by with_reducible assumption) _ Try.underlying73 rfl (.slice (some ⟨h', 0, none⟩) k.us.length k.us.length) (jr_u k.hlt k.hlp _ _ _ _ _) ?_) | ((with_reducible refine is_load 2 _ rfl ?_); refine wpList_load_cell_g rfl 2 _ rfl _ 24 rfl (jrC (jrOf k (some ⟨g', 0, none⟩) k.ns.length (some ⟨h', 0, none⟩) k.us.length)) _ (by with_reducible assumption) _ Try.underlying2 rfl (.int .i64 k.p) (jr_p k.hlt k.hlp _ _ _ _ _) ?_))
        go_ret
        exact ⟨by rw [HV.out]; rfl, B3.out⟩

set_option maxHeartbeats 2000000 in
theorem EqualR_any (g1 g2 : Nat) (rs us : List Rd4) (hn : rs.length ≤ 1048576) (w : World) (h1 : At w g1 (fm rdr rs) 62) (h2 : At w g2 (fm rdr us) 62) :
    Calls Try.prog 27 #[.slice (some ⟨g1, 0, none⟩) rs.length rs.length, .slice (some ⟨g2, 0, none⟩) us.length us.length, .func (Fn.func 28) #[] #[]] w fun e w' => e = .returned (.bool (eqN (fun k => sameRd (fe zR rs k) (fe zR us k)) rs.length us.length)) ∧ Below w.heap.size w w' := by
  obtain ⟨f, hf⟩ : ∃ f, f = fun k => sameRd (fe zR rs k) (fe zR us k) := ⟨_, rfl⟩
  rw [← hf]
  by_cases hl : rs.length = us.length
  · obtain ⟨n, hnn⟩ : ∃ n, n = rs.length := ⟨_, rfl⟩
    have HX := Lib.hid (And.intro h1 h2)
    clear h1 h2
    rw [← hl, ← hnn, eqN_eq]
    rw [← hnn] at hn
    have HN := Lib.hid (And.intro hnn (hnn.trans hl))
    have HF := Lib.hid hf
    clear hnn hf hl
    go_enter Try.func27, Try.ntmps27
    go_wp2
    go_loopw [17] (fun i wr => ∃ k : Nat, k ≤ n ∧ i = .int .i64 (k : Int) ∧ Hid (Below w.heap.size w wr) ∧ Hid (allN f k = true)) (fun i _ => n - (intOf i).toNat)
    case atStart => exact ⟨0, by omega, rfl, Lib.hid (Below.refl _ _), Lib.hid rfl⟩
    case round =>
      obtain ⟨k, hk, rfl, B1, hok⟩ := hrel
      by_cases hlt : k < n
      · have s2 : IntKind.i64.wrap ((k : Int) + 1) = (k : Int) + 1 := IntWalk.i64_in _ (by omega)
        have kd : (k : Int) < (n : Int) := by omega
        have hk1 : k < rs.length := by rw [← HN.out.1]; exact hlt
        have hk2 : k < us.length := by rw [← HN.out.2]; exact hlt
        have A1 := HX.out.1.step B1.out
        have A2 := HX.out.2.step B1.out
        have hsl1 := fm_at (d := zR) (k := k * 19) rdr_size (xs := rs) (i := k) hk1 rfl
        have hle1 : k * 19 + 19 ≤ (fm rdr rs).size := by rw [fm_size rdr_size]; omega
        have hsl2 := fm_at (d := zR) (k := k * 19) rdr_size (xs := us) (i := k) hk2 rfl
        have hle2 : k * 19 + 19 ≤ (fm rdr us).size := by rw [fm_size rdr_size]; omega
        have hfk : f k = sameRd (fe zR rs k) (fe zR us k) := by rw [HF.out]
        obtain ⟨r, hr⟩ : ∃ r, r = fe zR rs k := ⟨_, rfl⟩
        obtain ⟨s, hs⟩ : ∃ s, s = fe zR us k := ⟨_, rfl⟩
        rw [← hr] at hsl1 hfk
        rw [← hs] at hsl2 hfk
        have KT := fun w' => SameRoad_any r.cs r.p r.b r.l r.hl r.hc r.hp r.hb r.hla s.cs s.p s.b s.l s.hl s.hc s.hp s.hb s.hla w'
        change ∀ w', Calls Try.prog 28 #[.agg (rdr r), .agg (rdr s)] w' (fun e w'' => e = .returned (.bool (sameRd r s)) ∧ _) at KT
        rw [← hfk] at KT
        have N0 := At.new wr (#[.float .f32 0, .float .f32 0, .float .f32 0, .float .f32 0, .float .f32 0, .float .f32 0, .float .f32 0, .float .f32 0, .float .f32 0, .float .f32 0, .float .f32 0, .float .f32 0, .float .f32 0, .float .f32 0, .float .f32 0, .float .f32 0, .float .f32 0, .float .f32 0, .float .f32 0]) 62
        have N1 := N0.setRow (rdr r)
        have bs1 := bset (bnew (Below.refl wr.heap.size wr) (.cells (#[.float .f32 0, .float .f32 0, .float .f32 0, .float .f32 0, .float .f32 0, .float .f32 0, .float .f32 0, .float .f32 0, .float .f32 0, .float .f32 0, .float .f32 0, .float .f32 0, .float .f32 0, .float .f32 0, .float .f32 0, .float .f32 0, .float .f32 0, .float .f32 0, .float .f32 0]) 62)) (g := wr.heap.size) (Nat.le_refl _) (rdr r)
        have B2a := Lib.hid (bthen B1.out bs1)
        have C2 := A2.step bs1
        have D0 : At (((wr.alloc (.cells (#[.float .f32 0, .float .f32 0, .float .f32 0, .float .f32 0, .float .f32 0, .float .f32 0, .float .f32 0, .float .f32 0, .float .f32 0, .float .f32 0, .float .f32 0, .float .f32 0, .float .f32 0, .float .f32 0, .float .f32 0, .float .f32 0, .float .f32 0, .float .f32 0, .float .f32 0]) 62)).setRow wr.heap.size (rdr r)).alloc (.cells (#[.float .f32 0, .float .f32 0, .float .f32 0, .float .f32 0, .float .f32 0, .float .f32 0, .float .f32 0, .float .f32 0, .float .f32 0, .float .f32 0, .float .f32 0, .float .f32 0, .float .f32 0, .float .f32 0, .float .f32 0, .float .f32 0, .float .f32 0, .float .f32 0, .float .f32 0]) 62)) (wr.heap.size + 1) (#[.float .f32 0, .float .f32 0, .float .f32 0, .float .f32 0, .float .f32 0, .float .f32 0, .float .f32 0, .float .f32 0, .float .f32 0, .float .f32 0, .float .f32 0, .float .f32 0, .float .f32 0, .float .f32 0, .float .f32 0, .float .f32 0, .float .f32 0, .float .f32 0, .float .f32 0]) 62 := by
          have := At.new ((wr.alloc (.cells (#[.float .f32 0, .float .f32 0, .float .f32 0, .float .f32 0, .float .f32 0, .float .f32 0, .float .f32 0, .float .f32 0, .float .f32 0, .float .f32 0, .float .f32 0, .float .f32 0, .float .f32 0, .float .f32 0, .float .f32 0, .float .f32 0, .float .f32 0, .float .f32 0, .float .f32 0]) 62)).setRow wr.heap.size (rdr r)) (#[.float .f32 0, .float .f32 0, .float .f32 0, .float .f32 0, .float .f32 0, .float .f32 0, .float .f32 0, .float .f32 0, .float .f32 0, .float .f32 0, .float .f32 0, .float .f32 0, .float .f32 0, .float .f32 0, .float .f32 0, .float .f32 0, .float .f32 0, .float .f32 0, .float .f32 0]) 62
          simpa using this
        have D1 := D0.setRow (rdr s)
        have hsz1 : (((wr.alloc (.cells (#[.float .f32 0, .float .f32 0, .float .f32 0, .float .f32 0, .float .f32 0, .float .f32 0, .float .f32 0, .float .f32 0, .float .f32 0, .float .f32 0, .float .f32 0, .float .f32 0, .float .f32 0, .float .f32 0, .float .f32 0, .float .f32 0, .float .f32 0, .float .f32 0, .float .f32 0]) 62)).setRow wr.heap.size (rdr r))).heap.size = wr.heap.size + 1 := by simp
        have bs2 := bset (bnew (Below.refl (((wr.alloc (.cells (#[.float .f32 0, .float .f32 0, .float .f32 0, .float .f32 0, .float .f32 0, .float .f32 0, .float .f32 0, .float .f32 0, .float .f32 0, .float .f32 0, .float .f32 0, .float .f32 0, .float .f32 0, .float .f32 0, .float .f32 0, .float .f32 0, .float .f32 0, .float .f32 0, .float .f32 0]) 62)).setRow wr.heap.size (rdr r))).heap.size ((wr.alloc (.cells (#[.float .f32 0, .float .f32 0, .float .f32 0, .float .f32 0, .float .f32 0, .float .f32 0, .float .f32 0, .float .f32 0, .float .f32 0, .float .f32 0, .float .f32 0, .float .f32 0, .float .f32 0, .float .f32 0, .float .f32 0, .float .f32 0, .float .f32 0, .float .f32 0, .float .f32 0]) 62)).setRow wr.heap.size (rdr r))) (.cells (#[.float .f32 0, .float .f32 0, .float .f32 0, .float .f32 0, .float .f32 0, .float .f32 0, .float .f32 0, .float .f32 0, .float .f32 0, .float .f32 0, .float .f32 0, .float .f32 0, .float .f32 0, .float .f32 0, .float .f32 0, .float .f32 0, .float .f32 0, .float .f32 0, .float .f32 0]) 62)) (g := wr.heap.size + 1) (by rw [hsz1]; exact Nat.le_refl _) (rdr s)
        have bs3 : Below wr.heap.size wr ((((wr.alloc (.cells (#[.float .f32 0, .float .f32 0, .float .f32 0, .float .f32 0, .float .f32 0, .float .f32 0, .float .f32 0, .float .f32 0, .float .f32 0, .float .f32 0, .float .f32 0, .float .f32 0, .float .f32 0, .float .f32 0, .float .f32 0, .float .f32 0, .float .f32 0, .float .f32 0, .float .f32 0]) 62)).setRow wr.heap.size (rdr r)).alloc (.cells (#[.float .f32 0, .float .f32 0, .float .f32 0, .float .f32 0, .float .f32 0, .float .f32 0, .float .f32 0, .float .f32 0, .float .f32 0, .float .f32 0, .float .f32 0, .float .f32 0, .float .f32 0, .float .f32 0, .float .f32 0, .float .f32 0, .float .f32 0, .float .f32 0, .float .f32 0]) 62)).setRow (wr.heap.size + 1) (rdr s)) := bthen bs1 bs2
        have B2 := Lib.hid (bthen B1.out bs3)
        have N2 := N1.step bs2
        clear hr hs B1 hfk hk1 hk2 bs1 bs2 bs3 B2a hsz1
        by_cases hb : f k = true
        · rw [hb] at KT
          have hv := Lib.hid (allN_next hok.out hb)
          clear hok hb
          go_wp2_with (first | ((with_reducible refine is_load 62 _ rfl ?_); refine wpList_load_part rfl 62 _ rfl _ (k * 19) rfl (fm rdr rs) _ (by with_reducible assumption) 19 hle1 _ Try.underlying62 rfl (by kernel_rfl) (rdr r) hsl1 ?_) | ((with_reducible refine is_load 62 _ rfl ?_); refine wpList_load_part rfl 62 _ rfl _ (k * 19) rfl (fm rdr us) _ (by with_reducible assumption) 19 hle2 _ Try.underlying62 rfl (by kernel_rfl) (rdr s) hsl2 ?_) | ((with_reducible refine is_store 62 _ _ rfl ?_); refine wpList_store_at rfl 62 _ _ rfl _ rfl (rdr r) rfl (#[.float .f32 0, .float .f32 0, .float .f32 0, .float .f32 0, .float .f32 0, .float .f32 0, .float .f32 0, .float .f32 0, .float .f32 0, .float .f32 0, .float .f32 0, .float .f32 0, .float .f32 0, .float .f32 0, .float .f32 0, .float .f32 0, .float .f32 0, .float .f32 0, .float .f32 0]) _ (by with_reducible assumption) 19 (rdr_size _) rfl (by kernel_rfl) (rdr_one _) ?_) | ((with_reducible refine is_load 62 _ rfl ?_); refine wpList_load_at rfl 62 _ rfl _ rfl (rdr r) _ (by with_reducible assumption) 19 (rdr_size _) _ Try.underlying62 rfl (by kernel_rfl) ?_) | ((with_reducible refine is_store 62 _ _ rfl ?_); refine wpList_store_at rfl 62 _ _ rfl _ rfl (rdr s) rfl (#[.float .f32 0, .float .f32 0, .float .f32 0, .float .f32 0, .float .f32 0, .float .f32 0, .float .f32 0, .float .f32 0, .float .f32 0, .float .f32 0, .float .f32 0, .float .f32 0, .float .f32 0, .float .f32 0, .float .f32 0, .float .f32 0, .float .f32 0, .float .f32 0, .float .f32 0]) _ (by with_reducible assumption) 19 (rdr_size _) rfl (by kernel_rfl) (rdr_one _) ?_) | ((with_reducible refine is_load 62 _ rfl ?_); refine wpList_load_at rfl 62 _ rfl _ rfl (rdr s) _ (by with_reducible assumption) 19 (rdr_size _) _ Try.underlying62 rfl (by kernel_rfl) ?_))
          refine (KT _).mono ?_
          rintro e w3 ⟨rfl, hb3⟩
          have B3 := Lib.hid (bthen B2.out hb3)
          clear A1 A2 C2 N0 N1 N2 D0 D1 hsl1 hsl2 hle1 hle2 B2 KT hb3
          go_wp2_with fail
          exact ⟨⟨k + 1, by omega, by go_num, B3, hv⟩, by simp [intOf]; omega⟩
        · have hb : f k = false := by simpa using hb
          rw [hb] at KT
          have hv := Lib.hid (allN_at hlt hb)
          clear hok hb
          go_wp2_with (first | ((with_reducible refine is_load 62 _ rfl ?_); refine wpList_load_part rfl 62 _ rfl _ (k * 19) rfl (fm rdr rs) _ (by with_reducible assumption) 19 hle1 _ Try.underlying62 rfl (by kernel_rfl) (rdr r) hsl1 ?_) | ((with_reducible refine is_load 62 _ rfl ?_); refine wpList_load_part rfl 62 _ rfl _ (k * 19) rfl (fm rdr us) _ (by with_reducible assumption) 19 hle2 _ Try.underlying62 rfl (by kernel_rfl) (rdr s) hsl2 ?_) | ((with_reducible refine is_store 62 _ _ rfl ?_); refine wpList_store_at rfl 62 _ _ rfl _ rfl (rdr r) rfl (#[.float .f32 0, .float .f32 0, .float .f32 0, .float .f32 0, .float .f32 0, .float .f32 0, .float .f32 0, .float .f32 0, .float .f32 0, .float .f32 0, .float .f32 0, .float .f32 0, .float .f32 0, .float .f32 0, .float .f32 0, .float .f32 0, .float .f32 0, .float .f32 0, .float .f32 0]) _ (by with_reducible assumption) 19 (rdr_size _) rfl (by kernel_rfl) (rdr_one _) ?_) | ((with_reducible refine is_load 62 _ rfl ?_); refine wpList_load_at rfl 62 _ rfl _ rfl (rdr r) _ (by with_reducible assumption) 19 (rdr_size _) _ Try.underlying62 rfl (by kernel_rfl) ?_) | ((with_reducible refine is_store 62 _ _ rfl ?_); refine wpList_store_at rfl 62 _ _ rfl _ rfl (rdr s) rfl (#[.float .f32 0, .float .f32 0, .float .f32 0, .float .f32 0, .float .f32 0, .float .f32 0, .float .f32 0, .float .f32 0, .float .f32 0, .float .f32 0, .float .f32 0, .float .f32 0, .float .f32 0, .float .f32 0, .float .f32 0, .float .f32 0, .float .f32 0, .float .f32 0, .float .f32 0]) _ (by with_reducible assumption) 19 (rdr_size _) rfl (by kernel_rfl) (rdr_one _) ?_) | ((with_reducible refine is_load 62 _ rfl ?_); refine wpList_load_at rfl 62 _ rfl _ rfl (rdr s) _ (by with_reducible assumption) 19 (rdr_size _) _ Try.underlying62 rfl (by kernel_rfl) ?_))
          refine (KT _).mono ?_
          rintro e w3 ⟨rfl, hb3⟩
          have B3 := Lib.hid (bthen B2.out hb3)
          clear A1 A2 C2 N0 N1 N2 D0 D1 hsl1 hsl2 hle1 hle2 B2 KT hb3
          go_wp2_with fail
          go_ret
          exact ⟨by rw [hv.out]; rfl, B3.out⟩
      · obtain rfl : n = k := by omega
        go_wp2_with fail
        go_ret
        exact ⟨by rw [hok.out]; rfl, B1.out⟩
  · rw [eqN_ne hl]
    generalize rs.length = n at hl
    generalize us.length = m at hl
    have hne : ¬ (n : Int) = (m : Int) := by omega
    clear hf
    go_enter Try.func27, Try.ntmps27
    go_wp2
    go_ret
    exact ⟨rfl, Below.refl _ _⟩

set_option maxHeartbeats 2000000 in
theorem EqualX_any (g1 g2 : Nat) (xs ys : List Nat) (hn : xs.length ≤ 1048576) (hx : ∀ x ∈ xs, x < 4294967296) (hy : ∀ x ∈ ys, x < 4294967296) (w : World) (h1 : At w g1 (fl xs) 26) (h2 : At w g2 (fl ys) 26) :
    Calls Try.prog 29 #[.slice (some ⟨g1, 0, none⟩) xs.length xs.length, .slice (some ⟨g2, 0, none⟩) ys.length ys.length, .func (Fn.func 30) #[] #[]] w fun e w' => e = .returned (.bool (eqN (fun k => sameB (nth xs k) (nth ys k)) xs.length ys.length)) ∧ Below w.heap.size w w' := by
  obtain ⟨f, hf⟩ : ∃ f, f = fun k => sameB (nth xs k) (nth ys k) := ⟨_, rfl⟩
  rw [← hf]
  by_cases hl : xs.length = ys.length
  · obtain ⟨n, hnn⟩ : ∃ n, n = xs.length := ⟨_, rfl⟩
    have HX := Lib.hid (And.intro h1 (And.intro h2 (And.intro hx hy)))
    clear h1 h2 hx hy
    rw [← hl, ← hnn, eqN_eq]
    rw [← hnn] at hn
    have HN := Lib.hid (And.intro hnn (hnn.trans hl))
    have HF := Lib.hid hf
    clear hnn hf hl
    go_enter Try.func29, Try.ntmps29
    go_wp2
    go_loopw [17] (fun i wr => ∃ k : Nat, k ≤ n ∧ i = .int .i64 (k : Int) ∧ Hid (Below w.heap.size w wr) ∧ Hid (allN f k = true)) (fun i _ => n - (intOf i).toNat)
    case atStart => exact ⟨0, by omega, rfl, Lib.hid (Below.refl _ _), Lib.hid rfl⟩
    case round =>
      obtain ⟨k, hk, rfl, B1, hok⟩ := hrel
      by_cases hlt : k < n
      · have s2 : IntKind.i64.wrap ((k : Int) + 1) = (k : Int) + 1 := IntWalk.i64_in _ (by omega)
        have kd : (k : Int) < (n : Int) := by omega
        have hk1 : k < xs.length := by rw [← HN.out.1]; exact hlt
        have hk2 : k < ys.length := by rw [← HN.out.2]; exact hlt
        have A1 := HX.out.1.step B1.out
        have A2 := HX.out.2.1.step B1.out
        have dx := fl_get (xs := xs) hk1
        have dy := fl_get (xs := ys) hk2
        have hfk : f k = sameB (nth xs k) (nth ys k) := by rw [HF.out]
        have KT := fun w' => SameNumber_any (nth xs k) (nth ys k) (u32_lt HX.out.2.2.1 _) (u32_lt HX.out.2.2.2 _) w'
        rw [← hfk] at KT
        have B2 := B1
        generalize nth xs k = x at *
        generalize nth ys k = y at *
        clear hfk hk1 hk2 B1
        by_cases hb : f k = true
        · rw [hb] at KT
          have hv := Lib.hid (allN_next hok.out hb)
          clear hok hb
          go_wp2_with (first | ((with_reducible refine is_load 26 _ rfl ?_); refine wpList_load_cell rfl 26 _ rfl _ k rfl (fl xs) _ (by with_reducible assumption) _ Try.underlying26 rfl (.float .f32 x) (dx) ?_) | ((with_reducible refine is_load 26 _ rfl ?_); refine wpList_load_cell rfl 26 _ rfl _ k rfl (fl ys) _ (by with_reducible assumption) _ Try.underlying26 rfl (.float .f32 y) (dy) ?_))
          refine (KT _).mono ?_
          rintro e w3 ⟨rfl, hq3⟩
          have hb3 : Below wr.heap.size wr w3 := by obtain ⟨m, rfl⟩ := hq3; exact bdrew (Below.refl _ _) m
          clear hq3
          have B3 := Lib.hid (bthen B2.out hb3)
          clear A1 A2 dx dy B2 KT hb3
          go_wp2_with fail
          exact ⟨⟨k + 1, by omega, by go_num, B3, hv⟩, by simp [intOf]; omega⟩
        · have hb : f k = false := by simpa using hb
          rw [hb] at KT
          have hv := Lib.hid (allN_at hlt hb)
          clear hok hb
          go_wp2_with (first | ((with_reducible refine is_load 26 _ rfl ?_); refine wpList_load_cell rfl 26 _ rfl _ k rfl (fl xs) _ (by with_reducible assumption) _ Try.underlying26 rfl (.float .f32 x) (dx) ?_) | ((with_reducible refine is_load 26 _ rfl ?_); refine wpList_load_cell rfl 26 _ rfl _ k rfl (fl ys) _ (by with_reducible assumption) _ Try.underlying26 rfl (.float .f32 y) (dy) ?_))
          refine (KT _).mono ?_
          rintro e w3 ⟨rfl, hq3⟩
          have hb3 : Below wr.heap.size wr w3 := by obtain ⟨m, rfl⟩ := hq3; exact bdrew (Below.refl _ _) m
          clear hq3
          have B3 := Lib.hid (bthen B2.out hb3)
          clear A1 A2 dx dy B2 KT hb3
          go_wp2_with fail
          go_ret
          exact ⟨by rw [hv.out]; rfl, B3.out⟩
      · obtain rfl : n = k := by omega
        go_wp2_with fail
        go_ret
        exact ⟨by rw [hok.out]; rfl, B1.out⟩
  · rw [eqN_ne hl]
    generalize xs.length = n at hl
    generalize ys.length = m at hl
    have hne : ¬ (n : Int) = (m : Int) := by omega
    clear hf
    go_enter Try.func29, Try.ntmps29
    go_wp2
    go_ret
    exact ⟨rfl, Below.refl _ _⟩

set_option maxHeartbeats 2000000 in
theorem EqualJ_any (g1 g2 : Nat) (js ks : List Jt) (ys zs : List Jr) (hn : js.length ≤ 1048576) (hN : jsN js js.length ≤ 1048576) (hyl : ys.length = js.length) (hzl : zs.length = ks.length) (w : World) (h1 : At w g1 (fm jrC ys) 75) (h2 : At w g2 (fm jrC zs) 75) (k1 : JOk w g1 ys js) (k2 : JOk w g2 zs ks) :
    Calls Try.prog 31 #[.slice (some ⟨g1, 0, none⟩) js.length js.length, .slice (some ⟨g2, 0, none⟩) ks.length ks.length, .func (Fn.func 32) #[] #[]] w fun e w' => e = .returned (.bool (eqN (fun k => sameJt (fe zJ js k) (fe zJ ks k)) js.length ks.length)) ∧ Below w.heap.size w w' := by
  obtain ⟨f, hf⟩ : ∃ f, f = fun k => sameJt (fe zJ js k) (fe zJ ks k) := ⟨_, rfl⟩
  rw [← hf]
  by_cases hl : js.length = ks.length
  · obtain ⟨n, hnn⟩ : ∃ n, n = js.length := ⟨_, rfl⟩
    have HX := Lib.hid (And.intro h1 (And.intro h2 (And.intro k1 (And.intro k2 (And.intro hyl (And.intro hzl hN))))))
    clear h1 h2 k1 k2 hyl hzl hN
    rw [← hl, ← hnn, eqN_eq]
    rw [← hnn] at hn
    have HN := Lib.hid (And.intro hnn (hnn.trans hl))
    have HF := Lib.hid hf
    clear hnn hf hl
    go_enter Try.func31, Try.ntmps31
    go_wp2
    go_loopw [17] (fun i wr => ∃ k : Nat, k ≤ n ∧ i = .int .i64 (k : Int) ∧ Hid (Below w.heap.size w wr) ∧ Hid (allN f k = true)) (fun i _ => n - (intOf i).toNat)
    case atStart => exact ⟨0, by omega, rfl, Lib.hid (Below.refl _ _), Lib.hid rfl⟩
    case round =>
      obtain ⟨k, hk, rfl, B1, hok⟩ := hrel
      by_cases hlt : k < n
      · have s2 : IntKind.i64.wrap ((k : Int) + 1) = (k : Int) + 1 := IntWalk.i64_in _ (by omega)
        have kd : (k : Int) < (n : Int) := by omega
        have hk1 : k < js.length := by rw [← HN.out.1]; exact hlt
        have hk2 : k < ks.length := by rw [← HN.out.2]; exact hlt
        have A1 := HX.out.1.step B1.out
        have A2 := HX.out.2.1.step B1.out
        have hsl1 := fm_at (d := zJr) (k := k * 25) jrC_size (xs := ys) (i := k) (by rw [HX.out.2.2.2.2.1]; exact hk1) rfl
        have hle1 : k * 25 + 25 ≤ (fm jrC ys).size := by rw [fm_size jrC_size, HX.out.2.2.2.2.1]; omega
        have hsl2 := fm_at (d := zJr) (k := k * 25) jrC_size (xs := zs) (i := k) (by rw [HX.out.2.2.2.2.2.1]; exact hk2) rfl
        have hle2 : k * 25 + 25 ≤ (fm jrC zs).size := by rw [fm_size jrC_size, HX.out.2.2.2.2.2.1]; omega
        obtain ⟨g, h, hy, G0, H0, -, -⟩ := HX.out.2.2.1 k (by rw [HX.out.2.2.2.2.1]; exact hk1)
        obtain ⟨g', h', hz, G0', H0', -, -⟩ := HX.out.2.2.2.1 k (by rw [HX.out.2.2.2.2.2.1]; exact hk2)
        rw [hy] at hsl1
        rw [hz] at hsl2
        have hNk := jsN_le (js := js) hk1
        have hNN := HX.out.2.2.2.2.2.2
        have KT0 := fun w' (hb : Below w.heap.size w w') => sameJoint_own (fe zJ js k) (fe zJ ks k) g h g' h' (by omega) (by omega) w' (G0.step hb) (H0.step hb) (G0'.step hb) (H0'.step hb)
        have hfk : f k = sameJt (fe zJ js k) (fe zJ ks k) := by rw [HF.out]
        rw [← hfk] at KT0
        obtain ⟨y, hyy⟩ : ∃ y : Jr, y = jrOf (fe zJ js k) (some ⟨g, 0, none⟩) (fe zJ js k).ns.length (some ⟨h, 0, none⟩) (fe zJ js k).us.length := ⟨_, rfl⟩
        obtain ⟨z, hzz⟩ : ∃ y : Jr, y = jrOf (fe zJ ks k) (some ⟨g', 0, none⟩) (fe zJ ks k).ns.length (some ⟨h', 0, none⟩) (fe zJ ks k).us.length := ⟨_, rfl⟩
        have hone1 : (jrC y).all (·.oneCell') = true := by rw [hyy]; exact jr_one _ _ _ _ _ _ _ rfl rfl
        have hone2 : (jrC z).all (·.oneCell') = true := by rw [hzz]; exact jr_one _ _ _ _ _ _ _ rfl rfl
        rw [← hyy] at hsl1 KT0
        rw [← hzz] at hsl2 KT0
        have N0 := At.new wr (#[.int .i64 0, .int .i64 0, .float .f32 0, .float .f32 0, .float .f32 0, .float .f32 0, .float .f32 0, .float .f32 0, .float .f32 0, .float .f32 0, .float .f32 0, .float .f32 0, .float .f32 0, .float .f32 0, .float .f32 0, .float .f32 0, .float .f32 0, .float .f32 0, .float .f32 0, .float .f32 0, .float .f32 0, .float .f32 0, .slice none 0 0, .slice none 0 0, .int .i64 0]) 75
        have N1 := N0.setRow (jrC y)
        have bs1 := bset (bnew (Below.refl wr.heap.size wr) (.cells (#[.int .i64 0, .int .i64 0, .float .f32 0, .float .f32 0, .float .f32 0, .float .f32 0, .float .f32 0, .float .f32 0, .float .f32 0, .float .f32 0, .float .f32 0, .float .f32 0, .float .f32 0, .float .f32 0, .float .f32 0, .float .f32 0, .float .f32 0, .float .f32 0, .float .f32 0, .float .f32 0, .float .f32 0, .float .f32 0, .slice none 0 0, .slice none 0 0, .int .i64 0]) 75)) (g := wr.heap.size) (Nat.le_refl _) (jrC y)
        have B2a := Lib.hid (bthen B1.out bs1)
        have C2 := A2.step bs1
        have D0 : At (((wr.alloc (.cells (#[.int .i64 0, .int .i64 0, .float .f32 0, .float .f32 0, .float .f32 0, .float .f32 0, .float .f32 0, .float .f32 0, .float .f32 0, .float .f32 0, .float .f32 0, .float .f32 0, .float .f32 0, .float .f32 0, .float .f32 0, .float .f32 0, .float .f32 0, .float .f32 0, .float .f32 0, .float .f32 0, .float .f32 0, .float .f32 0, .slice none 0 0, .slice none 0 0, .int .i64 0]) 75)).setRow wr.heap.size (jrC y)).alloc (.cells (#[.int .i64 0, .int .i64 0, .float .f32 0, .float .f32 0, .float .f32 0, .float .f32 0, .float .f32 0, .float .f32 0, .float .f32 0, .float .f32 0, .float .f32 0, .float .f32 0, .float .f32 0, .float .f32 0, .float .f32 0, .float .f32 0, .float .f32 0, .float .f32 0, .float .f32 0, .float .f32 0, .float .f32 0, .float .f32 0, .slice none 0 0, .slice none 0 0, .int .i64 0]) 75)) (wr.heap.size + 1) (#[.int .i64 0, .int .i64 0, .float .f32 0, .float .f32 0, .float .f32 0, .float .f32 0, .float .f32 0, .float .f32 0, .float .f32 0, .float .f32 0, .float .f32 0, .float .f32 0, .float .f32 0, .float .f32 0, .float .f32 0, .float .f32 0, .float .f32 0, .float .f32 0, .float .f32 0, .float .f32 0, .float .f32 0, .float .f32 0, .slice none 0 0, .slice none 0 0, .int .i64 0]) 75 := by
          have := At.new ((wr.alloc (.cells (#[.int .i64 0, .int .i64 0, .float .f32 0, .float .f32 0, .float .f32 0, .float .f32 0, .float .f32 0, .float .f32 0, .float .f32 0, .float .f32 0, .float .f32 0, .float .f32 0, .float .f32 0, .float .f32 0, .float .f32 0, .float .f32 0, .float .f32 0, .float .f32 0, .float .f32 0, .float .f32 0, .float .f32 0, .float .f32 0, .slice none 0 0, .slice none 0 0, .int .i64 0]) 75)).setRow wr.heap.size (jrC y)) (#[.int .i64 0, .int .i64 0, .float .f32 0, .float .f32 0, .float .f32 0, .float .f32 0, .float .f32 0, .float .f32 0, .float .f32 0, .float .f32 0, .float .f32 0, .float .f32 0, .float .f32 0, .float .f32 0, .float .f32 0, .float .f32 0, .float .f32 0, .float .f32 0, .float .f32 0, .float .f32 0, .float .f32 0, .float .f32 0, .slice none 0 0, .slice none 0 0, .int .i64 0]) 75
          simpa using this
        have D1 := D0.setRow (jrC z)
        have hsz1 : (((wr.alloc (.cells (#[.int .i64 0, .int .i64 0, .float .f32 0, .float .f32 0, .float .f32 0, .float .f32 0, .float .f32 0, .float .f32 0, .float .f32 0, .float .f32 0, .float .f32 0, .float .f32 0, .float .f32 0, .float .f32 0, .float .f32 0, .float .f32 0, .float .f32 0, .float .f32 0, .float .f32 0, .float .f32 0, .float .f32 0, .float .f32 0, .slice none 0 0, .slice none 0 0, .int .i64 0]) 75)).setRow wr.heap.size (jrC y))).heap.size = wr.heap.size + 1 := by simp
        have bs2 := bset (bnew (Below.refl (((wr.alloc (.cells (#[.int .i64 0, .int .i64 0, .float .f32 0, .float .f32 0, .float .f32 0, .float .f32 0, .float .f32 0, .float .f32 0, .float .f32 0, .float .f32 0, .float .f32 0, .float .f32 0, .float .f32 0, .float .f32 0, .float .f32 0, .float .f32 0, .float .f32 0, .float .f32 0, .float .f32 0, .float .f32 0, .float .f32 0, .float .f32 0, .slice none 0 0, .slice none 0 0, .int .i64 0]) 75)).setRow wr.heap.size (jrC y))).heap.size ((wr.alloc (.cells (#[.int .i64 0, .int .i64 0, .float .f32 0, .float .f32 0, .float .f32 0, .float .f32 0, .float .f32 0, .float .f32 0, .float .f32 0, .float .f32 0, .float .f32 0, .float .f32 0, .float .f32 0, .float .f32 0, .float .f32 0, .float .f32 0, .float .f32 0, .float .f32 0, .float .f32 0, .float .f32 0, .float .f32 0, .float .f32 0, .slice none 0 0, .slice none 0 0, .int .i64 0]) 75)).setRow wr.heap.size (jrC y))) (.cells (#[.int .i64 0, .int .i64 0, .float .f32 0, .float .f32 0, .float .f32 0, .float .f32 0, .float .f32 0, .float .f32 0, .float .f32 0, .float .f32 0, .float .f32 0, .float .f32 0, .float .f32 0, .float .f32 0, .float .f32 0, .float .f32 0, .float .f32 0, .float .f32 0, .float .f32 0, .float .f32 0, .float .f32 0, .float .f32 0, .slice none 0 0, .slice none 0 0, .int .i64 0]) 75)) (g := wr.heap.size + 1) (by rw [hsz1]; exact Nat.le_refl _) (jrC z)
        have bs3 : Below wr.heap.size wr ((((wr.alloc (.cells (#[.int .i64 0, .int .i64 0, .float .f32 0, .float .f32 0, .float .f32 0, .float .f32 0, .float .f32 0, .float .f32 0, .float .f32 0, .float .f32 0, .float .f32 0, .float .f32 0, .float .f32 0, .float .f32 0, .float .f32 0, .float .f32 0, .float .f32 0, .float .f32 0, .float .f32 0, .float .f32 0, .float .f32 0, .float .f32 0, .slice none 0 0, .slice none 0 0, .int .i64 0]) 75)).setRow wr.heap.size (jrC y)).alloc (.cells (#[.int .i64 0, .int .i64 0, .float .f32 0, .float .f32 0, .float .f32 0, .float .f32 0, .float .f32 0, .float .f32 0, .float .f32 0, .float .f32 0, .float .f32 0, .float .f32 0, .float .f32 0, .float .f32 0, .float .f32 0, .float .f32 0, .float .f32 0, .float .f32 0, .float .f32 0, .float .f32 0, .float .f32 0, .float .f32 0, .slice none 0 0, .slice none 0 0, .int .i64 0]) 75)).setRow (wr.heap.size + 1) (jrC z)) := bthen bs1 bs2
        have B2 := Lib.hid (bthen B1.out bs3)
        have N2 := N1.step bs2
        have KT := KT0 _ B2.out
        clear hyy hzz hy hz G0 H0 G0' H0' B1 hfk hk1 hk2 bs1 bs2 bs3 B2a hsz1 hNk hNN KT0
        by_cases hb : f k = true
        · rw [hb] at KT
          have hv := Lib.hid (allN_next hok.out hb)
          clear hok hb
          go_wp2_with (first | ((with_reducible refine is_load 75 _ rfl ?_); refine wpList_load_part rfl 75 _ rfl _ (k * 25) rfl (fm jrC ys) _ (by with_reducible assumption) 25 hle1 _ Try.underlying75 rfl (by kernel_rfl) (jrC y) hsl1 ?_) | ((with_reducible refine is_load 75 _ rfl ?_); refine wpList_load_part rfl 75 _ rfl _ (k * 25) rfl (fm jrC zs) _ (by with_reducible assumption) 25 hle2 _ Try.underlying75 rfl (by kernel_rfl) (jrC z) hsl2 ?_) | ((with_reducible refine is_store 75 _ _ rfl ?_); refine wpList_store_at rfl 75 _ _ rfl _ rfl (jrC y) rfl (#[.int .i64 0, .int .i64 0, .float .f32 0, .float .f32 0, .float .f32 0, .float .f32 0, .float .f32 0, .float .f32 0, .float .f32 0, .float .f32 0, .float .f32 0, .float .f32 0, .float .f32 0, .float .f32 0, .float .f32 0, .float .f32 0, .float .f32 0, .float .f32 0, .float .f32 0, .float .f32 0, .float .f32 0, .float .f32 0, .slice none 0 0, .slice none 0 0, .int .i64 0]) _ (by with_reducible assumption) 25 (jrC_size _) rfl (by kernel_rfl) (hone1) ?_) | ((with_reducible refine is_load 75 _ rfl ?_); refine wpList_load_at rfl 75 _ rfl _ rfl (jrC y) _ (by with_reducible assumption) 25 (jrC_size _) _ Try.underlying75 rfl (by kernel_rfl) ?_) | ((with_reducible refine is_store 75 _ _ rfl ?_); refine wpList_store_at rfl 75 _ _ rfl _ rfl (jrC z) rfl (#[.int .i64 0, .int .i64 0, .float .f32 0, .float .f32 0, .float .f32 0, .float .f32 0, .float .f32 0, .float .f32 0, .float .f32 0, .float .f32 0, .float .f32 0, .float .f32 0, .float .f32 0, .float .f32 0, .float .f32 0, .float .f32 0, .float .f32 0, .float .f32 0, .float .f32 0, .float .f32 0, .float .f32 0, .float .f32 0, .slice none 0 0, .slice none 0 0, .int .i64 0]) _ (by with_reducible assumption) 25 (jrC_size _) rfl (by kernel_rfl) (hone2) ?_) | ((with_reducible refine is_load 75 _ rfl ?_); refine wpList_load_at rfl 75 _ rfl _ rfl (jrC z) _ (by with_reducible assumption) 25 (jrC_size _) _ Try.underlying75 rfl (by kernel_rfl) ?_))
          refine KT.mono ?_
          rintro e w3 ⟨rfl, hb3⟩
          have B3 := Lib.hid (bthen B2.out hb3)
          clear A1 A2 C2 N0 N1 N2 D0 D1 hsl1 hsl2 hle1 hle2 hone1 hone2 B2 KT hb3
          go_wp2_with fail
          exact ⟨⟨k + 1, by omega, by go_num, B3, hv⟩, by simp [intOf]; omega⟩
        · have hb : f k = false := by simpa using hb
          rw [hb] at KT
          have hv := Lib.hid (allN_at hlt hb)
          clear hok hb
          go_wp2_with (first | ((with_reducible refine is_load 75 _ rfl ?_); refine wpList_load_part rfl 75 _ rfl _ (k * 25) rfl (fm jrC ys) _ (by with_reducible assumption) 25 hle1 _ Try.underlying75 rfl (by kernel_rfl) (jrC y) hsl1 ?_) | ((with_reducible refine is_load 75 _ rfl ?_); refine wpList_load_part rfl 75 _ rfl _ (k * 25) rfl (fm jrC zs) _ (by with_reducible assumption) 25 hle2 _ Try.underlying75 rfl (by kernel_rfl) (jrC z) hsl2 ?_) | ((with_reducible refine is_store 75 _ _ rfl ?_); refine wpList_store_at rfl 75 _ _ rfl _ rfl (jrC y) rfl (#[.int .i64 0, .int .i64 0, .float .f32 0, .float .f32 0, .float .f32 0, .float .f32 0, .float .f32 0, .float .f32 0, .float .f32 0, .float .f32 0, .float .f32 0, .float .f32 0, .float .f32 0, .float .f32 0, .float .f32 0, .float .f32 0, .float .f32 0, .float .f32 0, .float .f32 0, .float .f32 0, .float .f32 0, .float .f32 0, .slice none 0 0, .slice none 0 0, .int .i64 0]) _ (by with_reducible assumption) 25 (jrC_size _) rfl (by kernel_rfl) (hone1) ?_) | ((with_reducible refine is_load 75 _ rfl ?_); refine wpList_load_at rfl 75 _ rfl _ rfl (jrC y) _ (by with_reducible assumption) 25 (jrC_size _) _ Try.underlying75 rfl (by kernel_rfl) ?_) | ((with_reducible refine is_store 75 _ _ rfl ?_); refine wpList_store_at rfl 75 _ _ rfl _ rfl (jrC z) rfl (#[.int .i64 0, .int .i64 0, .float .f32 0, .float .f32 0, .float .f32 0, .float .f32 0, .float .f32 0, .float .f32 0, .float .f32 0, .float .f32 0, .float .f32 0, .float .f32 0, .float .f32 0, .float .f32 0, .float .f32 0, .float .f32 0, .float .f32 0, .float .f32 0, .float .f32 0, .float .f32 0, .float .f32 0, .float .f32 0, .slice none 0 0, .slice none 0 0, .int .i64 0]) _ (by with_reducible assumption) 25 (jrC_size _) rfl (by kernel_rfl) (hone2) ?_) | ((with_reducible refine is_load 75 _ rfl ?_); refine wpList_load_at rfl 75 _ rfl _ rfl (jrC z) _ (by with_reducible assumption) 25 (jrC_size _) _ Try.underlying75 rfl (by kernel_rfl) ?_))
          refine KT.mono ?_
          rintro e w3 ⟨rfl, hb3⟩
          have B3 := Lib.hid (bthen B2.out hb3)
          clear A1 A2 C2 N0 N1 N2 D0 D1 hsl1 hsl2 hle1 hle2 hone1 hone2 B2 KT hb3
          go_wp2_with fail
          go_ret
          exact ⟨by rw [hv.out]; rfl, B3.out⟩
      · obtain rfl : n = k := by omega
        go_wp2_with fail
        go_ret
        exact ⟨by rw [hok.out]; rfl, B1.out⟩
  · rw [eqN_ne hl]
    generalize js.length = n at hl
    generalize ks.length = m at hl
    have hne : ¬ (n : Int) = (m : Int) := by omega
    clear hf
    go_enter Try.func31, Try.ntmps31
    go_wp2
    go_ret
    exact ⟨rfl, Below.refl _ _⟩

set_option maxHeartbeats 2000000 in
theorem EqualP_any (g1 g2 : Nat) (ps qs : Ps) (us vs : Nat → Nat) (hn : ps.length ≤ 1048576) (hN : psN ps ps.length ≤ 1048576) (hW : ∀ i, i < ps.length → SlW (pS ps i)) (hV : ∀ i, i < qs.length → SlW (pS qs i)) (w : World) (h1 : At w g1 (pvC (pvs us ps ps.length ps.length)) 80) (h2 : At w g2 (pvC (pvs vs qs qs.length qs.length)) 80) (k1 : PkOk w g1 us ps) (k2 : PkOk w g2 vs qs) :
    Calls Try.prog 33 #[.slice (some ⟨g1, 0, none⟩) ps.length ps.length, .slice (some ⟨g2, 0, none⟩) qs.length qs.length, .func (Fn.func 34) #[] #[]] w fun e w' => e = .returned (.bool (eqN (samePk ps qs) ps.length qs.length)) ∧ Below w.heap.size w w' := by
  obtain ⟨f, hf⟩ : ∃ f, f = samePk ps qs := ⟨_, rfl⟩
  rw [← hf]
  by_cases hl : ps.length = qs.length
  · obtain ⟨n, hnn⟩ : ∃ n, n = ps.length := ⟨_, rfl⟩
    obtain ⟨R1, hR1⟩ : ∃ R, R = pvC (pvs us ps ps.length ps.length) := ⟨_, rfl⟩
    obtain ⟨R2, hR2⟩ : ∃ R, R = pvC (pvs vs qs qs.length qs.length) := ⟨_, rfl⟩
    rw [← hR1] at h1
    rw [← hR2] at h2
    have HR := Lib.hid (And.intro hR1 hR2)
    have HX := Lib.hid (And.intro h1 (And.intro h2 (And.intro k1 (And.intro k2 (And.intro hW (And.intro hV hN))))))
    clear h1 h2 k1 k2 hW hV hN hR1 hR2
    rw [← hl, ← hnn, eqN_eq]
    rw [← hnn] at hn
    have HN := Lib.hid (And.intro hnn (hnn.trans hl))
    have HF := Lib.hid hf
    clear hnn hf hl
    go_enter Try.func33, Try.ntmps33
    go_wp2
    go_loopw [17] (fun i wr => ∃ k : Nat, k ≤ n ∧ i = .int .i64 (k : Int) ∧ Hid (Below w.heap.size w wr) ∧ Hid (allN f k = true)) (fun i _ => n - (intOf i).toNat)
    case atStart => exact ⟨0, by omega, rfl, Lib.hid (Below.refl _ _), Lib.hid rfl⟩
    case round =>
      obtain ⟨k, hk, rfl, B1, hok⟩ := hrel
      by_cases hlt : k < n
      · have s2 : IntKind.i64.wrap ((k : Int) + 1) = (k : Int) + 1 := IntWalk.i64_in _ (by omega)
        have kd : (k : Int) < (n : Int) := by omega
        have hk1 : k < ps.length := by rw [← HN.out.1]; exact hlt
        have hk2 : k < qs.length := by rw [← HN.out.2]; exact hlt
        have A1 := HX.out.1.step B1.out
        have A2 := HX.out.2.1.step B1.out
        have hsl1 := pvC_at (k := k * 3) (l := pvs us ps ps.length ps.length) (i := k) (by rw [pvs_len]; exact hk1) (pvs_at hk1 hk1) rfl
        have hle1 : k * 3 + 3 ≤ (pvC (pvs us ps ps.length ps.length)).size := by rw [pvC_size, pvs_len]; omega
        have hsl2 := pvC_at (k := k * 3) (l := pvs vs qs qs.length qs.length) (i := k) (by rw [pvs_len]; exact hk2) (pvs_at hk2 hk2) rfl
        have hle2 : k * 3 + 3 ≤ (pvC (pvs vs qs qs.length qs.length)).size := by rw [pvC_size, pvs_len]; omega
        rw [← HR.out.1] at hsl1 hle1
        rw [← HR.out.2] at hsl2 hle2
        have hNk := psN_le (ps := ps) hk1
        have hNN := HX.out.2.2.2.2.2.2
        have G0 := (HX.out.2.2.1 k hk1).1
        have H0 := (HX.out.2.2.2.1 k hk2).1
        have KT0 := fun w' (hb : Below w.heap.size w w') => SamePlan_any (us k) (vs k) (pS ps k) (pS qs k) (pB ps k) (pO ps k) (pB qs k) (pO qs k) (HX.out.2.2.2.2.1 k hk1) (HX.out.2.2.2.2.2.1 k hk2) (by omega) _ _ w' (G0.step hb) (H0.step hb)
        have hfk : f k = vSame (pS ps k) (pS qs k) (pB ps k) (pO ps k) (pB qs k) (pO qs k) := by rw [HF.out]; rfl
        rw [← hfk] at KT0
        clear hNk hNN hk1 hk2 G0 H0 hfk
        generalize (pS ps k).length = l1 at *
        generalize (pS qs k).length = l2 at *
        generalize pB ps k = b1 at *
        generalize pB qs k = b2 at *
        generalize pO ps k = o1 at *
        generalize pO qs k = o2 at *
        generalize us k = u1 at *
        generalize vs k = u2 at *
        have N0 := At.new wr (#[.slice none 0 0, .int .i64 0, .int .i64 0]) 80
        have N1 := N0.setRow (plC (.slice (some ⟨u1, 0, none⟩) l1 l1) b1 o1)
        have bs1 := bset (bnew (Below.refl wr.heap.size wr) (.cells (#[.slice none 0 0, .int .i64 0, .int .i64 0]) 80)) (g := wr.heap.size) (Nat.le_refl _) (plC (.slice (some ⟨u1, 0, none⟩) l1 l1) b1 o1)
        have B2a := Lib.hid (bthen B1.out bs1)
        have C2 := A2.step bs1
        have D0 : At (((wr.alloc (.cells (#[.slice none 0 0, .int .i64 0, .int .i64 0]) 80)).setRow wr.heap.size (plC (.slice (some ⟨u1, 0, none⟩) l1 l1) b1 o1)).alloc (.cells (#[.slice none 0 0, .int .i64 0, .int .i64 0]) 80)) (wr.heap.size + 1) (#[.slice none 0 0, .int .i64 0, .int .i64 0]) 80 := by
          have := At.new ((wr.alloc (.cells (#[.slice none 0 0, .int .i64 0, .int .i64 0]) 80)).setRow wr.heap.size (plC (.slice (some ⟨u1, 0, none⟩) l1 l1) b1 o1)) (#[.slice none 0 0, .int .i64 0, .int .i64 0]) 80
          simpa using this
        have D1 := D0.setRow (plC (.slice (some ⟨u2, 0, none⟩) l2 l2) b2 o2)
        have hsz1 : (((wr.alloc (.cells (#[.slice none 0 0, .int .i64 0, .int .i64 0]) 80)).setRow wr.heap.size (plC (.slice (some ⟨u1, 0, none⟩) l1 l1) b1 o1))).heap.size = wr.heap.size + 1 := by simp
        have bs2 := bset (bnew (Below.refl (((wr.alloc (.cells (#[.slice none 0 0, .int .i64 0, .int .i64 0]) 80)).setRow wr.heap.size (plC (.slice (some ⟨u1, 0, none⟩) l1 l1) b1 o1))).heap.size ((wr.alloc (.cells (#[.slice none 0 0, .int .i64 0, .int .i64 0]) 80)).setRow wr.heap.size (plC (.slice (some ⟨u1, 0, none⟩) l1 l1) b1 o1))) (.cells (#[.slice none 0 0, .int .i64 0, .int .i64 0]) 80)) (g := wr.heap.size + 1) (by rw [hsz1]; exact Nat.le_refl _) (plC (.slice (some ⟨u2, 0, none⟩) l2 l2) b2 o2)
        have bs3 : Below wr.heap.size wr ((((wr.alloc (.cells (#[.slice none 0 0, .int .i64 0, .int .i64 0]) 80)).setRow wr.heap.size (plC (.slice (some ⟨u1, 0, none⟩) l1 l1) b1 o1)).alloc (.cells (#[.slice none 0 0, .int .i64 0, .int .i64 0]) 80)).setRow (wr.heap.size + 1) (plC (.slice (some ⟨u2, 0, none⟩) l2 l2) b2 o2)) := bthen bs1 bs2
        have B2 := Lib.hid (bthen B1.out bs3)
        have N2 := N1.step bs2
        have KT := KT0 _ B2.out
        clear B1 bs1 bs2 bs3 B2a hsz1 KT0
        by_cases hb : f k = true
        · rw [hb] at KT
          have hv := Lib.hid (allN_next hok.out hb)
          clear hok hb
          go_wp2_with (first | ((with_reducible refine is_load 80 _ rfl ?_); refine wpList_load_part rfl 80 _ rfl _ (k * 3) rfl R1 _ (by with_reducible assumption) 3 hle1 _ Try.underlying80 rfl (by kernel_rfl) (plC (.slice (some ⟨u1, 0, none⟩) l1 l1) b1 o1) hsl1 ?_) | ((with_reducible refine is_load 80 _ rfl ?_); refine wpList_load_part rfl 80 _ rfl _ (k * 3) rfl R2 _ (by with_reducible assumption) 3 hle2 _ Try.underlying80 rfl (by kernel_rfl) (plC (.slice (some ⟨u2, 0, none⟩) l2 l2) b2 o2) hsl2 ?_) | ((with_reducible refine is_store 80 _ _ rfl ?_); refine wpList_store_at rfl 80 _ _ rfl _ rfl (plC (.slice (some ⟨u1, 0, none⟩) l1 l1) b1 o1) rfl (#[.slice none 0 0, .int .i64 0, .int .i64 0]) _ (by with_reducible assumption) 3 (plC_size _ _ _) rfl (by kernel_rfl) (pl_one _ rfl _ _) ?_) | ((with_reducible refine is_load 80 _ rfl ?_); refine wpList_load_at rfl 80 _ rfl _ rfl (plC (.slice (some ⟨u1, 0, none⟩) l1 l1) b1 o1) _ (by with_reducible assumption) 3 (plC_size _ _ _) _ Try.underlying80 rfl (by kernel_rfl) ?_) | ((with_reducible refine is_store 80 _ _ rfl ?_); refine wpList_store_at rfl 80 _ _ rfl _ rfl (plC (.slice (some ⟨u2, 0, none⟩) l2 l2) b2 o2) rfl (#[.slice none 0 0, .int .i64 0, .int .i64 0]) _ (by with_reducible assumption) 3 (plC_size _ _ _) rfl (by kernel_rfl) (pl_one _ rfl _ _) ?_) | ((with_reducible refine is_load 80 _ rfl ?_); refine wpList_load_at rfl 80 _ rfl _ rfl (plC (.slice (some ⟨u2, 0, none⟩) l2 l2) b2 o2) _ (by with_reducible assumption) 3 (plC_size _ _ _) _ Try.underlying80 rfl (by kernel_rfl) ?_))
          refine KT.mono ?_
          rintro e w3 ⟨rfl, hb3⟩
          have B3 := Lib.hid (bthen B2.out hb3)
          clear A1 A2 C2 N0 N1 N2 D0 D1 hsl1 hsl2 hle1 hle2 B2 KT hb3
          go_wp2_with fail
          exact ⟨⟨k + 1, by omega, by go_num, B3, hv⟩, by simp [intOf]; omega⟩
        · have hb : f k = false := by simpa using hb
          rw [hb] at KT
          have hv := Lib.hid (allN_at hlt hb)
          clear hok hb
          go_wp2_with (first | ((with_reducible refine is_load 80 _ rfl ?_); refine wpList_load_part rfl 80 _ rfl _ (k * 3) rfl R1 _ (by with_reducible assumption) 3 hle1 _ Try.underlying80 rfl (by kernel_rfl) (plC (.slice (some ⟨u1, 0, none⟩) l1 l1) b1 o1) hsl1 ?_) | ((with_reducible refine is_load 80 _ rfl ?_); refine wpList_load_part rfl 80 _ rfl _ (k * 3) rfl R2 _ (by with_reducible assumption) 3 hle2 _ Try.underlying80 rfl (by kernel_rfl) (plC (.slice (some ⟨u2, 0, none⟩) l2 l2) b2 o2) hsl2 ?_) | ((with_reducible refine is_store 80 _ _ rfl ?_); refine wpList_store_at rfl 80 _ _ rfl _ rfl (plC (.slice (some ⟨u1, 0, none⟩) l1 l1) b1 o1) rfl (#[.slice none 0 0, .int .i64 0, .int .i64 0]) _ (by with_reducible assumption) 3 (plC_size _ _ _) rfl (by kernel_rfl) (pl_one _ rfl _ _) ?_) | ((with_reducible refine is_load 80 _ rfl ?_); refine wpList_load_at rfl 80 _ rfl _ rfl (plC (.slice (some ⟨u1, 0, none⟩) l1 l1) b1 o1) _ (by with_reducible assumption) 3 (plC_size _ _ _) _ Try.underlying80 rfl (by kernel_rfl) ?_) | ((with_reducible refine is_store 80 _ _ rfl ?_); refine wpList_store_at rfl 80 _ _ rfl _ rfl (plC (.slice (some ⟨u2, 0, none⟩) l2 l2) b2 o2) rfl (#[.slice none 0 0, .int .i64 0, .int .i64 0]) _ (by with_reducible assumption) 3 (plC_size _ _ _) rfl (by kernel_rfl) (pl_one _ rfl _ _) ?_) | ((with_reducible refine is_load 80 _ rfl ?_); refine wpList_load_at rfl 80 _ rfl _ rfl (plC (.slice (some ⟨u2, 0, none⟩) l2 l2) b2 o2) _ (by with_reducible assumption) 3 (plC_size _ _ _) _ Try.underlying80 rfl (by kernel_rfl) ?_))
          refine KT.mono ?_
          rintro e w3 ⟨rfl, hb3⟩
          have B3 := Lib.hid (bthen B2.out hb3)
          clear A1 A2 C2 N0 N1 N2 D0 D1 hsl1 hsl2 hle1 hle2 B2 KT hb3
          go_wp2_with fail
          go_ret
          exact ⟨by rw [hv.out]; rfl, B3.out⟩
      · obtain rfl : n = k := by omega
        go_wp2_with fail
        go_ret
        exact ⟨by rw [hok.out]; rfl, B1.out⟩
  · rw [eqN_ne hl]
    generalize ps.length = n at hl
    generalize qs.length = m at hl
    have hne : ¬ (n : Int) = (m : Int) := by omega
    clear hf
    go_enter Try.func33, Try.ntmps33
    go_wp2
    go_ret
    exact ⟨rfl, Below.refl _ _⟩

end Go.Proofs.Ytboahhipobcabaa
