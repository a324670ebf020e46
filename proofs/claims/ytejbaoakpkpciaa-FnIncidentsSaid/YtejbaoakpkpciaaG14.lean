/-
  SEVERAL TEXTS IN ONE.
-/
import Derived.Test.YtejbaoakpkpciaaG13
import Derived.Test.YtejbaoakpkpciaaNum
import Derived.Test.YtejbaoakpkpciaaVTlI
import Derived.Test.YtejbaoakpkpciaaInc

/-
  CONTRACTS: is much more above than below?
-/
namespace Go.Proofs.Ytejbaoakpkpciaa
open Go Go.ChangeShapes Go.WideShapes Go.ChangeAt Go.RowKit
set_option maxRecDepth 100000

set_option maxHeartbeats 1000000 in
theorem isStriking_any (t c f t2 c2 f2 : Int) (a s X Y D M : Nat) (e1 : floatOfInt .f32 f = X) (e2 : floatOfInt .f32 f2 = Y) (o1 : floatBits .sub .f32 X Y = some D) (o2 : floatBits .mul .f32 s X = some M) (w : World) :
    Calls Try.prog 23 #[.agg (p6 t c f t2 c2 f2), .float .f32 a, .float .f32 s] w fun e w' => e = .returned (.bool (geB D a && geB D M)) ∧ Below w.heap.size w w' := by
  have A0 := At.new w (p6 t c f t2 c2 f2) 51
  have k2 := A0.cell (p6_2 t c f t2 c2 f2)
  have k5 := A0.cell (p6_5 t c f t2 c2 f2)
  have B0 := Lib.hid (b0 w (.cells (p6 t c f t2 c2 f2) 51))
  have q1 := fun t w => run_float_arith (P := Try.prog) w .sub t .f32 _ _ _ o1
  have q2 := fun t w => run_float_arith (P := Try.prog) w .mul t .f32 _ _ _ o2
  clear A0 o1 o2
  unfold geB
  generalize p6 t c f t2 c2 f2 = row at *
  cases g1 : (FloatKind.f32.format.order D a == some .gt || FloatKind.f32.format.order D a == some .eq)
  · go_enter Try.func23, Try.ntmps23
    go_wp2_with fail
    go_ret
    exact ⟨rfl, B0.out⟩
  · cases g2 : (FloatKind.f32.format.order D M == some .gt || FloatKind.f32.format.order D M == some .eq)
    · go_enter Try.func23, Try.ntmps23
      go_wp2_with fail
      go_ret
      exact ⟨rfl, B0.out⟩
    · go_enter Try.func23, Try.ntmps23
      go_wp2_with fail
      go_ret
      exact ⟨rfl, B0.out⟩

end Go.Proofs.Ytejbaoakpkpciaa

/-
  CONTRACTS: the number of a turn.
-/
namespace Go.Proofs.Ytejbaoakpkpciaa
open Go Go.ChangeShapes Go.WideShapes Go.ChangeAt Go.RowKit
set_option maxRecDepth 100000

def kFi : Option Nat → Int
  | some j => (j : Int)
  | none => -1
set_option maxHeartbeats 1000000 in
theorem l05Find_any (G : Nat) (ys : Ts) (cap : Nat) (hn : ys.length ≤ 1048576) (T : TypeId) (t : Int) (w : World) (h0 : At w G (tC ys) T) :
    Calls Try.prog 28 #[.slice (some ⟨G, 0, none⟩) ys.length cap, .int .i64 t] w fun e w' => e = .returned (.int .i64 (kFi (kF ys t 0 ys.length))) ∧ Below w.heap.size w w' := by
  have HX := Lib.hid h0
  obtain ⟨n, hnn⟩ : ∃ n, n = ys.length := ⟨_, rfl⟩
  rw [← hnn] at hn ⊢
  have HN := Lib.hid hnn
  clear hnn h0
  go_enter Try.func28, Try.ntmps28
  go_wp2
  go_loopw [5] (fun i wr => ∃ k : Nat, k ≤ n ∧ i = .int .i64 (k : Int) ∧ At wr G (tC ys) T ∧ Hid (Below w.heap.size w wr) ∧ Hid (kF ys t 0 n = kF ys t k (n - k))) (fun i _ => n - (intOf i).toNat)
  case atStart => exact ⟨0, by omega, rfl, HX.out, Lib.hid (Below.refl _ _), Lib.hid rfl⟩
  case round =>
    obtain ⟨k, hk, rfl, A1, B1, hv⟩ := hrel
    by_cases hlt : k < n
    · have s2 : IntKind.i64.wrap ((k : Int) + 1) = (k : Int) + 1 := IntWalk.i64_in _ (by omega)
      have kd : (k : Int) < (n : Int) := by omega
      have hkl : k < ys.length := by rw [← HN.out]; exact hlt
      have c0 := A1.cell (tC_turn hkl (k := k * 3) rfl)
      clear hkl
      by_cases c : tn ys k = t
      · have hv2 := Lib.hid (hv.out.trans (by rw [show n - k = (n - (k + 1)) + 1 from by omega, kF_hit c]))
        have c' : (tn ys k == t) = true := by simpa using c
        go_wp2_with fail
        go_ret
        exact ⟨by rw [hv2.out]; rfl, B1.out⟩
      · have hv2 := Lib.hid (hv.out.trans (by rw [show n - k = (n - (k + 1)) + 1 from by omega, kF_miss c]))
        have c' : (tn ys k == t) = false := by simpa using c
        have c2 : decide (tn ys k = t) = false := decide_eq_false c
        go_wp2_with fail
        exact ⟨⟨k + 1, by omega, by go_num, A1, B1, hv2⟩, by simp [intOf]; omega⟩
    · obtain rfl : n = k := by omega
      have hv2 := Lib.hid (hv.out.trans (by rw [Nat.sub_self]; rfl : _ = none))
      go_wp2_with fail
      go_ret
      exact ⟨by rw [hv2.out]; rfl, B1.out⟩

end Go.Proofs.Ytejbaoakpkpciaa
