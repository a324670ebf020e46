/-
  CONTRACTS: RampStep, at all arguments.
-/
import Derived.Test.YtldgacihegibmaaRamp
import Derived.Test.YtldgacihegibmaaRampS
namespace Go.Proofs.Ytldgacihegibmaa
open Go Go.RowKit
set_option maxRecDepth 100000

theorem vRampStep_good {cs : List Nat} (hl : cs.length = 16) (p b l : Nat) (k : Int) (o m j : Nat) : goodL (vRampStep cs p b l k o m j).1 (vRampStep cs p b l k o m j).2.1 (vRampStep cs p b l k o m j).2.2.1 (vRampStep cs p b l k o m j).2.2.2.1 ∧ ((vRampStep cs p b l k o m j).2.2.2.2.1 < 4294967296 ∧ nanB (vRampStep cs p b l k o m j).2.2.2.2.1 = false) ∧ ((vRampStep cs p b l k o m j).2.2.2.2.2.1 < 4294967296 ∧ nanB (vRampStep cs p b l k o m j).2.2.2.2.2.1 = false) ∧ ((vRampStep cs p b l k o m j).2.2.2.2.2.2.1 < 4294967296 ∧ nanB (vRampStep cs p b l k o m j).2.2.2.2.2.2.1 = false) := by
  unfold vRampStep
  by_cases h : rampC (okB cs p b l) k o m j = 0
  · rw [if_pos h]
    obtain ⟨hok, hk, ho, hm, hj⟩ := rampC_zero h
    have ok := OkR.of hl hok
    obtain ⟨g1, g2, g3, g4, g5⟩ := okB_good hl hok
    have rf := ramp_facts ok o m hj (k := k.toNat) (by omega)
    refine ⟨⟨stepL_len _ _ _, fun y hy => nan_le (stepL_le _ _ _ y hy) (by omega), g3, g4, g5⟩, nan_le (nth_le (fluxL_le ok o m) 0) (by omega), nan_le (nth_le (fluxL_le ok o m) 16) (by omega), nan_le rf.2.2.2.1 (by omega)⟩
  · rw [if_neg h]
    exact ⟨zero_good, ⟨show 0 < 4294967296 by decide, show nanB 0 = false by decide⟩, ⟨show 0 < 4294967296 by decide, show nanB 0 = false by decide⟩, ⟨show 0 < 4294967296 by decide, show nanB 0 = false by decide⟩⟩

theorem RampStep_any (cs : List Nat) (p b l : Nat) (hl : cs.length = 16) (hc : ∀ x ∈ cs, x < 4294967296) (hp : p < 4294967296) (hb : b < 4294967296) (hla : l < 4294967296) (k : Int) (hk : -9223372036854775808 ≤ k ∧ k ≤ 9223372036854775807) (o m j : Nat) (ho : o < 4294967296) (hm : m < 4294967296) (hj : j < 4294967296) (w : World) :
    Calls Try.prog 43 #[.agg (rd cs p b l), .int .i64 k, .float .f32 o, .float .f32 m, .float .f32 j] w fun e w' => e = .returned (.tuple #[.agg (rd (vRampStep cs p b l k o m j).1 (vRampStep cs p b l k o m j).2.1 (vRampStep cs p b l k o m j).2.2.1 (vRampStep cs p b l k o m j).2.2.2.1), .float .f32 (vRampStep cs p b l k o m j).2.2.2.2.1, .float .f32 (vRampStep cs p b l k o m j).2.2.2.2.2.1, .float .f32 (vRampStep cs p b l k o m j).2.2.2.2.2.2.1, .int .i64 (vRampStep cs p b l k o m j).2.2.2.2.2.2.2]) ∧ Below w.heap.size w w' := by
  by_cases h : rampC (okB cs p b l) k o m j = 0
  · have e : (vRampStep cs p b l k o m j) = (stepL cs (rampIn p b cs o m j k.toNat) (outL (fluxL p b cs o m)), p, b, l, nth (fluxL p b cs o m) 0, nth (fluxL p b cs o m) 16, joinW p b cs o m j k.toNat, 0) := by unfold vRampStep; rw [if_pos h]
    rw [e]
    obtain ⟨-, hk2, -⟩ := rampC_zero h
    obtain ⟨n, rfl⟩ := Int.eq_ofNat_of_zero_le hk2.1
    rw [Int.toNat_natCast]
    exact RampStep_yes cs p b l hl hc hp hb hla n (by omega) o m j ho hm hj h w
  · have e : (vRampStep cs p b l k o m j) = (zeros 16, 0, 0, 0, 0, 0, 0, rampC (okB cs p b l) k o m j) := by unfold vRampStep; rw [if_neg h]
    rw [e]
    exact RampStep_no cs p b l hl hc hp hb hla k hk o m j ho hm hj h w

theorem sRampStep_any (cs : List Nat) (p b l : Nat) (hl : cs.length = 16) (hc : ∀ x ∈ cs, x < 4294967296) (hp : p < 4294967296) (hb : b < 4294967296) (hla : l < 4294967296) (k : Int) (hk : -9223372036854775808 ≤ k ∧ k ≤ 9223372036854775807) (o m j : Nat) (ho : o < 4294967296) (hm : m < 4294967296) (hj : j < 4294967296) (w : World) :
    Calls Try.prog 42 #[.agg (rd cs p b l), .int .i64 k, .float .f32 o, .float .f32 m, .float .f32 j] w fun e w' => e = .returned (.tuple #[.agg (rd (vRampStep cs p b l k o m j).1 (vRampStep cs p b l k o m j).2.1 (vRampStep cs p b l k o m j).2.2.1 (vRampStep cs p b l k o m j).2.2.2.1), .float .f32 (vRampStep cs p b l k o m j).2.2.2.2.1, .float .f32 (vRampStep cs p b l k o m j).2.2.2.2.2.1, .float .f32 (vRampStep cs p b l k o m j).2.2.2.2.2.2.1, .int .i64 (vRampStep cs p b l k o m j).2.2.2.2.2.2.2]) ∧ Below w.heap.size w w' := by
  by_cases h : rampC (okB cs p b l) k o m j = 0
  · have e : (vRampStep cs p b l k o m j) = (stepL cs (rampIn p b cs o m j k.toNat) (outL (fluxL p b cs o m)), p, b, l, nth (fluxL p b cs o m) 0, nth (fluxL p b cs o m) 16, joinW p b cs o m j k.toNat, 0) := by unfold vRampStep; rw [if_pos h]
    rw [e]
    obtain ⟨-, hk2, -⟩ := rampC_zero h
    obtain ⟨n, rfl⟩ := Int.eq_ofNat_of_zero_le hk2.1
    rw [Int.toNat_natCast]
    exact sRampStep_yes cs p b l hl hc hp hb hla n (by omega) o m j ho hm hj h w
  · have e : (vRampStep cs p b l k o m j) = (zeros 16, 0, 0, 0, 0, 0, 0, rampC (okB cs p b l) k o m j) := by unfold vRampStep; rw [if_neg h]
    rw [e]
    exact sRampStep_no cs p b l hl hc hp hb hla k hk o m j ho hm hj h w
end Go.Proofs.Ytldgacihegibmaa
