/-
  CONTRACTS: StepRoads, at all arguments.
-/
import Derived.Test.YtkaghfoaicbngaaStepRds
import Derived.Test.YtkaghfoaicbngaaStepsS
namespace Go.Proofs.Ytkaghfoaicbngaa
open Go Go.RowKit
set_option maxRecDepth 100000

def vStepRoads (cs : List Nat) (p b l o m : Nat) (n : Int) : List Nat × Nat × Nat × Nat × Nat × Nat × Int :=
  if stepsC (okB cs p b l) o m n = 0 then (itL p b cs (fun _ => o) (fun _ => m) n.toNat, p, b, l, itS p b cs (fun _ => o) (fun _ => m) 0 n.toNat, itS p b cs (fun _ => o) (fun _ => m) 16 n.toNat, 0) else (zeros 16, 0, 0, 0, 0, 0, stepsC (okB cs p b l) o m n)
theorem stepsC_zero {ok : Bool} {o m : Nat} {n : Int} (h : stepsC ok o m n = 0) : givenC ok o m = 0 ∧ 0 ≤ n ∧ n ≤ 400 := by
  unfold stepsC at h
  by_cases g : givenC ok o m = 0
  · rw [if_pos g] at h
    by_cases c : 0 ≤ n ∧ n ≤ 400
    · exact ⟨g, c⟩
    · rw [if_neg c] at h; cases h
  · rw [if_neg g] at h; exact absurd h g
theorem vStepRoads_good {cs : List Nat} (hl : cs.length = 16) (p b l o m : Nat) (n : Int) : goodL (vStepRoads cs p b l o m n).1 (vStepRoads cs p b l o m n).2.1 (vStepRoads cs p b l o m n).2.2.1 (vStepRoads cs p b l o m n).2.2.2.1 ∧ ((vStepRoads cs p b l o m n).2.2.2.2.1 < 4294967296 ∧ nanB (vStepRoads cs p b l o m n).2.2.2.2.1 = false) ∧ ((vStepRoads cs p b l o m n).2.2.2.2.2.1 < 4294967296 ∧ nanB (vStepRoads cs p b l o m n).2.2.2.2.2.1 = false) := by
  unfold vStepRoads
  by_cases h : stepsC (okB cs p b l) o m n = 0
  · rw [if_pos h]
    obtain ⟨hg, -⟩ := stepsC_zero h
    have hok := (given_zero hg).1
    have ok := OkR.of hl hok
    obtain ⟨g1, g2, g3, g4, g5⟩ := okB_good hl hok
    have ok2 := itL_ok ok (fun _ => o) (fun _ => m) n.toNat
    exact ⟨⟨ok2.len, fun y hy => nan_le (ok2.cars y hy) (by omega), g3, g4, g5⟩, nan_le (itS_facts ok (fun _ => o) (fun _ => m) 0 n.toNat) (by omega), nan_le (itS_facts ok (fun _ => o) (fun _ => m) 16 n.toNat) (by omega)⟩
  · rw [if_neg h]
    exact ⟨zero_good, ⟨show 0 < 4294967296 by decide, show nanB 0 = false by decide⟩, ⟨show 0 < 4294967296 by decide, show nanB 0 = false by decide⟩⟩

theorem StepRoads_any (cs : List Nat) (p b l : Nat) (hl : cs.length = 16) (hc : ∀ x ∈ cs, x < 4294967296) (hp : p < 4294967296) (hb : b < 4294967296) (hla : l < 4294967296) (o : Nat) (ho : o < 4294967296) (m : Nat) (hm : m < 4294967296) (n : Int) (w : World) :
    Calls Try.prog 15 #[.agg (rd cs p b l), .float .f32 o, .float .f32 m, .int .i64 n] w fun e w' => e = .returned (.tuple #[.agg (rd (vStepRoads cs p b l o m n).1 (vStepRoads cs p b l o m n).2.1 (vStepRoads cs p b l o m n).2.2.1 (vStepRoads cs p b l o m n).2.2.2.1), .float .f32 (vStepRoads cs p b l o m n).2.2.2.2.1, .float .f32 (vStepRoads cs p b l o m n).2.2.2.2.2.1, .int .i64 (vStepRoads cs p b l o m n).2.2.2.2.2.2]) ∧ Below w.heap.size w w' := by
  by_cases h : stepsC (okB cs p b l) o m n = 0
  · have e : (vStepRoads cs p b l o m n) = (itL p b cs (fun _ => o) (fun _ => m) n.toNat, p, b, l, itS p b cs (fun _ => o) (fun _ => m) 0 n.toNat, itS p b cs (fun _ => o) (fun _ => m) 16 n.toNat, 0) := by unfold vStepRoads; rw [if_pos h]
    rw [e]
    obtain ⟨hg, h0, h4⟩ := stepsC_zero h
    obtain ⟨k, rfl⟩ := Int.eq_ofNat_of_zero_le h0
    rw [Int.toNat_natCast]
    exact StepRoads_yes cs p b l hl hc hp hb hla o m ho hm k (by omega) hg w
  · have e : (vStepRoads cs p b l o m n) = (zeros 16, 0, 0, 0, 0, 0, stepsC (okB cs p b l) o m n) := by unfold vStepRoads; rw [if_neg h]
    rw [e]
    exact StepRoads_no cs p b l hl hc hp hb hla o m ho hm n h w

theorem sStepRoads_any (cs : List Nat) (p b l : Nat) (hl : cs.length = 16) (hc : ∀ x ∈ cs, x < 4294967296) (hp : p < 4294967296) (hb : b < 4294967296) (hla : l < 4294967296) (o : Nat) (ho : o < 4294967296) (m : Nat) (hm : m < 4294967296) (n : Int) (w : World) :
    Calls Try.prog 14 #[.agg (rd cs p b l), .float .f32 o, .float .f32 m, .int .i64 n] w fun e w' => e = .returned (.tuple #[.agg (rd (vStepRoads cs p b l o m n).1 (vStepRoads cs p b l o m n).2.1 (vStepRoads cs p b l o m n).2.2.1 (vStepRoads cs p b l o m n).2.2.2.1), .float .f32 (vStepRoads cs p b l o m n).2.2.2.2.1, .float .f32 (vStepRoads cs p b l o m n).2.2.2.2.2.1, .int .i64 (vStepRoads cs p b l o m n).2.2.2.2.2.2]) ∧ Below w.heap.size w w' := by
  by_cases h : stepsC (okB cs p b l) o m n = 0
  · have e : (vStepRoads cs p b l o m n) = (itL p b cs (fun _ => o) (fun _ => m) n.toNat, p, b, l, itS p b cs (fun _ => o) (fun _ => m) 0 n.toNat, itS p b cs (fun _ => o) (fun _ => m) 16 n.toNat, 0) := by unfold vStepRoads; rw [if_pos h]
    rw [e]
    obtain ⟨hg, h0, h4⟩ := stepsC_zero h
    obtain ⟨k, rfl⟩ := Int.eq_ofNat_of_zero_le h0
    rw [Int.toNat_natCast]
    exact sStepRoads_yes cs p b l hl hc hp hb hla o m ho hm k (by omega) hg w
  · have e : (vStepRoads cs p b l o m n) = (zeros 16, 0, 0, 0, 0, 0, stepsC (okB cs p b l) o m n) := by unfold vStepRoads; rw [if_neg h]
    rw [e]
    exact sStepRoads_no cs p b l hl hc hp hb hla o m ho hm n h w
end Go.Proofs.Ytkaghfoaicbngaa
