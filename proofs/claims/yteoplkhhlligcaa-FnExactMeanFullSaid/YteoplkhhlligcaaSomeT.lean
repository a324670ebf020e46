/-
  CONTRACTS: the code of a list that should have tallies.
-/
import Derived.Test.YteoplkhhlligcaaVTlI
namespace Go.Proofs.Yteoplkhhlligcaa
open Go Go.ChangeShapes Go.WideShapes Go.ChangeAt Go.RowKit
set_option maxRecDepth 100000

/-- the code of a list that should have tallies -/
def someC (xs : Ts) : Int := if okT xs then (if xs.length = 0 then 6 else 0) else 1
theorem someC_no {xs : Ts} (h : okT xs = false) : someC xs = 1 := by unfold someC; rw [h]; rfl
theorem someC_0 {xs : Ts} (h : okT xs = true) (h0 : xs.length = 0) : someC xs = 6 := by unfold someC; rw [if_pos h, if_pos h0]
theorem someC_yes {xs : Ts} (h : okT xs = true) (h0 : xs.length ≠ 0) : someC xs = 0 := by unfold someC; rw [if_pos h, if_neg h0]

theorem l05Some_any (G : Nat) (xs : Ts) (cap : Nat) (hW : TW xs) (hn : xs.length ≤ 1048576) (T : TypeId) (w : World) (h0 : At w G (tC xs) T) :
    Calls Try.prog 64 #[(.slice (some ⟨G, 0, none⟩) xs.length cap)] w fun e w' => e = .returned (.int .i64 (someC xs)) ∧ Below w.heap.size w w' := by
  have KV := l05List_any G xs cap hW hn T w h0
  cases h : okT xs
  · rw [h] at KV
    have hv := Lib.hid (someC_no h)
    generalize xs.length = n at KV
    go_enter Try.func64, Try.ntmps64
    go_wp2_with fail
    refine KV.mono ?_
    rintro e w1 ⟨rfl, hb1⟩
    go_wp2_with fail
    go_ret
    exact ⟨by rw [hv.out]; rfl, hb1⟩
  · rw [h] at KV
    by_cases z : xs.length = 0
    · have hv := Lib.hid (someC_0 h z)
      rw [z] at KV
      rw [z]
      go_enter Try.func64, Try.ntmps64
      go_wp2_with fail
      refine KV.mono ?_
      rintro e w1 ⟨rfl, hb1⟩
      go_wp2_with fail
      go_ret
      exact ⟨by rw [hv.out]; rfl, hb1⟩
    · have hv := Lib.hid (someC_yes h z)
      generalize xs.length = n at KV z
      go_enter Try.func64, Try.ntmps64
      go_wp2_with fail
      refine KV.mono ?_
      rintro e w1 ⟨rfl, hb1⟩
      go_wp2_with fail
      go_ret
      exact ⟨by rw [hv.out]; rfl, hb1⟩

theorem refusalOfSome_any (G : Nat) (xs : Ts) (cap : Nat) (hW : TW xs) (hn : xs.length ≤ 1048576) (T : TypeId) (w : World) (h0 : At w G (tC xs) T) :
    Calls Try.prog 65 #[(.slice (some ⟨G, 0, none⟩) xs.length cap)] w fun e w' => e = .returned (.int .i64 (someC xs)) ∧ Below w.heap.size w w' := by
  have KV := ValidTallies_any G xs cap hW hn T w h0
  cases h : okT xs
  · rw [h] at KV
    have hv := Lib.hid (someC_no h)
    generalize xs.length = n at KV
    go_enter Try.func65, Try.ntmps65
    go_wp2_with fail
    refine KV.mono ?_
    rintro e w1 ⟨rfl, hb1⟩
    go_wp2_with fail
    go_ret
    exact ⟨by rw [hv.out]; rfl, hb1⟩
  · rw [h] at KV
    by_cases z : xs.length = 0
    · have hv := Lib.hid (someC_0 h z)
      rw [z] at KV
      rw [z]
      go_enter Try.func65, Try.ntmps65
      go_wp2_with fail
      refine KV.mono ?_
      rintro e w1 ⟨rfl, hb1⟩
      go_wp2_with fail
      go_ret
      exact ⟨by rw [hv.out]; rfl, hb1⟩
    · have hv := Lib.hid (someC_yes h z)
      generalize xs.length = n at KV z
      go_enter Try.func65, Try.ntmps65
      go_wp2_with fail
      refine KV.mono ?_
      rintro e w1 ⟨rfl, hb1⟩
      go_wp2_with fail
      go_ret
      exact ⟨by rw [hv.out]; rfl, hb1⟩

end Go.Proofs.Yteoplkhhlligcaa
