/-
  CONTRACTS: numbers that are held between 0 and 1.
-/
import Derived.Test.YtkaghfoaicbngaaRefuse
import Derived.Test.YtkaghfoaicbngaaHeld
namespace Go.Proofs.Ytkaghfoaicbngaa
open Go Go.RowKit
set_option maxRecDepth 100000

/-- the two bounds, in new blocks -/
def boundsW (w : World) : World := (w.alloc (.cells #[.float .f32 0] 22)).alloc (.cells #[.float .f32 1065353216] 22)
theorem boundsW_below (w : World) : Below w.heap.size w (boundsW w) := bnew (b0 w _) _
theorem boundsW_0 (w : World) : At (boundsW w) w.heap.size #[.float .f32 0] 22 := (At.new w _ _).alloc _
theorem boundsW_1 (w : World) : At (boundsW w) (w.heap.size + 1) #[.float .f32 1065353216] 22 := At.last1 w _ _ _
theorem holdBetween_any (w : World) :
    Calls Try.prog 81 #[.float .f32 0, .float .f32 1065353216] w fun e w' => e = .returned (.func (.func 83) #[] #[.pointer (some ⟨w.heap.size, 0, none⟩), .pointer (some ⟨(w.heap.size + 1), 0, none⟩)]) ∧ w' = boundsW w := by
  have hmf : ∀ (fn : Fn) (first cap : Array Value) (w : World), (Instr.makeFunc fn first cap).run Try.prog w = .ok (.func fn first cap) w := fun _ _ _ _ => rfl
  go_enter Try.func81, Try.ntmps81
  go_wp2
  go_ret
  exact ⟨rfl, rfl⟩
theorem hold_any (g0 g1 : Nat) (v : Nat) (hv : Sgn v) (w : World) (A0 : At w g0 #[.float .f32 0] 22) (A1 : At w g1 #[.float .f32 1065353216] 22) :
    Calls Try.prog 83 #[.float .f32 v, .pointer (some ⟨g0, 0, none⟩), .pointer (some ⟨g1, 0, none⟩)] w fun e w' => e = .returned (.float .f32 (holdB v)) ∧ w' = w := by
  have c0 := A0.cell (k := 0) (v := .float .f32 0) rfl
  have c1 := A1.cell (k := 0) (v := .float .f32 1065353216) rfl
  have m0 : ∀ ts t w, (Builtin.max_ ts t #[.float .f32 v, .float .f32 0]).run Try.prog w = .ok (.float .f32 (posB v)) w := fun ts t w => run_max0 w ts t hv
  have m1 : ∀ ts t w, (Builtin.min_ ts t #[.float .f32 (posB v), .float .f32 1065353216]).run Try.prog w = .ok (.float .f32 (holdB v)) w := fun ts t w => run_min_amt w ts t (posB_le hv) (by omega)
  go_enter Try.func83, Try.ntmps83
  go_wp2
  go_ret
  exact ⟨rfl, rfl⟩
theorem l02Held_any (v : Nat) (hv : Sgn v) (w : World) : Calls Try.prog 54 #[.float .f32 v] w fun e w' => e = .returned (.float .f32 (holdB v)) ∧ w' = w := by
  have h0 := hv.lt0
  have h1 := hv.gt1
  by_cases c : 2147483648 ≤ v
  · have e : holdB v = 0 := by unfold holdB posB; rw [if_pos c]; rfl
    rw [decide_eq_true c] at h0
    clear h1
    rw [e]
    clear c e
    go_enter Try.func54, Try.ntmps54
    go_wp2
    go_ret
    exact ⟨rfl, rfl⟩
  · rw [decide_eq_false c] at h0
    by_cases c2 : 1065353216 < v
    · have e : holdB v = 1065353216 := by unfold holdB posB; rw [if_neg c]; omega
      rw [decide_eq_true (by omega)] at h1
      rw [e]
      clear c c2 e
      go_enter Try.func54, Try.ntmps54
      go_wp2
      go_ret
      exact ⟨rfl, rfl⟩
    · have e : holdB v = v := by unfold holdB posB; rw [if_neg c]; omega
      rw [decide_eq_false (by omega)] at h1
      rw [e]
      clear c c2 e
      go_enter Try.func54, Try.ntmps54
      go_wp2
      go_ret
      exact ⟨rfl, rfl⟩
end Go.Proofs.Ytkaghfoaicbngaa
