/-
  CONTRACTS: the best share, the most flow, what cells send and take.
-/
import Derived.Test.YthljppdkplkohaaG1
import Derived.Test.YthljppdkplkohaaQuiet
import Derived.Test.YthljppdkplkohaaArith
namespace Go.Proofs.Ythljppdkplkohaa
open Go Go.RowKit

structure OkR (cs : List Nat) (p b l : Nat) : Prop where
  len : cs.length = 16
  cars : ∀ x ∈ cs, x ≤ 1065353216
  pace : 1015021568 ≤ p ∧ p ≤ 1065353216
  back : 1015021568 ≤ b ∧ b ≤ 1065353216
  lanes : 1048576000 ≤ l ∧ l ≤ 1090519040
theorem OkR.of {cs : List Nat} {p b l : Nat} (hl : cs.length = 16) (h : okB cs p b l = true) : OkR cs p b l := by
  unfold okB paceB lanesB at h
  simp only [Bool.and_eq_true, List.all_eq_true, decide_eq_true_eq] at h
  obtain ⟨⟨⟨h1, h2⟩, h3⟩, h4⟩ := h
  exact ⟨hl, fun x hx => by have := h1 x hx; unfold shrB at this; simpa using this, h2, h3, h4⟩
theorem OkR.car {cs : List Nat} {p b l : Nat} (h : OkR cs p b l) (k : Nat) : nth cs k ≤ 1065353216 := by
  unfold nth
  rw [List.getD_eq_getElem?_getD]
  cases e : cs[k]? with
  | none => simp
  | some v => exact h.cars v (List.mem_of_getElem? e)

def bestW (p b : Nat) : Nat := divB b (addB p b)
def mostW (p b : Nat) : Nat := mulB p (bestW p b)
def sendsW (p b a : Nat) : Nat := min (mulB p a) (mostW p b)
def takesW (p b a : Nat) : Nat := min (mulB b (subB 1065353216 a)) (mostW p b)

section
variable {p b : Nat} (hp : 1015021568 ≤ p ∧ p ≤ 1065353216) (hb : 1015021568 ≤ b ∧ b ≤ 1065353216)
include hp hb
theorem best_add : floatBits .add .f32 p b = some (addB p b) := (add_eq (by omega) (by omega)).1
theorem best_quo : floatBits .quo .f32 b (addB p b) = some (bestW p b) := by
  have := sum_rule hp hb
  exact (div_some (by omega) (by omega) (by omega)).1
theorem bestW_le : bestW p b ≤ 1065353216 := best_le hp hb
theorem most_mul : floatBits .mul .f32 p (bestW p b) = some (mostW p b) := by
  have := bestW_le hp hb
  exact (mul_eq (by omega) (by omega)).1
theorem mostW_le : mostW p b ≤ 1065353216 := by
  have := bestW_le hp hb
  have := mul_share hp.2 (y := bestW p b) (by omega)
  unfold mostW; omega
end

theorem l01Less_any (x y : Nat) (hx : x ≤ 2139095040) (hy : y ≤ 2139095040) (w : World) :
    Calls Try.prog 29 #[.float .f32 x, .float .f32 y] w (Rd (.float .f32 (min x y)) w) := by
  have h := lt_amt (x := y) (y := x) hy hx
  by_cases c : y < x
  · rw [decide_eq_true c] at h
    rw [Nat.min_eq_right (Nat.le_of_lt c)]
    clear c
    go_enter Try.func29, Try.ntmps29
    go_wp2
    go_ret
    exact Rd.mk0
  · rw [decide_eq_false c] at h
    rw [Nat.min_eq_left (by omega)]
    clear c
    go_enter Try.func29, Try.ntmps29
    go_wp2
    go_ret
    exact Rd.mk0

theorem sends_mul {p a : Nat} (hp : 1015021568 ≤ p ∧ p ≤ 1065353216) (ha : a ≤ 1065353216) : floatBits .mul .f32 p a = some (mulB p a) ∧ mulB p a ≤ 1065353216 := mul_one_le hp.2 ha
theorem sendsW_le {p b a : Nat} (hp : 1015021568 ≤ p ∧ p ≤ 1065353216) (ha : a ≤ 1065353216) : sendsW p b a ≤ 1065353216 := by have := (sends_mul hp ha).2; unfold sendsW; omega
theorem takesW_le {p b a : Nat} (hp : 1015021568 ≤ p ∧ p ≤ 1065353216) (hb : 1015021568 ≤ b ∧ b ≤ 1065353216) : takesW p b a ≤ 1065353216 := by have := mostW_le hp hb; unfold takesW; omega

end Go.Proofs.Ythljppdkplkohaa
