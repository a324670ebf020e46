/-
  SUMS OF WHATEVER NUMBERS: what a sum gives, a NaN where there is none; two such sums agree.
  No Go text in it. Conditions: those of each theorem.
-/
import Derived.Test.YtldchcjnepnjnaaG3
namespace Go.Proofs.Ytldchcjnepnjnaa
open Go Go.RowKit

theorem word_num (s : Bool) {q : Nat} (h : q ≤ 2139095040) : S32.word s q < 4294967296 ∧ nanB (S32.word s q) = false := by
  have hs := s_sw
  cases s
  · rw [word_false]; unfold nanB; exact ⟨by omega, decide_eq_false (by omega)⟩
  · rw [word_true, hs]; unfold nanB; exact ⟨by omega, decide_eq_false (by omega)⟩

theorem write_num {d : Ieee.Datum} (h : ∀ s t, d ≠ .nan s t) : S32.write d < 4294967296 ∧ nanB (S32.write d) = false := by
  cases d with
  | number s m i =>
    show S32.nearest s m i < _ ∧ nanB (S32.nearest s m i) = false
    unfold Ieee.Format.nearest
    split
    · exact word_num s (by omega)
    · exact word_num s (Nat.le_trans (Nat.min_le_right _ _) (by rw [s_inf]; exact Nat.le_refl _))
  | infinity s => exact word_num s (by rw [s_inf]; exact Nat.le_refl _)
  | nan s t => exact absurd rfl (h s t)

theorem sum_num {d e f : Ieee.Datum} (h : d.sum e = some f) : ∀ s t, f ≠ .nan s t := by
  intro s t hf
  subst hf
  cases d <;> cases e <;> simp [Ieee.Datum.sum] at h

theorem add_num {x y r : Nat} (h : floatBits .add .f32 x y = some r) : r < 4294967296 ∧ nanB r = false := by
  have h' : S32.add x y = some r := h
  unfold Ieee.Format.add at h'
  cases hs : (S32.read x).sum (S32.read y) with
  | none => rw [hs] at h'; cases h'
  | some f =>
    rw [hs] at h'
    obtain rfl := Option.some.inj h'
    exact write_num (sum_num hs)

theorem read_nanB {x : Nat} (h : x < 4294967296) (c : nanB x = true) : ∃ s t, S32.read x = .nan s t := by
  have hs := split32 h
  have hm : x % 2147483648 < 2147483648 := Nat.mod_lt _ (by omega)
  unfold nanB at c
  generalize decide (2147483648 ≤ x) = s at hs
  generalize x % 2147483648 = r at hs hm c
  subst hs
  exact ⟨_, _, read_nan S32 s_bin s (by rw [s_inf]; simpa using c) (by rw [s_sw]; exact hm)⟩

theorem add_nanL {x y : Nat} (h : x < 4294967296) (c : nanB x = true) : floatBits .add .f32 x y = none := by
  obtain ⟨s, t, e⟩ := read_nanB h c
  show S32.add x y = none
  unfold Ieee.Format.add
  rw [e]
  rfl

/-- z is the sum of x and y (a NaN where there is none) -/
def AddR (x y z : Nat) : Prop := z < 4294967296 ∧ (floatBits .add .f32 x y = some z ∨ floatBits .add .f32 x y = none ∧ nanB z = true)

theorem AddR.agr {x x' y z z' : Nat} (hx : Agr x x') (h : AddR x y z) (h' : AddR x' y z') : Agr z z' := by
  refine ⟨h.1, h'.1, ?_⟩
  rcases hx.2.2 with ⟨n1, n2⟩ | ⟨n1, rfl⟩
  · rcases h.2 with k | ⟨-, k⟩
    · rw [add_nanL hx.1 n1] at k; cases k
    rcases h'.2 with k' | ⟨-, k'⟩
    · rw [add_nanL hx.2.1 n2] at k'; cases k'
    exact .inl ⟨k, k'⟩
  · rcases h.2 with k | ⟨k0, k⟩ <;> rcases h'.2 with k' | ⟨k0', k'⟩
    · rw [k] at k'; exact .inr ⟨(add_num k).2, (Option.some.inj k').symm⟩
    · rw [k] at k0'; cases k0'
    · rw [k'] at k0; cases k0
    · exact .inl ⟨k, k'⟩

theorem run_add_any {P : Program} (t : TypeId) (x y : Nat) (w : World) :
    ∃ z n, (binOp .add t (.float .f32 x) (.float .f32 y)).run P w = .ok (.float .f32 z) (w.drewN n) ∧ AddR x y z := by
  cases h : floatBits .add .f32 x y with
  | some z => exact ⟨z, 0, run_float_arith w .add t .f32 _ _ _ h, (add_num h).1, .inl h⟩
  | none => exact ⟨_, 1, run_arith_nan w .add (.inl rfl) t .f32 x y h, (tapeNan32 w x y).1, .inr ⟨h, (tapeNan32 w x y).2⟩⟩

/-- v is the sum of four numbers, from the first on -/
def Sum4 (a b c d v : Nat) : Prop := ∃ y z, AddR a b y ∧ AddR y c z ∧ AddR z d v
theorem Sum4.agr {a b c d v v' : Nat} (ha : a < 4294967296) (h : Sum4 a b c d v) (h' : Sum4 a b c d v') : Agr v v' := by
  obtain ⟨y, z, h1, h2, h3⟩ := h
  obtain ⟨y', z', k1, k2, k3⟩ := h'
  have e0 : Agr a a := ⟨ha, ha, by cases h : nanB a; exact .inr ⟨rfl, rfl⟩; exact .inl ⟨rfl, rfl⟩⟩
  exact AddR.agr (AddR.agr (AddR.agr e0 h1 k1) h2 k2) h3 k3
end Go.Proofs.Ytldchcjnepnjnaa
