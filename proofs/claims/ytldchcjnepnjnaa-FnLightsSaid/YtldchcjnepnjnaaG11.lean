/-
  SEVERAL TEXTS IN ONE.
-/
import Derived.Test.YtldchcjnepnjnaaBytes
import Derived.Test.YtldchcjnepnjnaaG1
import Derived.Test.YtldchcjnepnjnaaMix
import Derived.OwnWalk
import Derived.Test.YtldchcjnepnjnaaAt

/-
  CONTRACTS: shares and roads drawn from bytes: valid ones, whatever the bytes.
-/
namespace Go.Proofs.Ytldchcjnepnjnaa
open Go Go.RowKit
set_option maxRecDepth 100000

/-- drawing goes on: the bytes lie as they lay, the source is at some turn up to k -/
structure Draws (w0 : World) (g : Nat) (ad : Option Addr) (cp : Nat) (bs : List Nat) (k : Nat) (w : World) : Prop where
  c : BSl w0 ad bs
  lo : w0.heap.size ≤ g
  below : Below w0.heap.size w0 w
  src : ∃ k' sd, k' ≤ k ∧ At w g (srcC ad bs.length cp k' sd) 59
section
variable {w0 w : World} {g : Nat} {ad : Option Addr} {cp : Nat} {bs : List Nat} {k : Nat}
theorem Draws.bsl (h : Draws w0 g ad cp bs k w) : BSl w ad bs := h.c.step h.below (Nat.le_refl _)

theorem Draws.lt (h : Draws w0 g ad cp bs k w) : g < w.heap.size := by obtain ⟨k', sd, -, hA⟩ := h.src; exact hA.lt

theorem Draws.step {w' : World} (h : Draws w0 g ad cp bs k w) (hb : Below w.heap.size w w') : Draws w0 g ad cp bs k w' :=
  ⟨h.c, h.lo, h.below.trans (hb.mono h.below.size), by obtain ⟨k', sd, h1, hA⟩ := h.src; exact ⟨k', sd, h1, hA.step hb⟩⟩

theorem Draws.row {r : Nat} (h : Draws w0 g ad cp bs k w) (hr : w0.heap.size ≤ r) (hn : g ≠ r) (c : Array Value) : Draws w0 g ad cp bs k (w.setRow r c) :=
  ⟨h.c, h.lo, bset h.below hr c, by obtain ⟨k', sd, h1, hA⟩ := h.src; exact ⟨k', sd, h1, hA.setRow_other hn c⟩⟩

theorem Draws.more {k2 : Nat} (h : Draws w0 g ad cp bs k w) (hk : k ≤ k2) : Draws w0 g ad cp bs k2 w :=
  ⟨h.c, h.lo, h.below, by obtain ⟨k', sd, h1, hA⟩ := h.src; exact ⟨k', sd, by omega, hA⟩⟩

/-- a number below n -/
theorem pick_e (h : Draws w0 g ad cp bs k w) (hk : k < 1000000) (n : Nat) (h1 : 1 < n) (h2 : n ≤ 200) :
    Calls Try.prog 15 #[.pointer (some ⟨g, 0, none⟩), .int .i64 (n : Int)] w fun e w' => ∃ m : Nat, e = .returned (.int .i64 (m : Int)) ∧ m < n ∧ Only g w w' ∧ Draws w0 g ad cp bs (k + 1) w' := by
  obtain ⟨k', sd, hk', hA⟩ := h.src
  refine (pick_b g ad cp k' bs sd n w (by omega) h.c.lt (by omega) hA h.bsl).mono ?_
  rintro e w' ⟨rfl, hO, hA'⟩
  obtain ⟨v0, v1⟩ := nextV_in h.c.lt k' sd
  have hv : pickV bs k' sd (n : Int) = ((pickV bs k' sd (n : Int)).toNat : Int) ∧ (pickV bs k' sd (n : Int)).toNat < n := by
    unfold pickV
    rw [if_neg (by omega)]
    have a1 := Int.emod_nonneg (nextV bs k' sd) (b := (n : Int)) (by omega)
    have a2 := Int.emod_lt_of_pos (nextV bs k' sd) (b := (n : Int)) (by omega)
    omega
  refine ⟨_, by rw [hv.1]; rfl, hv.2, hO, ⟨h.c, h.lo, h.below.trans (hO.below.mono h.lo), ⟨_, _, ?_, hA'⟩⟩⟩
  unfold pickK
  split <;> omega
end

theorem q32_facts : ∀ m : Fin 33, ∃ q, FloatKind.f32.format.div (FloatKind.f32.nearest (m.val : Int)) 1107296256 = some q ∧ q ≤ 1065353216 := by
  have h : ∀ m : Fin 33, ((FloatKind.f32.format.div (FloatKind.f32.nearest (m.val : Int)) 1107296256).map fun q => decide (q ≤ 1065353216)) = some true := by decide
  intro m
  have := h m
  cases hq : FloatKind.f32.format.div (FloatKind.f32.nearest (m.val : Int)) 1107296256 with
  | none => rw [hq] at this; cases this
  | some q => rw [hq] at this; exact ⟨q, rfl, by simpa using this⟩

theorem qpace_facts : ∀ m : Fin 16, ∃ q, FloatKind.f32.format.div (FloatKind.f32.nearest (1 + (m.val : Int))) 1098907648 = some q ∧ (1015021568 ≤ q ∧ q ≤ 1065353216) := by
  have h : ∀ m : Fin 16, ((FloatKind.f32.format.div (FloatKind.f32.nearest (1 + (m.val : Int))) 1098907648).map fun q => decide (1015021568 ≤ q ∧ q ≤ 1065353216)) = some true := by decide
  intro m
  have := h m
  cases hq : FloatKind.f32.format.div (FloatKind.f32.nearest (1 + (m.val : Int))) 1098907648 with
  | none => rw [hq] at this; cases this
  | some q => rw [hq] at this; exact ⟨q, rfl, by simpa using this⟩

theorem qlane_facts : ∀ m : Fin 12, ∃ q, FloatKind.f32.format.div (FloatKind.f32.nearest (1 + (m.val : Int))) 1082130432 = some q ∧ (1048576000 ≤ q ∧ q ≤ 1090519040) := by
  have h : ∀ m : Fin 12, ((FloatKind.f32.format.div (FloatKind.f32.nearest (1 + (m.val : Int))) 1082130432).map fun q => decide (1048576000 ≤ q ∧ q ≤ 1090519040)) = some true := by decide
  intro m
  have := h m
  cases hq : FloatKind.f32.format.div (FloatKind.f32.nearest (1 + (m.val : Int))) 1082130432 with
  | none => rw [hq] at this; cases this
  | some q => rw [hq] at this; exact ⟨q, rfl, by simpa using this⟩

def GoodC (cs : List Nat) : Prop := cs.length = 16 ∧ cs.all shrB = true

theorem good_zeros : GoodC (zeros 16) := by unfold GoodC; decide

theorem good_set {cs : List Nat} {i x : Nat} (h : GoodC cs) (hx : x ≤ 1065353216) : GoodC (cs.set i x) := by
  refine ⟨by rw [List.length_set]; exact h.1, List.all_eq_true.2 fun y hy => ?_⟩
  rcases List.mem_or_eq_of_mem_set hy with h1 | rfl
  · exact List.all_eq_true.1 h.2 y h1
  · unfold shrB; simpa using hx

theorem okB_mk {cs : List Nat} {p b l : Nat} (h : GoodC cs) (hp : 1015021568 ≤ p ∧ p ≤ 1065353216) (hb : 1015021568 ≤ b ∧ b ≤ 1065353216) (hl : 1048576000 ≤ l ∧ l ≤ 1090519040) : okB cs p b l = true := by
  unfold okB paceB lanesB
  rw [h.2, decide_eq_true hp, decide_eq_true hb, decide_eq_true hl]; rfl

theorem rd_one (cs : List Nat) (p b l : Nat) : (rd cs p b l).all (·.oneCell') = true := by
  simp [rd, fl, Value.oneCell']

end Go.Proofs.Ytldchcjnepnjnaa

/-
  ROWS OF WHOLE NUMBERS IN MEMORY.
  No Go text in it. Conditions: those of each theorem.
-/
namespace Go.Proofs.Ytldchcjnepnjnaa
open Go Go.RowKit

/-- the number at a place (0 behind the end) -/
def ith (xs : List Int) (k : Nat) : Int := xs.getD k 0
/-- a row of whole numbers -/
def il (xs : List Int) : Array Value := (xs.map (Value.int .i64)).toArray
theorem il_size (xs : List Int) : (il xs).size = xs.length := by simp [il]
theorem il_get {xs : List Int} {k : Nat} (h : k < xs.length) : (il xs)[k]? = some (.int .i64 (ith xs k)) := by
  simp [il, ith, List.getElem?_map, List.getElem?_eq_getElem h, List.getD]
theorem il_set (xs : List Int) (k : Nat) (x : Int) : (il xs).setIfInBounds k (.int .i64 x) = il (xs.set k x) := by
  apply Array.ext'
  simp [il]
theorem il_one (xs : List Int) : (il xs).all (·.oneCell') = true := by
  simp only [il, List.all_toArray, List.all_map]
  rw [List.all_eq_true]
  intro x _
  rfl
def iz (n : Nat) : List Int := List.replicate n 0
theorem iz_len (n : Nat) : (iz n).length = n := by simp [iz]
def cpI (n : Nat) (ys : List Int) (k : Nat) : List Int := ys.take k ++ List.replicate (n - k) 0
theorem cpI_len {n : Nat} {ys : List Int} (h : ys.length = n) (k : Nat) (hk : k ≤ n) : (cpI n ys k).length = n := by simp [cpI, h]; omega
theorem cpI_zero (n : Nat) (ys : List Int) : cpI n ys 0 = iz n := by simp [cpI, iz]
theorem cpI_set {n : Nat} {ys : List Int} (h : ys.length = n) {k : Nat} (hk : k < n) : (cpI n ys k).set k (ith ys k) = cpI n ys (k + 1) := by
  unfold cpI ith
  rw [List.set_append_right _ _ (by simp; omega), List.take_succ_eq_append_getElem (by omega), List.getD_eq_getElem?_getD, List.getElem?_eq_getElem (by omega)]
  rw [show k - (List.take k ys).length = 0 from by simp; omega, show n - k = (n - (k + 1)) + 1 from by omega, List.replicate_succ, List.append_assoc]
  rfl
theorem cpI_all {n : Nat} {ys : List Int} (h : ys.length = n) : cpI n ys n = ys := by simp [cpI, ← h]
end Go.Proofs.Ytldchcjnepnjnaa
