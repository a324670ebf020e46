/-
  SEVERAL TEXTS IN ONE.
-/
import Derived.Test.YtboahhipobcababG1
import Derived.Test.YtboahhipobcababPlTo
import Derived.Test.YtboahhipobcababG13
import Derived.Test.YtboahhipobcababG10

/-
  ROWS OF WHOLE NUMBERS IN MEMORY.
  No Go text in it. Conditions: those of each theorem.
-/
namespace Go.Proofs.Ytboahhipobcabab
open Go Go.RowKit

/-- the number at a place (0 behind the end) -/
def ith (xs : List Int) (k : Nat) : Int := xs.getD k 0
/-- a row of whole numbers -/
def il (xs : List Int) : Array Value := (xs.map (Value.int .i64)).toArray
theorem il_size (xs : List Int) : (il xs).size = xs.length := by simp [il]
theorem il_get {xs : List Int} {k : Nat} (h : k < xs.length) : (il xs)[k]? = some (.int .i64 (ith xs k)) := by
  simp [il, ith, List.getElem?_map, List.getElem?_eq_getElem h, List.getD]
theorem il_set (xs : List Int) (k : Nat) (x : Int) : (il xs).setIfInBounds k (.int .i64 x) = il (xs.set k x) := by
  apply Array.ext'
  simp [il]
theorem il_one (xs : List Int) : (il xs).all (·.oneCell') = true := by
  simp only [il, List.all_toArray, List.all_map]
  rw [List.all_eq_true]
  intro x _
  rfl
def iz (n : Nat) : List Int := List.replicate n 0
theorem iz_len (n : Nat) : (iz n).length = n := by simp [iz]
def cpI (n : Nat) (ys : List Int) (k : Nat) : List Int := ys.take k ++ List.replicate (n - k) 0
theorem cpI_len {n : Nat} {ys : List Int} (h : ys.length = n) (k : Nat) (hk : k ≤ n) : (cpI n ys k).length = n := by simp [cpI, h]; omega
theorem cpI_zero (n : Nat) (ys : List Int) : cpI n ys 0 = iz n := by simp [cpI, iz]
theorem cpI_set {n : Nat} {ys : List Int} (h : ys.length = n) {k : Nat} (hk : k < n) : (cpI n ys k).set k (ith ys k) = cpI n ys (k + 1) := by
  unfold cpI ith
  rw [List.set_append_right _ _ (by simp; omega), List.take_succ_eq_append_getElem (by omega), List.getD_eq_getElem?_getD, List.getElem?_eq_getElem (by omega)]
  rw [show k - (List.take k ys).length = 0 from by simp; omega, show n - k = (n - (k + 1)) + 1 from by omega, List.replicate_succ, List.append_assoc]
  rfl
theorem cpI_all {n : Nat} {ys : List Int} (h : ys.length = n) : cpI n ys n = ys := by simp [cpI, ← h]
end Go.Proofs.Ytboahhipobcabab

/-
  CONTRACTS: what refuses a row of plans, in whole numbers.
-/
namespace Go.Proofs.Ytboahhipobcabab
open Go Go.ChangeShapes Go.WideShapes Go.ChangeAt Go.RowKit
set_option maxRecDepth 100000

/-- is every one of the first k such -/
def allK (f : Nat → Bool) : Nat → Bool
  | 0 => true
  | k + 1 => allK f k && f k
theorem allK_no {f : Nat → Bool} : ∀ {n k : Nat}, k < n → f k = false → allK f n = false
  | 0, _, h, _ => by omega
  | n + 1, k, h, e => by
    unfold allK
    by_cases c : k = n
    · subst c; rw [e, Bool.and_false]
    · rw [allK_no (by omega) e, Bool.false_and]
theorem allK_next {f : Nat → Bool} {k : Nat} (h : allK f k = true) (e : f k = true) : allK f (k + 1) = true := by unfold allK; rw [h, e]; rfl
theorem allK_le {f : Nat → Bool} : ∀ {n k : Nat}, k ≤ n → allK f k = false → allK f n = false
  | 0, k, h, e => by
    obtain rfl : k = 0 := by omega
    exact e
  | n + 1, k, h, e => by
    by_cases c : k = n + 1
    · subst c; exact e
    · unfold allK
      rw [allK_le (by omega : k ≤ n) e, Bool.false_and]
theorem allK_at {f : Nat → Bool} : ∀ {n k : Nat}, allK f n = true → k < n → f k = true
  | 0, _, _, h => by omega
  | n + 1, k, h, hk => by
    unfold allK at h
    rw [Bool.and_eq_true] at h
    by_cases c : k = n
    · subst c; exact h.2
    · exact allK_at h.1 (by omega)
def pOk (ps : Ps) (i : Nat) : Bool := okP (pS ps i) (pB ps i) (pO ps i)
def tiOk (ts : List Int) (i : Nat) : Bool := inB 0 100000 (ith ts i)
def cyP (ps : Ps) (i : Nat) : Int := cyc (pS ps i) (pB ps i)
def cyOk (ps : Ps) (i : Nat) : Bool := decide (cyP ps i = cyP ps 0)
def gnP (ps : Ps) (m : Nat) (i : Nat) : Nat := cnt (gre (pB ps i) (pS ps i) m) (cyP ps i).toNat
def gnOk (ps : Ps) (m : Nat) (i : Nat) : Bool := decide (gnP ps m i ≠ 0)
/-- the numbers are as they must be -/
def ratOk (ps : Ps) (ts : List Int) (m : Int) : Bool := (decide (1 ≤ ps.length ∧ ps.length ≤ 6) && (decide (ts.length + 1 = ps.length) && inB 0 7 m)) && allK (tiOk ts) ts.length
/-- the code of a row of plans -/
def rowC (ps : Ps) (ts : List Int) (m : Int) : Int :=
  if allK (pOk ps) ps.length then (if ratOk ps ts m then (if allK (cyOk ps) ps.length then (if allK (gnOk ps m.toNat) ps.length then 0 else 6) else 4) else 2) else 1
section
variable {ps : Ps} {ts : List Int} {m : Int}
theorem rowC_1 (h : allK (pOk ps) ps.length = false) : rowC ps ts m = 1 := by unfold rowC; rw [h]; rfl
theorem rowC_2 (h : allK (pOk ps) ps.length = true) (h2 : ratOk ps ts m = false) : rowC ps ts m = 2 := by unfold rowC; rw [h, h2]; rfl
theorem rowC_4 (h : allK (pOk ps) ps.length = true) (h2 : ratOk ps ts m = true) (h3 : allK (cyOk ps) ps.length = false) : rowC ps ts m = 4 := by unfold rowC; rw [h, h2, h3]; rfl
theorem rowC_6 (h : allK (pOk ps) ps.length = true) (h2 : ratOk ps ts m = true) (h3 : allK (cyOk ps) ps.length = true) (h4 : allK (gnOk ps m.toNat) ps.length = false) : rowC ps ts m = 6 := by unfold rowC; rw [h, h2, h3, h4]; rfl
theorem rowC_0 (h : allK (pOk ps) ps.length = true) (h2 : ratOk ps ts m = true) (h3 : allK (cyOk ps) ps.length = true) (h4 : allK (gnOk ps m.toNat) ps.length = true) : rowC ps ts m = 0 := by unfold rowC; rw [h, h2, h3, h4]; rfl
end
/-- plans as a law lays them: rows at one block, the slots of each at a block of its own -/
structure PB (w : World) (G : Nat) (gs : Nat → Nat) (ps : Ps) (T : TypeId) : Prop where
  row : At w G (pvC (pvs gs ps ps.length ps.length)) T
  sl : ∀ i, i < ps.length → At w (gs i) (slC (pS ps i)) 107
theorem PB.step {w w' : World} {G : Nat} {gs : Nat → Nat} {ps : Ps} {T : TypeId} (h : PB w G gs ps T) (hb : Below w.heap.size w w') : PB w' G gs ps T := ⟨h.row.step hb, fun i hi => (h.sl i hi).step hb⟩

end Go.Proofs.Ytboahhipobcabab
