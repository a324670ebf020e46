/-
  CONTRACTS: the turns of an in; what a valid junction is, as the program and as the model ask it.
-/
import Derived.Test.YthljppdkplkohaaArms
import Derived.Test.YthljppdkplkohaaArith
import Derived.Test.YthljppdkplkohaaOneCell
namespace Go.Proofs.Ythljppdkplkohaa
open Go Go.RowKit
set_option maxRecDepth 100000

/-- the sum of four numbers, from the first on: of the first m ones -/
def sumP (xs : List Nat) : Nat → Nat
  | 0 => 0
  | 1 => nth xs 0
  | m + 2 => addB (sumP xs (m + 1)) (nth xs (m + 1))

def sumL (xs : List Nat) : Nat := addB (addB (addB (nth xs 0) (nth xs 1)) (nth xs 2)) (nth xs 3)

theorem sumP_four (xs : List Nat) : sumP xs 4 = sumL xs := rfl

theorem AddR_amt {x y z : Nat} (hx : x ≤ 2139095040) (hy : y ≤ 2139095040) (h : AddR x y z) : z = addB x y ∧ z ≤ 2139095040 := by
  have := add_any hx hy
  rcases h.2 with k | ⟨k, -⟩
  · rw [this.1] at k; obtain rfl := Option.some.inj k; exact ⟨rfl, this.2⟩
  · rw [this.1] at k; cases k

theorem Sum4_amt {xs : List Nat} {v : Nat} (h : ∀ k, k < 4 → nth xs k ≤ 2139095040) (s : Sum4 (nth xs 0) (nth xs 1) (nth xs 2) (nth xs 3) v) : v = sumL xs ∧ v ≤ 2139095040 := by
  obtain ⟨y, z, h1, h2, h3⟩ := s
  obtain ⟨e1, l1⟩ := AddR_amt (h 0 (by omega)) (h 1 (by omega)) h1
  obtain ⟨e2, l2⟩ := AddR_amt l1 (h 2 (by omega)) h2
  obtain ⟨e3, l3⟩ := AddR_amt l2 (h 3 (by omega)) h3
  exact ⟨by rw [e3, e2, e1]; rfl, l3⟩

theorem sumP_amt {xs : List Nat} : ∀ m, (∀ k, k < m → nth xs k ≤ 2139095040) → sumP xs m ≤ 2139095040
  | 0, _ => by unfold sumP; omega
  | 1, h => h 0 (by omega)
  | m + 2, h => (add_any (sumP_amt (m + 1) fun k hk => h k (by omega)) (h (m + 1) (by omega))).2

theorem sumP_add {xs : List Nat} {m : Nat} (h0 : m ≠ 0) (h : ∀ k, k < m + 1 → nth xs k ≤ 2139095040) : floatBits .add .f32 (sumP xs m) (nth xs m) = some (sumP xs (m + 1)) := by
  obtain ⟨n, rfl⟩ : ∃ n, m = n + 1 := ⟨m - 1, by omega⟩
  exact (add_any (sumP_amt (n + 1) fun k hk => h k (by omega)) (h (n + 1) (by omega))).1

/-- the turns of an in: shares, 0 from arm o on, nearly 1 together -/
def oneB (v : Nat) : Bool := decide (1065336439 ≤ v) && decide (v ≤ 1065361605)

def turnsB (o : Int) (xs : List Nat) : Bool := shrTo xs 4 && amtTo o xs 4 && oneB (sumL xs)

/-- a row of turns, with its priority -/
def rowOk (i o : Int) (ts ps : List Nat) (k : Nat) : Bool := if (k : Int) < i then turnsB o (row4 ts k) && priB (nth ps k) else amtTo 0 (row4 ts k) 4

def rowsTo (i o : Int) (ts ps : List Nat) (m : Nat) : Bool := (List.range m).all (rowOk i o ts ps)

/-- a junction is valid -/
def okJ (i o : Int) (ts ps : List Nat) : Bool := inB 1 4 i && inB 1 4 o && amtTo i ps 4 && rowsTo i o ts ps 4

theorem rowsTo_succ (i o : Int) (ts ps : List Nat) (m : Nat) : rowsTo i o ts ps (m + 1) = (rowsTo i o ts ps m && rowOk i o ts ps m) := by
  unfold rowsTo; rw [List.range_succ, List.all_append]; simp

theorem rowsTo_no {i o : Int} {ts ps : List Nat} {m k : Nat} (hk : k < m) (h : rowOk i o ts ps k = false) : rowsTo i o ts ps m = false := by
  rw [Bool.eq_false_iff]
  intro h2
  have := List.all_eq_true.1 h2 k (by simpa using hk)
  rw [h] at this; cases this

theorem rowsTo_at {i o : Int} {ts ps : List Nat} {m k : Nat} (hk : k < m) (h : rowsTo i o ts ps m = true) : rowOk i o ts ps k = true :=
  List.all_eq_true.1 h k (by simpa using hk)

theorem okJ_row {i o : Int} {ts ps : List Nat} {k : Nat} (hk : k < 4) (h : rowOk i o ts ps k = false) : okJ i o ts ps = false := by
  unfold okJ; rw [rowsTo_no hk h, Bool.and_false]

/-- what the model asks of a turn -/
def cellOk (i o : Int) (k n a : Nat) : Bool := shrB a && (decide (a = 0) || (decide ((k : Int) < i) && decide ((n : Int) < o)))

def cellsTo (i o : Int) (k : Nat) (xs : List Nat) (m : Nat) : Bool := (List.range m).all fun n => cellOk i o k n (nth xs n)

theorem cellsTo_succ (i o : Int) (k : Nat) (xs : List Nat) (m : Nat) : cellsTo i o k xs (m + 1) = (cellsTo i o k xs m && cellOk i o k m (nth xs m)) := by
  unfold cellsTo; rw [List.range_succ, List.all_append]; simp

theorem cellsTo_at {i o : Int} {k : Nat} {xs : List Nat} {m n : Nat} (hk : n < m) (h : cellsTo i o k xs m = true) : cellOk i o k n (nth xs n) = true :=
  List.all_eq_true.1 h n (by simpa using hk)

theorem cellsTo_shr {i o : Int} {k : Nat} {xs : List Nat} {m n : Nat} (hk : n < m) (h : cellsTo i o k xs m = true) : nth xs n ≤ 1065353216 := by
  have := cellsTo_at hk h
  unfold cellOk shrB at this
  simp at this
  exact this.1

theorem cells_in {i o : Int} {k : Nat} {xs : List Nat} (hk : (k : Int) < i) : cellsTo i o k xs 4 = (shrTo xs 4 && amtTo o xs 4) := by
  rw [Bool.eq_iff_iff]
  constructor
  · intro h
    rw [Bool.and_eq_true]
    refine ⟨List.all_eq_true.2 fun n hn => ?_, List.all_eq_true.2 fun n hn => ?_⟩
    · have := cellsTo_at (List.mem_range.1 hn) h
      unfold cellOk at this
      rw [Bool.and_eq_true] at this
      exact this.1
    · have := cellsTo_at (List.mem_range.1 hn) h
      have hs := cellsTo_shr (List.mem_range.1 hn) h
      unfold cellOk at this
      simp only [Bool.and_eq_true, Bool.or_eq_true, decide_eq_true_eq] at this
      unfold amtA amtB
      simp only [Bool.and_eq_true, Bool.or_eq_true, decide_eq_true_eq]
      exact ⟨by omega, this.2.imp id fun h => h.2⟩
  · intro h
    rw [Bool.and_eq_true] at h
    refine List.all_eq_true.2 fun n hn => ?_
    have h1 := shrTo_at (List.mem_range.1 hn) h.1
    have h2 := amtTo_at (List.mem_range.1 hn) h.2
    unfold amtA at h2
    simp only [Bool.and_eq_true, Bool.or_eq_true, decide_eq_true_eq] at h2
    unfold cellOk shrB
    simp only [Bool.and_eq_true, Bool.or_eq_true, decide_eq_true_eq]
    exact ⟨h1, h2.2.imp id fun h => ⟨hk, h⟩⟩

theorem cells_out {i o : Int} {k : Nat} {xs : List Nat} (hk : ¬ (k : Int) < i) : cellsTo i o k xs 4 = amtTo 0 xs 4 := by
  rw [Bool.eq_iff_iff]
  constructor
  · intro h
    refine List.all_eq_true.2 fun n hn => ?_
    have := cellsTo_at (List.mem_range.1 hn) h
    have hs := cellsTo_shr (List.mem_range.1 hn) h
    unfold cellOk at this
    simp only [Bool.and_eq_true, Bool.or_eq_true, decide_eq_true_eq] at this
    unfold amtA amtB
    simp only [Bool.and_eq_true, Bool.or_eq_true, decide_eq_true_eq]
    exact ⟨by omega, this.2.imp id fun h => absurd h.1 hk⟩
  · intro h
    refine List.all_eq_true.2 fun n hn => ?_
    have h2 := amtTo_at (List.mem_range.1 hn) h
    unfold amtA at h2
    simp only [Bool.and_eq_true, Bool.or_eq_true, decide_eq_true_eq] at h2
    have h0 : nth xs n = 0 := h2.2.elim id (fun h => by omega)
    unfold cellOk shrB
    simp only [Bool.and_eq_true, Bool.or_eq_true, decide_eq_true_eq]
    exact ⟨by omega, .inl h0⟩

/-- what the model asks of a row -/
def rowS (i o : Int) (ts ps : List Nat) (k : Nat) : Bool := cellsTo i o k (row4 ts k) 4 && (if (k : Int) < i then oneB (sumL (row4 ts k)) && priB (nth ps k) else amtB (nth ps k) && decide (nth ps k = 0))

theorem rowS_eq (i o : Int) (ts ps : List Nat) (k : Nat) : rowS i o ts ps k = (amtA i k (nth ps k) && rowOk i o ts ps k) := by
  unfold rowS rowOk
  by_cases hk : (k : Int) < i
  · rw [if_pos hk, if_pos hk, cells_in hk]
    cases hp : priB (nth ps k)
    · simp
    · have hb := priB_amt hp
      have : amtA i k (nth ps k) = true := by unfold amtA amtB; simp; exact ⟨by omega, .inr hk⟩
      rw [this]; unfold turnsB; simp
  · rw [if_neg hk, if_neg hk, cells_out hk]
    have : amtA i k (nth ps k) = (amtB (nth ps k) && decide (nth ps k = 0)) := by unfold amtA; rw [decide_eq_false hk, Bool.or_false]
    rw [this, Bool.and_comm]

def rowsSTo (i o : Int) (ts ps : List Nat) (m : Nat) : Bool := (List.range m).all (rowS i o ts ps)

theorem rowsSTo_succ (i o : Int) (ts ps : List Nat) (m : Nat) : rowsSTo i o ts ps (m + 1) = (rowsSTo i o ts ps m && rowS i o ts ps m) := by
  unfold rowsSTo; rw [List.range_succ, List.all_append]; simp

theorem rowsS_eq (i o : Int) (ts ps : List Nat) : ∀ m, rowsSTo i o ts ps m = (amtTo i ps m && rowsTo i o ts ps m)
  | 0 => rfl
  | m + 1 => by
    rw [rowsSTo_succ, rowsS_eq i o ts ps m, rowS_eq, amtTo_succ, rowsTo_succ]
    cases amtTo i ps m <;> cases rowsTo i o ts ps m <;> cases amtA i m (nth ps m) <;> rfl

theorem okJ_model (i o : Int) (ts ps : List Nat) : okJ i o ts ps = (inB 1 4 i && inB 1 4 o && rowsSTo i o ts ps 4) := by
  rw [rowsS_eq]; unfold okJ; rw [Bool.and_assoc (inB 1 4 i && inB 1 4 o)]

theorem okJ_rowS {i o : Int} {ts ps : List Nat} {k : Nat} (hk : k < 4) (h : rowS i o ts ps k = false) : okJ i o ts ps = false := by
  rw [okJ_model]
  have : rowsSTo i o ts ps 4 = false := by
    rw [Bool.eq_false_iff]
    intro h2
    have := List.all_eq_true.1 h2 k (by simpa using hk)
    rw [h] at this; cases this
  rw [this, Bool.and_false]

theorem rowS_cell {i o : Int} {ts ps : List Nat} {k n : Nat} (hn : n < 4) (h : cellOk i o k n (nth (row4 ts k) n) = false) : rowS i o ts ps k = false := by
  have : cellsTo i o k (row4 ts k) 4 = false := by
    rw [Bool.eq_false_iff]
    intro h2
    rw [cellsTo_at hn h2] at h; cases h
  unfold rowS; rw [this]; rfl

end Go.Proofs.Ythljppdkplkohaa
