/-
  SEVERAL TEXTS IN ONE.
-/
import Derived.Test.YtboahhipobcabaaGreatArms
import Derived.Test.YtboahhipobcabaaGreatArith
import Derived.Test.YtboahhipobcabaaGreatG8

/-
  CONTRACTS: the turns of an in; what a valid junction is, as the program and as the model ask it.
-/
namespace Go.Proofs.YtboahhipobcabaaGreat
open Go Go.RowKit
set_option maxRecDepth 100000

/-- the sum of four numbers, from the first on: of the first m ones -/
def sumP (xs : List Nat) : Nat → Nat
  | 0 => 0
  | 1 => nth xs 0
  | m + 2 => addB (sumP xs (m + 1)) (nth xs (m + 1))
def sumL (xs : List Nat) : Nat := addB (addB (addB (nth xs 0) (nth xs 1)) (nth xs 2)) (nth xs 3)
theorem sumP_four (xs : List Nat) : sumP xs 4 = sumL xs := rfl
theorem AddR_amt {x y z : Nat} (hx : x ≤ 2139095040) (hy : y ≤ 2139095040) (h : AddR x y z) : z = addB x y ∧ z ≤ 2139095040 := by
  have := add_any hx hy
  rcases h.2 with k | ⟨k, -⟩
  · rw [this.1] at k; obtain rfl := Option.some.inj k; exact ⟨rfl, this.2⟩
  · rw [this.1] at k; cases k
theorem Sum4_amt {xs : List Nat} {v : Nat} (h : ∀ k, k < 4 → nth xs k ≤ 2139095040) (s : Sum4 (nth xs 0) (nth xs 1) (nth xs 2) (nth xs 3) v) : v = sumL xs ∧ v ≤ 2139095040 := by
  obtain ⟨y, z, h1, h2, h3⟩ := s
  obtain ⟨e1, l1⟩ := AddR_amt (h 0 (by omega)) (h 1 (by omega)) h1
  obtain ⟨e2, l2⟩ := AddR_amt l1 (h 2 (by omega)) h2
  obtain ⟨e3, l3⟩ := AddR_amt l2 (h 3 (by omega)) h3
  exact ⟨by rw [e3, e2, e1]; rfl, l3⟩
theorem sumP_amt {xs : List Nat} : ∀ m, (∀ k, k < m → nth xs k ≤ 2139095040) → sumP xs m ≤ 2139095040
  | 0, _ => by unfold sumP; omega
  | 1, h => h 0 (by omega)
  | m + 2, h => (add_any (sumP_amt (m + 1) fun k hk => h k (by omega)) (h (m + 1) (by omega))).2
theorem sumP_add {xs : List Nat} {m : Nat} (h0 : m ≠ 0) (h : ∀ k, k < m + 1 → nth xs k ≤ 2139095040) : floatBits .add .f32 (sumP xs m) (nth xs m) = some (sumP xs (m + 1)) := by
  obtain ⟨n, rfl⟩ : ∃ n, m = n + 1 := ⟨m - 1, by omega⟩
  exact (add_any (sumP_amt (n + 1) fun k hk => h k (by omega)) (h (n + 1) (by omega))).1

/-- the turns of an in: shares, 0 from arm o on, nearly 1 together -/
def oneB (v : Nat) : Bool := decide (1065336439 ≤ v) && decide (v ≤ 1065361605)
def turnsB (o : Int) (xs : List Nat) : Bool := shrTo xs 4 && amtTo o xs 4 && oneB (sumL xs)

set_option maxHeartbeats 400000 in
theorem isTurns_b (xs : List Nat) (hl : xs.length = 4) (hc : ∀ x ∈ xs, x < 4294967296) (o : Int) (w : World) :
    Calls Tryz.prog 172 #[.agg (fl xs), .int .i64 o] w fun e w' => e = .returned (.bool (turnsB o xs)) ∧ Below w.heap.size w w' := by
  have A0 := At.new w (fl xs) 68
  have SZ : (fl xs).size = 4 := by rw [fl_size, hl]
  go_enter Tryz.func172, Tryz.ntmps172
  go_wp2_with (((with_reducible refine is_load 68 _ rfl ?_); refine wpList_load_at rfl 68 _ rfl _ rfl (fl xs) _ (by assumption) 4 (SZ) _ Tryz.underlying68 rfl (by kernel_rfl) ?_))
  refine (SumOfFour_any xs hl _).mono ?_
  rintro e w1 ⟨v, rfl, hv, hb1⟩
  have A1 := A0.step hb1
  have B1 := Lib.hid (bthen (b0 w (.cells (fl xs) 68)) hb1)
  clear A0 hb1
  cases hs : shrTo xs 4
  · have hr : turnsB o xs = false := by unfold turnsB; rw [hs]; rfl
    clear hv
    go_wp2_with (((with_reducible refine is_load 68 _ rfl ?_); refine wpList_load_at rfl 68 _ rfl _ rfl (fl xs) _ (by assumption) 4 (SZ) _ Tryz.underlying68 rfl (by kernel_rfl) ?_))
    refine (areShares_b xs hl hc _).mono ?_
    rw [hs]
    rintro e w2 ⟨rfl, hb2⟩
    go_wp2_with fail
    go_ret
    exact ⟨by rw [hr]; rfl, bthen B1.out hb2⟩
  · obtain ⟨rfl, hle⟩ := Sum4_amt (fun k hk => Nat.le_trans (shrTo_at hk hs) (by omega)) hv
    clear hv
    have m1 := ge_amt (x := sumL xs) (y := 1065336439) hle (by omega)
    have m2 := le_amt (x := sumL xs) (y := 1065361605) hle (by omega)
    clear hle
    cases ha : amtTo o xs 4
    · have hr : turnsB o xs = false := by unfold turnsB; rw [hs, ha]; rfl
      go_wp2_with (((with_reducible refine is_load 68 _ rfl ?_); refine wpList_load_at rfl 68 _ rfl _ rfl (fl xs) _ (by assumption) 4 (SZ) _ Tryz.underlying68 rfl (by kernel_rfl) ?_))
      refine (areShares_b xs hl hc _).mono ?_
      rw [hs]
      rintro e w2 ⟨rfl, hb2⟩
      have A2 := A1.step hb2
      go_wp2_with (((with_reducible refine is_load 68 _ rfl ?_); refine wpList_load_g rfl 68 _ rfl _ rfl (fl xs) _ (by assumption) 4 (SZ) _ Tryz.underlying68 rfl (by kernel_rfl) ?_))
      refine (areAmountsOf_b o xs hl hc _).mono ?_
      rw [ha]
      rintro e w3 ⟨rfl, hb3⟩
      go_wp2_with fail
      go_ret
      exact ⟨by rw [hr]; rfl, bthen (bthen B1.out hb2) hb3⟩
    · have hr : Hid (turnsB o xs = oneB (sumL xs)) := Lib.hid (by unfold turnsB; rw [hs, ha]; rfl)
      have hsP : Hid (shrTo xs 4 = true) := Lib.hid hs
      by_cases c1 : 1065336439 ≤ sumL xs
      · rw [decide_eq_true c1] at m1
        have hq : Hid (oneB (sumL xs) = decide (sumL xs ≤ 1065361605)) := Lib.hid (by unfold oneB; rw [decide_eq_true c1]; rfl)
        clear c1
        go_wp2_with (((with_reducible refine is_load 68 _ rfl ?_); refine wpList_load_at rfl 68 _ rfl _ rfl (fl xs) _ (by assumption) 4 (SZ) _ Tryz.underlying68 rfl (by kernel_rfl) ?_))
        refine (areShares_b xs hl hc _).mono ?_
        rw [hs]
        rintro e w2 ⟨rfl, hb2⟩
        have A2 := A1.step hb2
        go_wp2_with (((with_reducible refine is_load 68 _ rfl ?_); refine wpList_load_g rfl 68 _ rfl _ rfl (fl xs) _ (by assumption) 4 (SZ) _ Tryz.underlying68 rfl (by kernel_rfl) ?_))
        refine (areAmountsOf_b o xs hl hc _).mono ?_
        rw [ha]
        rintro e w3 ⟨rfl, hb3⟩
        go_wp2_with fail
        go_ret
        exact ⟨by rw [hr.out, hq.out]; rfl, bthen (bthen B1.out hb2) hb3⟩
      · rw [decide_eq_false c1] at m1
        have hq : Hid (oneB (sumL xs) = false) := Lib.hid (by unfold oneB; rw [decide_eq_false c1]; rfl)
        clear c1
        go_wp2_with (((with_reducible refine is_load 68 _ rfl ?_); refine wpList_load_at rfl 68 _ rfl _ rfl (fl xs) _ (by assumption) 4 (SZ) _ Tryz.underlying68 rfl (by kernel_rfl) ?_))
        refine (areShares_b xs hl hc _).mono ?_
        rw [hs]
        rintro e w2 ⟨rfl, hb2⟩
        have A2 := A1.step hb2
        go_wp2_with (((with_reducible refine is_load 68 _ rfl ?_); refine wpList_load_g rfl 68 _ rfl _ rfl (fl xs) _ (by assumption) 4 (SZ) _ Tryz.underlying68 rfl (by kernel_rfl) ?_))
        refine (areAmountsOf_b o xs hl hc _).mono ?_
        rw [ha]
        rintro e w3 ⟨rfl, hb3⟩
        go_wp2_with fail
        go_ret
        exact ⟨by rw [hr.out, hq.out]; rfl, bthen (bthen B1.out hb2) hb3⟩

/-- a row of turns, with its priority -/
def rowOk (i o : Int) (ts ps : List Nat) (k : Nat) : Bool := if (k : Int) < i then turnsB o (row4 ts k) && priB (nth ps k) else amtTo 0 (row4 ts k) 4
def rowsTo (i o : Int) (ts ps : List Nat) (m : Nat) : Bool := (List.range m).all (rowOk i o ts ps)
/-- a junction is valid -/
def okJ (i o : Int) (ts ps : List Nat) : Bool := inB 1 4 i && inB 1 4 o && amtTo i ps 4 && rowsTo i o ts ps 4
theorem rowsTo_succ (i o : Int) (ts ps : List Nat) (m : Nat) : rowsTo i o ts ps (m + 1) = (rowsTo i o ts ps m && rowOk i o ts ps m) := by
  unfold rowsTo; rw [List.range_succ, List.all_append]; simp
theorem rowsTo_no {i o : Int} {ts ps : List Nat} {m k : Nat} (hk : k < m) (h : rowOk i o ts ps k = false) : rowsTo i o ts ps m = false := by
  rw [Bool.eq_false_iff]
  intro h2
  have := List.all_eq_true.1 h2 k (by simpa using hk)
  rw [h] at this; cases this
theorem rowsTo_at {i o : Int} {ts ps : List Nat} {m k : Nat} (hk : k < m) (h : rowsTo i o ts ps m = true) : rowOk i o ts ps k = true :=
  List.all_eq_true.1 h k (by simpa using hk)
theorem okJ_row {i o : Int} {ts ps : List Nat} {k : Nat} (hk : k < 4) (h : rowOk i o ts ps k = false) : okJ i o ts ps = false := by
  unfold okJ; rw [rowsTo_no hk h, Bool.and_false]

/-- what the model asks of a turn -/
def cellOk (i o : Int) (k n a : Nat) : Bool := shrB a && (decide (a = 0) || (decide ((k : Int) < i) && decide ((n : Int) < o)))
def cellsTo (i o : Int) (k : Nat) (xs : List Nat) (m : Nat) : Bool := (List.range m).all fun n => cellOk i o k n (nth xs n)
theorem cellsTo_succ (i o : Int) (k : Nat) (xs : List Nat) (m : Nat) : cellsTo i o k xs (m + 1) = (cellsTo i o k xs m && cellOk i o k m (nth xs m)) := by
  unfold cellsTo; rw [List.range_succ, List.all_append]; simp
theorem cellsTo_at {i o : Int} {k : Nat} {xs : List Nat} {m n : Nat} (hk : n < m) (h : cellsTo i o k xs m = true) : cellOk i o k n (nth xs n) = true :=
  List.all_eq_true.1 h n (by simpa using hk)
theorem cellsTo_shr {i o : Int} {k : Nat} {xs : List Nat} {m n : Nat} (hk : n < m) (h : cellsTo i o k xs m = true) : nth xs n ≤ 1065353216 := by
  have := cellsTo_at hk h
  unfold cellOk shrB at this
  simp at this
  exact this.1
theorem cells_in {i o : Int} {k : Nat} {xs : List Nat} (hk : (k : Int) < i) : cellsTo i o k xs 4 = (shrTo xs 4 && amtTo o xs 4) := by
  rw [Bool.eq_iff_iff]
  constructor
  · intro h
    rw [Bool.and_eq_true]
    refine ⟨List.all_eq_true.2 fun n hn => ?_, List.all_eq_true.2 fun n hn => ?_⟩
    · have := cellsTo_at (List.mem_range.1 hn) h
      unfold cellOk at this
      rw [Bool.and_eq_true] at this
      exact this.1
    · have := cellsTo_at (List.mem_range.1 hn) h
      have hs := cellsTo_shr (List.mem_range.1 hn) h
      unfold cellOk at this
      simp only [Bool.and_eq_true, Bool.or_eq_true, decide_eq_true_eq] at this
      unfold amtA amtB
      simp only [Bool.and_eq_true, Bool.or_eq_true, decide_eq_true_eq]
      exact ⟨by omega, this.2.imp id fun h => h.2⟩
  · intro h
    rw [Bool.and_eq_true] at h
    refine List.all_eq_true.2 fun n hn => ?_
    have h1 := shrTo_at (List.mem_range.1 hn) h.1
    have h2 := amtTo_at (List.mem_range.1 hn) h.2
    unfold amtA at h2
    simp only [Bool.and_eq_true, Bool.or_eq_true, decide_eq_true_eq] at h2
    unfold cellOk shrB
    simp only [Bool.and_eq_true, Bool.or_eq_true, decide_eq_true_eq]
    exact ⟨h1, h2.2.imp id fun h => ⟨hk, h⟩⟩
theorem cells_out {i o : Int} {k : Nat} {xs : List Nat} (hk : ¬ (k : Int) < i) : cellsTo i o k xs 4 = amtTo 0 xs 4 := by
  rw [Bool.eq_iff_iff]
  constructor
  · intro h
    refine List.all_eq_true.2 fun n hn => ?_
    have := cellsTo_at (List.mem_range.1 hn) h
    have hs := cellsTo_shr (List.mem_range.1 hn) h
    unfold cellOk at this
    simp only [Bool.and_eq_true, Bool.or_eq_true, decide_eq_true_eq] at this
    unfold amtA amtB
    simp only [Bool.and_eq_true, Bool.or_eq_true, decide_eq_true_eq]
    exact ⟨by omega, this.2.imp id fun h => absurd h.1 hk⟩
  · intro h
    refine List.all_eq_true.2 fun n hn => ?_
    have h2 := amtTo_at (List.mem_range.1 hn) h
    unfold amtA at h2
    simp only [Bool.and_eq_true, Bool.or_eq_true, decide_eq_true_eq] at h2
    have h0 : nth xs n = 0 := h2.2.elim id (fun h => by omega)
    unfold cellOk shrB
    simp only [Bool.and_eq_true, Bool.or_eq_true, decide_eq_true_eq]
    exact ⟨by omega, .inl h0⟩
/-- what the model asks of a row -/
def rowS (i o : Int) (ts ps : List Nat) (k : Nat) : Bool := cellsTo i o k (row4 ts k) 4 && (if (k : Int) < i then oneB (sumL (row4 ts k)) && priB (nth ps k) else amtB (nth ps k) && decide (nth ps k = 0))
theorem rowS_eq (i o : Int) (ts ps : List Nat) (k : Nat) : rowS i o ts ps k = (amtA i k (nth ps k) && rowOk i o ts ps k) := by
  unfold rowS rowOk
  by_cases hk : (k : Int) < i
  · rw [if_pos hk, if_pos hk, cells_in hk]
    cases hp : priB (nth ps k)
    · simp
    · have hb := priB_amt hp
      have : amtA i k (nth ps k) = true := by unfold amtA amtB; simp; exact ⟨by omega, .inr hk⟩
      rw [this]; unfold turnsB; simp
  · rw [if_neg hk, if_neg hk, cells_out hk]
    have : amtA i k (nth ps k) = (amtB (nth ps k) && decide (nth ps k = 0)) := by unfold amtA; rw [decide_eq_false hk, Bool.or_false]
    rw [this, Bool.and_comm]
def rowsSTo (i o : Int) (ts ps : List Nat) (m : Nat) : Bool := (List.range m).all (rowS i o ts ps)
theorem rowsSTo_succ (i o : Int) (ts ps : List Nat) (m : Nat) : rowsSTo i o ts ps (m + 1) = (rowsSTo i o ts ps m && rowS i o ts ps m) := by
  unfold rowsSTo; rw [List.range_succ, List.all_append]; simp
theorem rowsS_eq (i o : Int) (ts ps : List Nat) : ∀ m, rowsSTo i o ts ps m = (amtTo i ps m && rowsTo i o ts ps m)
  | 0 => rfl
  | m + 1 => by
    rw [rowsSTo_succ, rowsS_eq i o ts ps m, rowS_eq, amtTo_succ, rowsTo_succ]
    cases amtTo i ps m <;> cases rowsTo i o ts ps m <;> cases amtA i m (nth ps m) <;> rfl
theorem okJ_model (i o : Int) (ts ps : List Nat) : okJ i o ts ps = (inB 1 4 i && inB 1 4 o && rowsSTo i o ts ps 4) := by
  rw [rowsS_eq]; unfold okJ; rw [Bool.and_assoc (inB 1 4 i && inB 1 4 o)]
theorem okJ_rowS {i o : Int} {ts ps : List Nat} {k : Nat} (hk : k < 4) (h : rowS i o ts ps k = false) : okJ i o ts ps = false := by
  rw [okJ_model]
  have : rowsSTo i o ts ps 4 = false := by
    rw [Bool.eq_false_iff]
    intro h2
    have := List.all_eq_true.1 h2 k (by simpa using hk)
    rw [h] at this; cases this
  rw [this, Bool.and_false]
theorem rowS_cell {i o : Int} {ts ps : List Nat} {k n : Nat} (hn : n < 4) (h : cellOk i o k n (nth (row4 ts k) n) = false) : rowS i o ts ps k = false := by
  have : cellsTo i o k (row4 ts k) 4 = false := by
    rw [Bool.eq_false_iff]
    intro h2
    rw [cellsTo_at hn h2] at h; cases h
  unfold rowS; rw [this]; rfl

end Go.Proofs.YtboahhipobcabaaGreat

/-
  CONTRACTS: ValidJunction, the program's.
-/
namespace Go.Proofs.YtboahhipobcabaaGreat
open Go Go.RowKit
set_option maxRecDepth 100000

/-- a row out of rows -/
theorem run_index_row (w : World) {ts : List Nat} (hl : ts.length = 16) {k : Nat} (hk : k < 4) :
    (Instr.index 67 (.agg (fl ts)) (.int .i64 k)).run Tryz.prog w = .ok (.agg (fl (row4 ts k))) w := by
  have hu := Tryz.underlying67
  have hue := Tryz.underlying65
  have hagg : (isAgg 65).run Tryz.prog w = .ok true w := by
    unfold isAgg
    rw [Sem.run_bind, run_underlying hue w]
    rfl
  have hk' : ((k : Int)).toNat = k := Int.toNat_natCast k
  have hs : (Tryz.prog.info? 65).map (·.size) = some 4 := by kernel_rfl
  cases hq : Tryz.prog.info? 65 with
  | none => rw [hq] at hs; cases hs
  | some d =>
    have hs' : d.size = 4 := by simpa [hq] using hs
    simp [Instr.index, asIntOf, run_underlying hu, hk, sizeOf, typeInfo, hq, hs', part, hagg, fl_row hl hk (show k * 4 = 4 * k from Nat.mul_comm _ _)]

set_option maxHeartbeats 1000000 in
theorem ValidJunction_b (i o : Int) (ts ps : List Nat) (hi : -9223372036854775808 ≤ i ∧ i ≤ 9223372036854775807) (ho : -9223372036854775808 ≤ o ∧ o ≤ 9223372036854775807) (hlt : ts.length = 16) (hlp : ps.length = 4) (hct : ∀ x ∈ ts, x < 4294967296) (hcp : ∀ x ∈ ps, x < 4294967296) (w : World) :
    Calls Tryz.prog 151 #[.agg (jn i o ts ps)] w fun e w' => e = .returned (.bool (okJ i o ts ps)) ∧ Below w.heap.size w w' := by
  have A0 := At.new w (jn i o ts ps) 70
  have B0 := Lib.hid (b0 w (.cells (jn i o ts ps) 70))
  have SZ := jn_size hlt hlp i o
  clear hi ho
  cases h1 : inB 1 4 i
  · have hr : okJ i o ts ps = false := by unfold okJ; rw [h1]; rfl
    go_enter Tryz.func151, Tryz.ntmps151
    go_wp2_with (((with_reducible refine is_load 2 _ rfl ?_); refine wpList_load_cell rfl 2 _ rfl _ 0 rfl (jn i o ts ps) _ (by assumption) _ Tryz.underlying2 rfl (.int .i64 i) (jn_ins i o ts ps) ?_))
    refine (isArmCount_b i _).mono ?_
    rw [h1]
    rintro e w1 ⟨rfl, n1, rfl⟩
    go_wp2_with fail
    go_ret
    exact ⟨by rw [hr]; rfl, bdrew B0.out _⟩
  cases h2 : inB 1 4 o
  · have hr : okJ i o ts ps = false := by unfold okJ; rw [h2, Bool.and_false]; rfl
    go_enter Tryz.func151, Tryz.ntmps151
    go_wp2_with (((with_reducible refine is_load 2 _ rfl ?_); refine wpList_load_cell rfl 2 _ rfl _ 0 rfl (jn i o ts ps) _ (by assumption) _ Tryz.underlying2 rfl (.int .i64 i) (jn_ins i o ts ps) ?_))
    refine (isArmCount_b i _).mono ?_
    rw [h1]
    rintro e w1 ⟨rfl, n1, rfl⟩
    have A1 := A0.drewN n1
    go_wp2_with (((with_reducible refine is_load 2 _ rfl ?_); refine wpList_load_cell_g rfl 2 _ rfl _ 1 rfl (jn i o ts ps) _ (by assumption) _ Tryz.underlying2 rfl (.int .i64 o) (jn_outs i o ts ps) ?_))
    refine (isArmCount_b o _).mono ?_
    rw [h2]
    rintro e w2 ⟨rfl, n2, rfl⟩
    go_wp2_with fail
    go_ret
    exact ⟨by rw [hr]; rfl, bdrew B0.out _⟩
  go_enter Tryz.func151, Tryz.ntmps151
  go_wp2_with (((with_reducible refine is_load 2 _ rfl ?_); refine wpList_load_cell rfl 2 _ rfl _ 0 rfl (jn i o ts ps) _ (by assumption) _ Tryz.underlying2 rfl (.int .i64 i) (jn_ins i o ts ps) ?_))
  refine (isArmCount_b i _).mono ?_
  rw [h1]
  rintro e w1 ⟨rfl, n1, rfl⟩
  have A1 := A0.drewN n1
  go_wp2_with (((with_reducible refine is_load 2 _ rfl ?_); refine wpList_load_cell_g rfl 2 _ rfl _ 1 rfl (jn i o ts ps) _ (by assumption) _ Tryz.underlying2 rfl (.int .i64 o) (jn_outs i o ts ps) ?_))
  refine (isArmCount_b o _).mono ?_
  rw [h2]
  rintro e w2 ⟨rfl, n2, rfl⟩
  have A2 := A1.drewN n2
  have B2 := Lib.hid (bdrew (bdrew B0.out n1) n2)
  generalize hw2 : World.drewN _ _ = w2 at A2 B2 ⊢
  clear A0 B0 A1 hw2
  go_wp2_with (first | ((with_reducible refine is_load 2 _ rfl ?_); refine wpList_load_cell_g rfl 2 _ rfl _ 0 rfl (jn i o ts ps) _ (by assumption) _ Tryz.underlying2 rfl (.int .i64 i) (jn_ins i o ts ps) ?_) | ((with_reducible refine is_load 68 _ rfl ?_); refine wpList_load_part_g rfl 68 _ rfl _ 18 rfl (jn i o ts ps) _ (by assumption) 4 (by rw [SZ]; omega) _ Tryz.underlying68 rfl (by kernel_rfl) (fl ps) (jn_priors hlt hlp i o) ?_))
  refine (areAmountsOf_b i ps hlp hcp _).mono ?_
  cases h3 : amtTo i ps 4
  · have hr : okJ i o ts ps = false := by unfold okJ; rw [h3, Bool.and_false]; rfl
    rintro e w3 ⟨rfl, hb3⟩
    go_wp2_with fail
    go_ret
    exact ⟨by rw [hr]; rfl, bthen B2.out hb3⟩
  have hok : Hid (okJ i o ts ps = rowsTo i o ts ps 4) := Lib.hid (by unfold okJ; rw [h1, h2, h3]; rfl)
  rintro e w3 ⟨rfl, hb3⟩
  have A3 := A2.step hb3
  have B3 := Lib.hid (bthen B2.out hb3)
  clear A2 B2 hb3 h1 h2 h3
  go_wp2_with (((with_reducible refine is_load 67 _ rfl ?_); refine wpList_load_part rfl 67 _ rfl _ 2 rfl (jn i o ts ps) _ (by assumption) 16 (by rw [SZ]; omega) _ Tryz.underlying67 rfl (by kernel_rfl) (fl ts) (jn_turns hlt hlp i o) ?_))
  go_loopw [25] (fun i' wr => ∃ k : Nat, k ≤ 4 ∧ i' = .int .i64 k ∧ Hid (rowsTo i o ts ps k = true) ∧ At wr w.heap.size (jn i o ts ps) 70 ∧ Hid (Below w.heap.size w wr)) (fun i' _ => 4 - (intOf i').toNat)
  case atStart => exact ⟨0, by omega, rfl, Lib.hid rfl, A3, B3⟩
  case round =>
    clear A3 B3
    obtain ⟨k, hk, rfl, hall, A4, B4⟩ := hrel
    by_cases hlk : k < 4
    · have hix := fun W => run_index_row W hlt hlk
      have rl := row4_len hlt hlk
      have hcr : ∀ x ∈ row4 ts k, x < 4294967296 := fun x hx => hct x (row4_mem k hx)
      have hpk := u32_lt hcp k
      have s2 : IntKind.i64.wrap ((k : Int) + 1) = (k : Int) + 1 := IntWalk.i64_in _ (by omega)
      have N5 := (At.new wr (#[.float .f32 0, .float .f32 0, .float .f32 0, .float .f32 0]) 65).setRow (fl (row4 ts k))
      have N4 := At.new wr (#[.float .f32 0, .float .f32 0, .float .f32 0, .float .f32 0]) 65
      have A5 := (A4.alloc (.cells (#[.float .f32 0, .float .f32 0, .float .f32 0, .float .f32 0]) 65)).setRow_other (k := wr.heap.size) (Nat.ne_of_lt A4.lt) (fl (row4 ts k))
      have B5 := Lib.hid (bset (bnew B4.out (.cells (#[.float .f32 0, .float .f32 0, .float .f32 0, .float .f32 0]) 65)) (g := wr.heap.size) B4.out.size (fl (row4 ts k)))
      go_wp2_with (first | ((with_reducible refine is_store 65 (.tmp 4) (.tmp 28) rfl ?_); refine wpList_store_at rfl 65 (.tmp 4) (.tmp 28) rfl _ rfl (fl (row4 ts k)) rfl (#[.float .f32 0, .float .f32 0, .float .f32 0, .float .f32 0]) _ (by assumption) 4 (by rw [fl_size, rl]) (rfl) (by kernel_rfl) (fl_one _) ?_) | ((with_reducible refine is_load 2 _ rfl ?_); refine wpList_load_cell rfl 2 _ rfl _ 0 rfl (jn i o ts ps) _ (by assumption) _ Tryz.underlying2 rfl (.int .i64 i) (jn_ins i o ts ps) ?_))
      refine (isArm_b k i _).mono ?_
      by_cases hki : (k : Int) < i
      · rw [decide_eq_true (⟨by omega, hki⟩ : 0 ≤ (k : Int) ∧ (k : Int) < i)]
        rintro e w5 ⟨rfl, n5, rfl⟩
        have N6 := N5.drewN n5
        have A6 := A5.drewN n5
        have B6 := Lib.hid (bdrew B5.out n5)
        generalize hw6 : World.drewN _ _ = w6 at A6 B6 N6 ⊢
        clear N4 N5 A5 B5 A4 B4 hw6
        have hrow : Hid (rowOk i o ts ps k = (turnsB o (row4 ts k) && priB (nth ps k))) := Lib.hid (by unfold rowOk; rw [if_pos hki])
        clear hki
        go_wp2_with (first | ((with_reducible refine is_load 65 _ rfl ?_); refine wpList_load_at rfl 65 _ rfl _ rfl (fl (row4 ts k)) _ (by assumption) 4 (by rw [fl_size, rl]) _ Tryz.underlying65 rfl (by kernel_rfl) ?_) | ((with_reducible refine is_load 2 _ rfl ?_); refine wpList_load_cell rfl 2 _ rfl _ 1 rfl (jn i o ts ps) _ (by assumption) _ Tryz.underlying2 rfl (.int .i64 o) (jn_outs i o ts ps) ?_))
        refine (isTurns_b (row4 ts k) rl hcr o _).mono ?_
        cases ht : turnsB o (row4 ts k)
        · have hr : okJ i o ts ps = false := okJ_row hlk (by rw [hrow.out, ht]; rfl)
          rintro e w7 ⟨rfl, hb7⟩
          go_wp2_with fail
          go_ret
          exact ⟨by rw [hr]; rfl, bthen B6.out hb7⟩
        rintro e w7 ⟨rfl, hb7⟩
        have A7 := A6.step hb7
        have B7 := Lib.hid (bthen B6.out hb7)
        clear A6 B6 N6 hb7
        go_wp2_with (((with_reducible refine is_load 26 _ rfl ?_); refine wpList_load_cell_g rfl 26 _ rfl _ _ rfl (jn i o ts ps) _ (by assumption) _ Tryz.underlying26 rfl (.float .f32 (nth ps k)) (jn_prior hlt hlp i o hlk (by omega)) ?_))
        refine (isPrior_b (nth ps k) hpk _).mono ?_
        cases hp : priB (nth ps k)
        · have hr : okJ i o ts ps = false := okJ_row hlk (by rw [hrow.out, hp, Bool.and_false])
          rintro e w8 ⟨rfl, n8, rfl⟩
          go_wp2_with fail
          go_ret
          exact ⟨by rw [hr]; rfl, bdrew B7.out _⟩
        rintro e w8 ⟨rfl, n8, rfl⟩
        go_wp2_with fail
        exact ⟨⟨k + 1, by omega, by go_num, Lib.hid (by rw [rowsTo_succ, hall.out, hrow.out, ht, hp]; rfl), A7.drewN _, Lib.hid (bdrew B7.out _)⟩, by simp [intOf]; omega⟩
      · rw [decide_eq_false (by omega : ¬ (0 ≤ (k : Int) ∧ (k : Int) < i))]
        rintro e w5 ⟨rfl, n5, rfl⟩
        have N6 := N5.drewN n5
        have A6 := A5.drewN n5
        have B6 := Lib.hid (bdrew B5.out n5)
        generalize hw6 : World.drewN _ _ = w6 at A6 B6 N6 ⊢
        clear N4 N5 A5 B5 A4 B4 hw6
        have hrow : Hid (rowOk i o ts ps k = amtTo 0 (row4 ts k) 4) := Lib.hid (by unfold rowOk; rw [if_neg hki])
        clear hki
        go_wp2_with (((with_reducible refine is_load 65 _ rfl ?_); refine wpList_load_at rfl 65 _ rfl _ rfl (fl (row4 ts k)) _ (by assumption) 4 (by rw [fl_size, rl]) _ Tryz.underlying65 rfl (by kernel_rfl) ?_))
        refine (areAmountsOf_b 0 (row4 ts k) rl hcr _).mono ?_
        cases ht : amtTo 0 (row4 ts k) 4
        · have hr : okJ i o ts ps = false := okJ_row hlk (by rw [hrow.out, ht])
          rintro e w7 ⟨rfl, hb7⟩
          go_wp2_with fail
          go_ret
          exact ⟨by rw [hr]; rfl, bthen B6.out hb7⟩
        rintro e w7 ⟨rfl, hb7⟩
        have A7 := A6.step hb7
        go_wp2_with fail
        exact ⟨⟨k + 1, by omega, by go_num, Lib.hid (by rw [rowsTo_succ, hall.out, hrow.out, ht]; rfl), A7, Lib.hid (bthen B6.out hb7)⟩, by simp [intOf]; omega⟩
    · obtain rfl : k = 4 := by omega
      go_wp2
      go_ret
      exact ⟨by rw [hok.out, hall.out]; rfl, B4.out⟩

end Go.Proofs.YtboahhipobcabaaGreat
