/-
  TABLES of drawn movements: they are valid; what conflicts; phases and tables held against themselves.
-/
import Derived.Test.YtboahhipobcababDrw4
import Derived.Test.YtboahhipobcababSlEq
import Derived.Test.YtboahhipobcababWayT
import Derived.Test.YtboahhipobcababClear
import Derived.Test.YtboahhipobcababPhOf
namespace Go.Proofs.Ytboahhipobcabab
open Go Go.RowKit
set_option maxRecDepth 100000

theorem run_part_row (w : World) (ts : List Bool) (hl : ts.length = 64) (k : Nat) (hk : k < 8) : (part 61 (bl ts) (k * 8)).run Try.prog w = .ok (.agg (bl (row8 ts k))) w := by
  have hagg : (isAgg 61).run Try.prog w = .ok true w := by
    unfold isAgg
    rw [Sem.run_bind, run_underlying Try.underlying61 w]
    rfl
  have hi : (Try.prog.info? 61).map (·.size) = some 8 := by kernel_rfl
  have hx := bl_row hl hk (off := k * 8) (by omega)
  cases hq : Try.prog.info? 61 with
  | none => simp [hq] at hi
  | some i =>
    have hsz : i.size = 8 := by simpa [hq] using hi
    simp [part, Sem.run_bind, hagg, sizeOf, typeInfo, hq, hsz, hx]

/-- a table is itself -/
theorem run_eq_table (w : World) (d : Nat) (ts : List Bool) (hl : ts.length = 64) :
    (Op.equalIn (d + 3) 65 (.agg (bl ts)) (.agg (bl ts))).run Try.prog w = .ok true w := by
  have he : (Try.prog.info? 61).map (·.size) = some 8 := by kernel_rfl
  cases hq : Try.prog.info? 61 with
  | none => simp [hq] at he
  | some i =>
    have hs : i.size = 8 := by simpa [hq] using he
    unfold Op.equalIn
    simp only [Sem.run_bind, run_underlying Try.underlying65 w, Result.andThen_ok, sizeOf, typeInfo]
    simp [hq, hs]
    rw [forInB_run w _ (fun _ => true) _ ?_]
    · simp
    · intro k hk s
      have hk' : k < 8 := by simpa [List.mem_range'_1] using hk
      rw [Sem.run_bind, run_part_row w ts hl k hk']
      simp only [Result.andThen_ok]
      rw [Sem.run_bind, run_part_row w ts hl k hk']
      simp only [Result.andThen_ok]
      rw [Sem.run_bind, run_eq_bools w d 61 4 8 (row8 ts k) (row8 ts k) Try.underlying61 Try.underlying4 (by kernel_rfl) (row8_len hl hk') (row8_len hl hk')]
      simp

theorem run_neq_table (w : World) (ts : List Bool) (hl : ts.length = 64) : (binOp .neq 65 (.agg (bl ts)) (.agg (bl ts))).run Try.prog w = .ok (.bool false) w := by
  have h := run_eq_table w 9997 ts hl
  have e : (binOp .neq 65 (.agg (bl ts)) (.agg (bl ts))).run Try.prog w = ((Op.equalIn 10000 65 (.agg (bl ts)) (.agg (bl ts))).run Try.prog w).andThen fun b w' => .ok (.bool (!b)) w' := by rw [run_neq_struct]
  rw [e, show (10000 : Nat) = 9997 + 3 from rfl, h]; rfl

theorem run_eql_phase (w : World) (ps : List Bool) (hl : ps.length = 8) : (binOp .eql 69 (.agg (bl ps)) (.agg (bl ps))).run Try.prog w = .ok (.bool true) w := by
  have h := run_eq_bools w 9998 69 4 8 ps ps Try.underlying69 Try.underlying4 (by kernel_rfl) hl hl
  have e : (binOp .eql 69 (.agg (bl ps)) (.agg (bl ps))).run Try.prog w = ((Op.equalIn 10000 69 (.agg (bl ps)) (.agg (bl ps))).run Try.prog w).andThen fun b w' => .ok (.bool b) w' := by rw [run_eql_struct]
  rw [e, show (10000 : Nat) = 9998 + 2 from rfl, h]; simp

/-- a way that was drawn -/
theorem MvOk.wayB {fs ts : List Int} {n : Nat} (h : MvOk fs ts n) {i : Nat} (hi : i < n) : wayB (ith fs i) (ith ts i) = true := by
  obtain ⟨m, x, hm, hx, h1, h2⟩ := h.way i hi
  unfold Go.Proofs.Ytboahhipobcabab.wayB
  rw [h1, h2]
  simp only [Bool.and_eq_true, decide_eq_true_eq, Bool.not_eq_true', decide_eq_false_iff_not]
  omega

theorem MvOk.aw {fs ts : List Int} {n : Nat} (h : MvOk fs ts n) (hn : n ≤ 8) : awB fs ts (n : Int) = true := by
  rw [awB_w (by omega)]
  have key : ∀ k, k ≤ 8 → wsOk fs ts (n : Int) k = true := by
    intro k
    induction k with
    | zero => intro _; rfl
    | succ k ih =>
      intro hk
      refine wsOk_next (ih (by omega)) ?_
      unfold wyOk
      by_cases c : (k : Int) < (n : Int)
      · rw [if_pos c]; exact h.wayB (by omega)
      · rw [if_neg c]
        exact decide_eq_true (h.non k (by omega) (by omega))
  exact key 8 (Nat.le_refl _)

/-- the table of movements -/
def tbM (fs ts : List Int) (n : Nat) : List Bool := fT n (mfn fs ts) n 0

theorem tbM_len (fs ts : List Int) (n : Nat) : (tbM fs ts n).length = 64 := fT_len _ _ _ _

theorem tbM_at (fs ts : List Int) {n i k : Nat} (hi : i < 8) (hk : k < 8) : tb (tbM fs ts n) i k = (decide (i < n) && (decide (k < n) && mfn fs ts i k)) := by
  unfold tb tbM fT bn
  rw [List.getD_eq_getElem?_getD, List.getElem?_map, List.getElem?_range (by omega)]
  have h1 : (i * 8 + k) / 8 = i := by omega
  have h2 : (i * 8 + k) % 8 = k := by omega
  simp only [Option.map_some, Option.getD_some, h1, h2]
  congr 1
  exact decide_eq_decide.2 ⟨fun h => by omega, fun h => .inl h⟩

theorem mt_sym4 : ∀ a b c d : Fin 4, a ≠ b → c ≠ d → mtB a.val b.val c.val d.val = mtB c.val d.val a.val b.val := by decide +kernel

theorem mt_sym {fa ta fb tb : Int} (h1 : wayB fa ta = true) (h2 : wayB fb tb = true) : mtB fa ta fb tb = mtB fb tb fa ta := by
  unfold wayB at h1 h2
  simp only [Bool.and_eq_true, decide_eq_true_eq, Bool.not_eq_true', decide_eq_false_iff_not] at h1 h2
  have := mt_sym4 ⟨fa.toNat, by omega⟩ ⟨ta.toNat, by omega⟩ ⟨fb.toNat, by omega⟩ ⟨tb.toNat, by omega⟩ (by intro h; have := congrArg Fin.val h; simp at this; omega) (by intro h; have := congrArg Fin.val h; simp at this; omega)
  simpa [Int.toNat_of_nonneg h1.1.1, Int.toNat_of_nonneg h1.2.1.1, Int.toNat_of_nonneg h2.1.1, Int.toNat_of_nonneg h2.2.1.1] using this

theorem mt_self (f t : Int) (t' : Int) : mtB f t f t' = false := by unfold mtB; rw [if_pos rfl]

theorem okT_of {ts : List Bool} (h1 : ∀ i k, i < 8 → k < 8 → tb ts i k = tb ts k i) (h2 : ∀ i, i < 8 → tb ts i i = false) : okT ts = true := by
  have row : ∀ i, i < 8 → ∀ m, m ≤ i → rowEq ts i m = true := by
    intro i hi m
    induction m with
    | zero => intro _; rfl
    | succ m ih => intro hm; exact rowEq_next (ih (by omega)) (h1 i m hi (by omega))
  have rows : ∀ m, m ≤ 8 → rowsT ts m = true := by
    intro m
    induction m with
    | zero => intro _; rfl
    | succ m ih => intro hm; exact rowsT_next (ih (by omega)) (row m (by omega) m (Nat.le_refl _)) (h2 m (by omega))
  exact rows 8 (Nat.le_refl _)

theorem tbM_ok {fs ts : List Int} {n : Nat} (h : MvOk fs ts n) : okT (tbM fs ts n) = true := by
  refine okT_of (fun i k hi hk => ?_) (fun i hi => ?_)
  · rw [tbM_at fs ts hi hk, tbM_at fs ts hk hi]
    by_cases c1 : i < n
    · by_cases c2 : k < n
      · rw [decide_eq_true c1, decide_eq_true c2]
        unfold mfn
        rw [mt_sym (h.wayB c1) (h.wayB c2)]
      · rw [decide_eq_false c2]; simp
    · rw [decide_eq_false c1]; simp
  · rw [tbM_at fs ts hi hi]
    unfold mfn
    rw [mt_self]; simp

/-- the first conflict, if there is one -/
theorem rowHit_some {ts ps : List Bool} {i : Nat} : ∀ {n k : Nat}, rowHit ts ps i n = some k → 8 - n ≤ k ∧ k < 8 ∧ hit ts ps i k = true
  | 0, k, h => by cases h
  | n + 1, k, h => by
    unfold rowHit at h
    by_cases c : hit ts ps i (8 - (n + 1)) = true
    · rw [if_pos c] at h
      obtain rfl : 8 - (n + 1) = k := by simpa using h
      exact ⟨Nat.le_refl _, by omega, c⟩
    · rw [if_neg c] at h
      obtain ⟨h1, h2, h3⟩ := rowHit_some h
      exact ⟨by omega, h2, h3⟩

theorem hits_some {ts ps : List Bool} : ∀ {n i k : Nat}, n ≤ 8 → hits ts ps n = some (i, k) → i < k ∧ k < 8 ∧ hit ts ps i k = true
  | 0, i, k, _, h => by cases h
  | n + 1, i, k, hn, h => by
    unfold hits at h
    cases hr : rowHit ts ps (8 - (n + 1)) n with
    | none => rw [hr] at h; exact hits_some (by omega) h
    | some j =>
      rw [hr] at h
      obtain ⟨rfl, rfl⟩ : 8 - (n + 1) = i ∧ j = k := by simpa using h
      obtain ⟨h1, h2, h3⟩ := rowHit_some hr
      exact ⟨by omega, h2, h3⟩

theorem rowHit_none {ts ps qs : List Bool} {i : Nat} (hs : ∀ k, hit ts qs i k = true → hit ts ps i k = true) : ∀ {n : Nat}, rowHit ts ps i n = none → rowHit ts qs i n = none
  | 0, _ => rfl
  | n + 1, h => by
    unfold rowHit at h ⊢
    by_cases c : hit ts ps i (8 - (n + 1)) = true
    · rw [if_pos c] at h; cases h
    · rw [if_neg c] at h
      rw [if_neg (fun e => c (hs _ e))]
      exact rowHit_none hs h

theorem hits_none {ts ps qs : List Bool} (hs : ∀ i k, hit ts qs i k = true → hit ts ps i k = true) : ∀ {n : Nat}, hits ts ps n = none → hits ts qs n = none
  | 0, _ => rfl
  | n + 1, h => by
    unfold hits at h ⊢
    cases hr : rowHit ts ps (8 - (n + 1)) n with
    | some j => rw [hr] at h; cases h
    | none =>
      rw [hr] at h
      rw [rowHit_none (hs _) hr]
      exact hits_none hs h

theorem bn_set_no {ps : List Bool} {m k : Nat} (h : bn (ps.set m false) k = true) : bn ps k = true := by
  unfold bn at h ⊢
  rw [List.getD_eq_getElem?_getD, List.getElem?_set] at h
  rw [List.getD_eq_getElem?_getD]
  by_cases c : m = k
  · rw [if_pos c] at h
    split at h <;> simp at h
  · rwa [if_neg c] at h

theorem conf_less {ts ps : List Bool} (m : Nat) (h : conf ts ps = none) : conf ts (ps.set m false) = none := by
  refine hits_none (fun i k e => ?_) h
  unfold hit at e ⊢
  simp only [Bool.and_eq_true] at e ⊢
  exact ⟨bn_set_no e.1, bn_set_no e.2.1, e.2.2⟩

theorem num_back8 : ∀ a b c d e f g h : Bool, phB ((numB [a, b, c, d, e, f, g, h] : Nat) : Int) = [a, b, c, d, e, f, g, h] := by decide +kernel

theorem num_back {ps : List Bool} (hl : ps.length = 8) : phB ((numB ps : Nat) : Int) = ps := by
  match ps, hl with
  | [a, b, c, d, e, f, g, h], _ => exact num_back8 a b c d e f g h

theorem num_lt (ps : List Bool) : numB ps < 256 := numTo_lt8 ps (Nat.le_refl _)

theorem vPh_num {ps : List Bool} (hl : ps.length = 8) : vPh ((numB ps : Nat) : Int) = (ps, 0) := by
  have := num_lt ps
  unfold vPh
  rw [if_pos (by omega), num_back hl]

/-- what is asked of two movements of a table -/
theorem pair_a {fa ta fb tb : Int} (h1 : wayB fa ta = true) (e1 : fa = tb) (e2 : ta = fb) : mtB fa ta fb tb = false := by
  unfold wayB at h1
  simp only [Bool.and_eq_true, decide_eq_true_eq, Bool.not_eq_true', decide_eq_false_iff_not] at h1
  unfold mtB
  rw [if_neg (by omega), if_neg (by omega), if_pos (.inl e2.symm)]

theorem pair_b {fa ta fb tb : Int} (e1 : ¬ fa = fb) (e2 : ta = tb) : mtB fa ta fb tb = true := by
  unfold mtB
  rw [if_neg e1, if_pos e2]

end Go.Proofs.Ytboahhipobcabab
