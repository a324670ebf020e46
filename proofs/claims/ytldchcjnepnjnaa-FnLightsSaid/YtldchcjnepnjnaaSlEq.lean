/-
  CONTRACTS: slots held against each other by ==.
-/
import Derived.Test.YtldchcjnepnjnaaG6
import Derived.Test.YtldchcjnepnjnaaCyc
import Derived.Laws.StructEq
namespace Go.Proofs.Ytldchcjnepnjnaa
open Go Go.ChangeShapes Go.WideShapes Go.ChangeAt Go.RowKit
set_option maxRecDepth 100000

variable {P : Program}
theorem run_part_bool (w : World) (e : TypeId) (xs : List Bool) (k : Nat) (hue : P.underlying e = some .bool) (hk : k < xs.length) : (part e (bl xs) k).run P w = .ok (.bool (bn xs k)) w := by
  have hagg : (isAgg e).run P w = .ok false w := by
    unfold isAgg
    rw [Sem.run_bind, run_underlying hue w]
    rfl
  simp [part, Sem.run_bind, hagg, bl_get hk]
theorem forInB_run (w : World) (f : Nat → (Option Bool × Unit) → Sem (ForInStep (Option Bool × Unit))) (p : Nat → Bool) (L : List Nat)
    (h : ∀ i ∈ L, ∀ s, (f i s).run P w = .ok (if p i then .yield (none, ()) else .done (some false, ())) w) :
    (forIn L (none, ()) f).run P w = .ok (if L.all p then (none, ()) else (some false, ())) w := by
  induction L with
  | nil => rfl
  | cons i L ih =>
    have h0 := h i (by simp) (none, ())
    have ih' := ih (fun j hj s => h j (by simp [hj]) s)
    rw [List.forIn_cons, Sem.run_bind, h0]
    cases hp : p i
    · simp [hp]
    · simp [hp, ih']
theorem all_eqB {xs ys : List Bool} (h : xs.length = ys.length) : ((List.range' 0 xs.length).all fun i => decide (bn xs i = bn ys i)) = decide (xs = ys) := by
  rw [Bool.eq_iff_iff]
  simp only [List.all_eq_true, decide_eq_true_eq]
  constructor
  · intro q
    apply List.ext_getElem h
    intro i h1 h2
    have := q i (by simp [List.mem_range'_1]; exact h1)
    simpa [bn, List.getD, List.getElem?_eq_getElem h1, List.getElem?_eq_getElem h2] using this
  · intro e i _; rw [e]
/-- two arrays of words yes and no -/
theorem run_eq_bools (w : World) (d : Nat) (t e : TypeId) (n : Nat) (xs ys : List Bool) (hu : P.underlying t = some (.array n e)) (hue : P.underlying e = some .bool) (he : (P.info? e).map (·.size) = some 1) (hx : xs.length = n) (hy : ys.length = n) :
    (Op.equalIn (d + 2) t (.agg (bl xs)) (.agg (bl ys))).run P w = .ok (decide (xs = ys)) w := by
  cases hq : P.info? e with
  | none => simp [hq] at he
  | some i =>
    have hs : i.size = 1 := by simpa [hq] using he
    unfold Op.equalIn
    simp only [Sem.run_bind, run_underlying hu w, Result.andThen_ok, sizeOf, typeInfo]
    simp [hq, hs]
    rw [forInB_run w _ (fun i => decide (bn xs i = bn ys i)) _ ?_]
    · subst hx
      rw [all_eqB hy.symm]
      by_cases c : xs = ys <;> simp [c]
    · intro k hk s
      have hk' : k < n := by simpa [List.mem_range'_1] using hk
      rw [Sem.run_bind, run_part_bool w e xs k hue (by omega)]
      simp only [Result.andThen_ok]
      rw [Sem.run_bind, run_part_bool w e ys k hue (by omega)]
      simp only [Result.andThen_ok]
      rw [Sem.run_bind, run_equalIn_bool' w d e _ _ hue]
      simp only [Result.andThen_ok]
      by_cases c : bn xs k = bn ys k
      · simp [c]
      · simp [c]
theorem run_part_ph (w : World) (b : List Bool) (hb : b.length = 8) (t : Int) : (part 29 (sl1 b t) 0).run Try.prog w = .ok (.agg (bl b)) w := by
  have hagg : (isAgg 29).run Try.prog w = .ok true w := by
    unfold isAgg
    rw [Sem.run_bind, run_underlying Try.underlying29 w]
    rfl
  have hi : (Try.prog.info? 29).map (·.size) = some 8 := by kernel_rfl
  have hx := sl1_phase hb t
  have hs := sl1_size hb t
  rw [Nat.zero_add] at hx
  cases hq : Try.prog.info? 29 with
  | none => simp [hq] at hi
  | some i =>
    have hsz : i.size = 8 := by simpa [hq] using hi
    simp [part, Sem.run_bind, hagg, sizeOf, typeInfo, hq, hsz, hx, hs]
theorem run_part_tk (w : World) (b : List Bool) (hb : b.length = 8) (t : Int) : (part 2 (sl1 b t) 8).run Try.prog w = .ok (.int .i64 t) w := by
  have hagg : (isAgg 2).run Try.prog w = .ok false w := by
    unfold isAgg
    rw [Sem.run_bind, run_underlying Try.underlying2 w]
    rfl
  simp [part, Sem.run_bind, hagg, sl1_ticks hb t]
/-- two slots -/
theorem run_eq_slot (w : World) (b b' : List Bool) (t t' : Int) (hb : b.length = 8) (hb' : b'.length = 8) : (Op.equalIn 10000 40 (.agg (sl1 b t)) (.agg (sl1 b' t'))).run Try.prog w = .ok (decide (b = b' ∧ t = t')) w := by
  have ht : Try.prog.underlying 40 = some (.struct (Try.prog.fieldsOf 40)) := by kernel_rfl
  have hp : Try.prog.stoodInHeld 40 = false := by kernel_rfl
  rw [show (10000 : Nat) = 9999 + 1 from rfl, run_equalIn_struct w 9999 40 _ _ ht hp]
  have hf : (Try.prog.fieldsOf 40).toList.map (fun f => (f.name, f.type, f.offset)) = [("Green", 29, 0), ("Ticks", 2, 8)] := by kernel_rfl
  generalize (Try.prog.fieldsOf 40).toList = L at hf ⊢
  obtain _ | ⟨f1, _ | ⟨f2, _ | ⟨f3, L⟩⟩⟩ := L
  · simp at hf
  · simp at hf
  rotate_left
  · simp at hf
  simp only [List.map_cons, List.map_nil, List.cons.injEq, Prod.mk.injEq, and_true] at hf
  obtain ⟨⟨n1', t1, o1⟩, n2', t2, o2⟩ := hf
  have n1 : f1.name ≠ "_" := by rw [n1']; decide
  have n2 : f2.name ≠ "_" := by rw [n2']; decide
  have E1 := run_eq_bools w 9997 29 4 8 b b' Try.underlying29 Try.underlying4 (by kernel_rfl) hb hb'
  have E2 : (Op.equalIn 9999 2 (.int .i64 t) (.int .i64 t')).run Try.prog w = .ok (t == t') w := run_equalIn_int w 9998 2 .i64 .i64 t t' Try.underlying2
  have p1 := run_part_tk w b hb t
  have p2 := run_part_tk w b' hb' t'
  simp only [Op.eqFields, n1, n2, ne_eq, not_false_eq_true, if_true, t1, t2, o1, o2, Sem.run_bind, Sem.run_ite, run_part_ph w b hb, run_part_ph w b' hb', Result.andThen_ok]
  have E1' : (Op.equalIn 9999 29 (.agg (bl b)) (.agg (bl b'))).run Try.prog w = .ok (decide (b = b')) w := E1
  rw [E1']
  simp only [Result.andThen_ok]
  by_cases c1 : b = b'
  · rw [decide_eq_true c1]
    simp only [Bool.not_true, Bool.false_eq_true, if_false]
    rw [p1]
    simp only [Result.andThen_ok]
    rw [p2]
    simp only [Result.andThen_ok]
    rw [E2]
    by_cases c2 : t = t' <;> simp [c1, c2]
  · rw [decide_eq_false c1]
    simp [c1]
theorem run_neq_slot (w : World) (b b' : List Bool) (t t' : Int) (hb : b.length = 8) (hb' : b'.length = 8) : (binOp .neq 40 (.agg (sl1 b t)) (.agg (sl1 b' t'))).run Try.prog w = .ok (.bool (!decide (b = b' ∧ t = t'))) w := by
  rw [run_neq_struct, run_eq_slot w b b' t t' hb hb']; rfl
theorem slots_ext {xs ys : Slots} (h : xs.length = ys.length) (hq : ∀ j, j < xs.length → sb xs j = sb ys j ∧ st xs j = st ys j) : xs = ys := by
  apply List.ext_getElem h
  intro i h1 h2
  have := hq i h1
  unfold sb st at this
  rw [List.getD_eq_getElem?_getD, List.getElem?_eq_getElem h1, List.getD_eq_getElem?_getD, List.getElem?_eq_getElem h2] at this
  exact Prod.ext this.1 this.2

end Go.Proofs.Ytldchcjnepnjnaa
