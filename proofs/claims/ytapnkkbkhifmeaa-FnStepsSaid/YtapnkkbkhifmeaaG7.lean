/-
  SEVERAL TEXTS IN ONE.
-/
import Derived.Test.YtapnkkbkhifmeaaCell
import Derived.Laws.StructEq
import Derived.Test.YtapnkkbkhifmeaaG6

/-
  ARRAYS AND STRUCTS OF WORDS HELD AGAINST EACH OTHER BY ==.
  No Go text in it. Conditions: those of each theorem.
-/
namespace Go.Proofs.Ytapnkkbkhifmeaa
open Go

/-- a row of 32-bit words -/
def ub (xs : List Nat) : Array Value := (xs.map fun x => Value.int .u32 (x : Nat)).toArray
theorem ub_size (xs : List Nat) : (ub xs).size = xs.length := by simp [ub]
theorem ub_one (xs : List Nat) : (ub xs).all (·.oneCell') = true := by
  simp only [ub, List.all_toArray, List.all_map]
  rw [List.all_eq_true]
  intro x _
  rfl
theorem ub_get {xs : List Nat} {k : Nat} (h : k < xs.length) : (ub xs)[k]? = some (.int .u32 (nth xs k : Nat)) := by
  simp [ub, nth, List.getElem?_map, List.getElem?_eq_getElem h, List.getD]
theorem ub_set (xs : List Nat) (k x : Nat) : (ub xs).setIfInBounds k (.int .u32 (x : Nat)) = ub (xs.set k x) := by
  apply Array.ext'
  simp [ub]

variable {P : Program}

theorem run_part_u32 (w : World) (e : TypeId) (xs : List Nat) (k : Nat) (hue : P.underlying e = some (.int .u32)) (hk : k < xs.length) : (part e (ub xs) k).run P w = .ok (.int .u32 (nth xs k : Nat)) w := by
  have hagg : (isAgg e).run P w = .ok false w := by
    unfold isAgg
    rw [Sem.run_bind, run_underlying hue w]
    rfl
  simp [part, Sem.run_bind, hagg, ub_get hk]

theorem forIn_run (w : World) (f : Nat → (Option Bool × Unit) → Sem (ForInStep (Option Bool × Unit))) (p : Nat → Bool) (L : List Nat)
    (h : ∀ i ∈ L, ∀ s, (f i s).run P w = .ok (if p i then .yield (none, ()) else .done (some false, ())) w) :
    (forIn L (none, ()) f).run P w = .ok (if L.all p then (none, ()) else (some false, ())) w := by
  induction L with
  | nil => rfl
  | cons i L ih =>
    have h0 := h i (by simp) (none, ())
    have ih' := ih (fun j hj s => h j (by simp [hj]) s)
    rw [List.forIn_cons, Sem.run_bind, h0]
    cases hp : p i
    · simp [hp]
    · simp [hp, ih']

theorem all_eq_iff {xs ys : List Nat} (h : xs.length = ys.length) : ((List.range' 0 xs.length).all fun i => decide (nth xs i = nth ys i)) = decide (xs = ys) := by
  rw [Bool.eq_iff_iff]
  simp only [List.all_eq_true, decide_eq_true_eq]
  constructor
  · intro q
    apply List.ext_getElem h
    intro i h1 h2
    have := q i (by simp [List.mem_range'_1]; exact h1)
    simpa [nth, List.getD, List.getElem?_eq_getElem h1, List.getElem?_eq_getElem h2] using this
  · intro e i _; rw [e]

/-- two arrays of 32-bit words -/
theorem run_eq_u32s (w : World) (d : Nat) (t e : TypeId) (n : Nat) (xs ys : List Nat) (hu : P.underlying t = some (.array n e)) (hue : P.underlying e = some (.int .u32)) (he : (P.info? e).map (·.size) = some 1) (hx : xs.length = n) (hy : ys.length = n) :
    (Op.equalIn (d + 2) t (.agg (ub xs)) (.agg (ub ys))).run P w = .ok (decide (xs = ys)) w := by
  cases hq : P.info? e with
  | none => simp [hq] at he
  | some i =>
    have hs : i.size = 1 := by simpa [hq] using he
    unfold Op.equalIn
    simp only [Sem.run_bind, run_underlying hu w, Result.andThen_ok, sizeOf, typeInfo]
    simp [hq, hs]
    rw [forIn_run w _ (fun i => decide (nth xs i = nth ys i)) _ ?_]
    · subst hx
      rw [all_eq_iff hy.symm]
      by_cases c : xs = ys <;> simp [c]
    · intro k hk s
      have hk' : k < n := by simpa [List.mem_range'_1] using hk
      rw [Sem.run_bind, run_part_u32 w e xs k hue (by omega)]
      simp only [Result.andThen_ok]
      rw [Sem.run_bind, run_part_u32 w e ys k hue (by omega)]
      simp only [Result.andThen_ok]
      rw [Sem.run_bind, run_equalIn_int w d e .u32 .u32 _ _ hue]
      simp only [Result.andThen_ok]
      by_cases c : nth xs k = nth ys k
      · simp [c]
      · have : ¬ ((nth xs k : Nat) : Int) = ((nth ys k : Nat) : Int) := by omega
        simp [c, this]
theorem run_eql_u32s (w : World) (t e : TypeId) (n : Nat) (xs ys : List Nat) (hu : P.underlying t = some (.array n e)) (hue : P.underlying e = some (.int .u32)) (he : (P.info? e).map (·.size) = some 1) (hx : xs.length = n) (hy : ys.length = n) :
    (binOp .eql t (.agg (ub xs)) (.agg (ub ys))).run P w = .ok (.bool (decide (xs = ys))) w := by
  rw [run_eql_struct, show (10000 : Nat) = 9998 + 2 from rfl, run_eq_u32s w 9998 t e n xs ys hu hue he hx hy]
  rfl

/-- two structs of three 32-bit words -/
theorem run_eql_three (w : World) (t e : TypeId) (f1 f2 f3 : Field) (a1 a2 a3 b1 b2 b3 : Nat) (ht : P.underlying t = some (.struct (P.fieldsOf t))) (hp : P.stoodInHeld t = false) (hf : (P.fieldsOf t).toList = [f1, f2, f3]) (hue : P.underlying e = some (.int .u32))
    (t1 : f1.type = e) (t2 : f2.type = e) (t3 : f3.type = e) (o1 : f1.offset = 0) (o2 : f2.offset = 1) (o3 : f3.offset = 2) (n1 : f1.name ≠ "_") (n2 : f2.name ≠ "_") (n3 : f3.name ≠ "_") :
    (binOp .eql t (.agg (ub [a1, a2, a3])) (.agg (ub [b1, b2, b3]))).run P w = .ok (.bool (decide (a1 = b1 ∧ a2 = b2 ∧ a3 = b3))) w := by
  have q : ∀ x y : Nat, ((x : Int) == (y : Int)) = decide (x = y) := fun x y => by
    by_cases c : x = y
    · simp [c]
    · have : ¬ ((x : Nat) : Int) = ((y : Nat) : Int) := by omega
      simp [c, this]
  rw [run_eql_struct, show (10000 : Nat) = 9999 + 1 from rfl, run_equalIn_struct _ 9999 t _ _ ht hp, hf]
  have E : ∀ x y : Int, (Op.equalIn 9999 e (.int .u32 x) (.int .u32 y)).run P w = .ok (x == y) w := fun x y => run_equalIn_int w 9998 e .u32 .u32 x y hue
  simp only [Op.eqFields, n1, n2, n3, ne_eq, not_false_eq_true, if_true, t1, t2, t3, o1, o2, o3, Sem.run_bind, Sem.run_ite,
    run_part_u32 w e [a1, a2, a3] 0 hue (by simp), run_part_u32 w e [a1, a2, a3] 1 hue (by simp), run_part_u32 w e [a1, a2, a3] 2 hue (by simp),
    run_part_u32 w e [b1, b2, b3] 0 hue (by simp), run_part_u32 w e [b1, b2, b3] 1 hue (by simp), run_part_u32 w e [b1, b2, b3] 2 hue (by simp), Result.andThen_ok,
    E, q]
  by_cases c1 : a1 = b1 <;> by_cases c2 : a2 = b2 <;> by_cases c3 : a3 = b3 <;> simp [nth, c1, c2, c3]
end Go.Proofs.Ytapnkkbkhifmeaa

/-
  CONTRACTS: a road's numbers that hold for all its cells, as bits.
-/
namespace Go.Proofs.Ytapnkkbkhifmeaa
open Go Go.RowKit

end Go.Proofs.Ytapnkkbkhifmeaa

/-
  CONTRACTS: a road's shares, as bits.
-/
namespace Go.Proofs.Ytapnkkbkhifmeaa
open Go Go.RowKit

theorem nth_map {cs : List Nat} (f : Nat → Nat) {k : Nat} (h : k < cs.length) : nth (cs.map f) k = f (nth cs k) := by
  simp [nth, List.getD, List.getElem?_map, List.getElem?_eq_getElem h]

end Go.Proofs.Ytapnkkbkhifmeaa

/-
  CONTRACTS: SameRoad, the program's.
-/
namespace Go.Proofs.Ytapnkkbkhifmeaa
open Go Go.RowKit

/-- a part of a row, in whatever world of the class -/
theorem q_piece {P : Program} {W : World} {o : Oper} {a : Act} {K : Act → Prop} {g : Nat} {c : Array Value} {T : TypeId} (ty : TypeId) (x : Operand) (ho : o.op = .load ty x) (hx : a.eval x = .pointer (some ⟨g, 0, none⟩)) (hA : At W g c T) (n : Nat) (hn : 0 + n ≤ c.size) (d : TypeDesc)
    (hu : P.underlying ty = some d) (hd : (match d with | .struct _ | .array _ _ => true | _ => false) = true) (hi : (P.info? ty).map (·.size) = some n) (c' : Array Value) (hc : c.extract 0 n = c') (hK : K (a.put o.dst (.agg c'))) : o.quiet P a (Cb W) K :=
  q_load ty x ho _ hx (.agg c') (fun w hw => by
    have := run_loadAt_part (P := P) w g 0 n ty c T (0, 0) d (At.step hA hw) hu hd hi hn
    rw [Nat.zero_add, hc] at this
    exact this) hK

def sameR (cs : List Nat) (p b l : Nat) (es : List Nat) (q c m : Nat) : Bool := decide (cs.map nbits = es.map nbits) && decide (nbits p = nbits q ∧ nbits b = nbits c ∧ nbits l = nbits m)

end Go.Proofs.Ytapnkkbkhifmeaa
