/-
  SEVERAL TEXTS IN ONE.
-/
import Derived.Test.YtiaflomabgnmaaaG2
import Derived.Deep.Quiet
import Derived.Deep.QuietTactic
import Derived.BigQuiet
import Derived.KernelRfl
import Derived.Test.YtiaflomabgnmaaaG4

/-
  ROWS OF A ROAD THAT ARE WRITTEN ONE CELL AFTER THE OTHER.
  No Go text in it. Conditions: those of each theorem.
-/
namespace Go.Proofs.Ytiaflomabgnmaaa
open Go Go.RowKit

theorem At.last1 (w : World) (A : Obj) (c : Array Value) (T : TypeId) : At ((w.alloc A).alloc (.cells c T)) (w.heap.size + 1) c T := by
  have := At.new (w.alloc A) c T
  rwa [World.size_alloc] at this

theorem At.last2 (w : World) (A B : Obj) (c : Array Value) (T : TypeId) : At (((w.alloc A).alloc B).alloc (.cells c T)) (w.heap.size + 1 + 1) c T := by
  have := At.new ((w.alloc A).alloc B) c T
  rwa [World.size_alloc, World.size_alloc] at this

/-- a whole row loaded, as a fact for the walk -/
theorem At.load {P : Program} {w : World} {g : Nat} {c : Array Value} {T : TypeId} (hA : At w g c T) (ty : TypeId) (n : Nat) (hn : c.size = n) (d : TypeDesc)
    (hu : P.underlying ty = some d) (hd : (match d with | .struct _ | .array _ _ => true | _ => false) = true) (hi : (P.info? ty).map (·.size) = some n) : (Instr.loadAt ty (.pointer (some ⟨g, 0, none⟩))).run P w = .ok (.agg c) w := by
  have := run_loadAt_part (P := P) w g 0 n ty c T (0, 0) d hA hu hd hi (by omega)
  rwa [Nat.zero_add, ← hn, Array.extract_size] at this

/-- a whole row loaded by an operation under a guard -/
theorem wpList_load_g {P : Program} {ops : Array Oper} {rest : List Oper} {o : Oper} {a : Act} {w : World} {Q : Exit → Act → World → Prop} (hw : Region.wanted o (yielded ops a.tmps) = true) (ty : TypeId) (x : Operand) (ho : o.op = .load ty x) (g : Nat) (hx : a.eval x = .pointer (some ⟨g, 0, none⟩))
    (c : Array Value) (T : TypeId) (hA : At w g c T) (n : Nat) (hn : c.size = n) (d : TypeDesc) (hu : P.underlying ty = some d) (hd : (match d with | .struct _ | .array _ _ => true | _ => false) = true) (hi : (P.info? ty).map (·.size) = some n)
    (h : wpList P ops Q rest (a.put o.dst (.agg c)) w) : wpList P ops Q (o :: rest) a w := by
  unfold wpList
  rw [if_pos hw]
  refine .inl ?_
  unfold Oper.wp execOp
  simp only [ho, hx, Sem.run_bind, hA.load ty n hn d hu hd hi, Sem.run_pure, Result.andThen_ok]
  exact h

/-- a row of which the first k cells are those of another -/
def mixTo (ns cs : List Nat) (k : Nat) : List Nat := ns.take k ++ cs.drop k

theorem mixTo_zero (ns cs : List Nat) : mixTo ns cs 0 = cs := by simp [mixTo]

theorem mixTo_len {n : Nat} {ns cs : List Nat} (h : ns.length = n) (h' : cs.length = n) {k : Nat} (hk : k ≤ n) : (mixTo ns cs k).length = n := by simp [mixTo, h, h']; omega

theorem mixTo_nth {n : Nat} {ns cs : List Nat} (h : ns.length = n) (_h' : cs.length = n) {k : Nat} (hk : k < n) : nth (mixTo ns cs k) k = nth cs k := by
  have e : (mixTo ns cs k)[k]? = cs[k]? := by
    unfold mixTo
    rw [List.getElem?_append_right (by simp; omega), List.length_take, h, Nat.min_eq_left (by omega), Nat.sub_self, List.getElem?_drop, Nat.add_zero]
  show ((mixTo ns cs k)[k]?).getD 0 = (cs[k]?).getD 0
  rw [e]

theorem mixTo_set {n : Nat} {ns cs : List Nat} (h : ns.length = n) (h' : cs.length = n) {k : Nat} (hk : k < n) : (mixTo ns cs k).set k (nth ns k) = mixTo ns cs (k + 1) := by
  have e : nth ns k = ns[k]'(by omega) := by
    show (ns[k]?).getD 0 = _
    rw [List.getElem?_eq_getElem (by omega), Option.getD_some]
  unfold mixTo
  rw [List.set_append_right _ _ (by simp; omega), List.length_take, h, Nat.min_eq_left (by omega), Nat.sub_self, List.drop_eq_getElem_cons (by omega), List.set_cons_zero, e, List.take_succ_eq_append_getElem (by omega), List.append_assoc]
  rfl

theorem mixTo_all {n : Nat} {ns cs : List Nat} (h : ns.length = n) (h' : cs.length = n) : mixTo ns cs n = ns := by
  unfold mixTo
  rw [List.drop_eq_nil_of_le (by omega), List.append_nil, List.take_of_length_le (by omega)]

/-- a cell that both rows share is written already -/
theorem mixTo_skip {n : Nat} {ns cs : List Nat} (h : ns.length = n) (h' : cs.length = n) {k : Nat} (hk : k < n) (e : nth ns k = nth cs k) : mixTo ns cs (k + 1) = mixTo ns cs k := by
  rw [← mixTo_set h h' hk, e, ← mixTo_nth h h' hk]
  refine List.ext_getElem? fun i => ?_
  rw [List.getElem?_set]
  have hlen := mixTo_len h h' (k := k) (by omega)
  by_cases c : k = i
  · subst c
    rw [if_pos rfl, if_pos (by omega), List.getElem?_eq_getElem (by omega)]
    show some (((mixTo ns cs k)[k]?).getD 0) = _
    rw [List.getElem?_eq_getElem (by omega), Option.getD_some]
  · rw [if_neg c]

theorem rd_put {cs : List Nat} (h : cs.length = 16) (p b l : Nat) {n : Nat} (hn : n < 16) (x : Nat) : (rd cs p b l).setIfInBounds n (.float .f32 x) = rd (cs.set n x) p b l := by
  unfold rd
  rw [fl_set, List.set_append_left _ _ (by omega)]

/-- a row that is made of its numbers -/
def rowOf (n : Nat) (f : Nat → Nat) : List Nat := (List.range n).map f

theorem rowOf_len (n : Nat) (f : Nat → Nat) : (rowOf n f).length = n := by simp [rowOf]

theorem rowOf_nth (n : Nat) (f : Nat → Nat) {k : Nat} (hk : k < n) : nth (rowOf n f) k = f k := by
  have h : (rowOf n f)[k]? = some (f k) := by unfold rowOf; rw [List.getElem?_map, List.getElem?_range hk]; rfl
  show ((rowOf n f)[k]?).getD 0 = _
  rw [h, Option.getD_some]

theorem rowOf_mem {n : Nat} {f : Nat → Nat} {x : Nat} (h : x ∈ rowOf n f) : ∃ k, k < n ∧ x = f k := by
  unfold rowOf at h
  obtain ⟨k, hk, rfl⟩ := List.mem_map.1 h
  exact ⟨k, List.mem_range.1 hk, rfl⟩
end Go.Proofs.Ytiaflomabgnmaaa

/-
  A STATEMENT WHOSE ORDER IS OPEN, AND WHOSE CALLS MAKE MEMORY BUT LEAVE WHAT WAS THERE: one walk in the order of the text serves every order.
  No Go text in it. Conditions: those of each theorem.
-/
namespace Go.Proofs.Ytiaflomabgnmaaa
open Go Go.RowKit

/-- the worlds in which nothing has turned of what W holds -/
def Cb (W : World) (w' : World) : Prop := Below W.heap.size W w'
theorem Cb.refl (W : World) : Cb W W := Below.refl _ _
theorem Cb.step {W w1 w2 : World} (h : Cb W w1) (k : Below w1.heap.size w1 w2) : Cb W w2 := bthen h k
theorem Cb.const (W : World) : ∀ p : Prop, (∀ w, Cb W w → p) = p := fun _ => propext ⟨fun h => h W (Cb.refl W), fun h _ _ => h⟩

section
variable {P : Program} {C : World → Prop} {o : Oper} {a : Act} {K : Act → Prop}
theorem q_load (ty : TypeId) (x : Operand) (ho : o.op = .load ty x) (ad : Addr) (hx : a.eval x = .pointer (some ad)) (v : Value) (hrun : ∀ w, C w → (Instr.loadAt ty (.pointer (some ad))).run P w = .ok v w) (hK : K (a.put o.dst v)) : o.quiet P a C K := by
  refine ⟨v, fun w hw => ?_, hK⟩
  unfold Oper.quietAt execOp
  simp only [ho, hx, Sem.run_bind, hrun w hw, Sem.run_pure, Result.andThen_ok]
  exact ⟨rfl, rfl⟩
end

theorem run_load_cell {P : Program} (w : World) (ty : TypeId) (k : FloatKind) (hu : P.underlying ty = some (.float k)) (ad : Addr) (v : Value) (hc : w.cell? ad = some v) : (Instr.loadAt ty (.pointer (some ad))).run P w = .ok v w := by
  have hagg : (isAgg ty).run P w = .ok false w := by
    unfold isAgg
    rw [Sem.run_bind, run_underlying hu w]
    rfl
  simp only [Instr.loadAt, Instr.sureAddr, Sem.run_bind, Sem.run_pure, Result.andThen]
  simp [loadVar, Sem.run_bind, hagg, hc]

section
variable {P : Program} {W : World} {o : Oper} {a : Act} {K : Act → Prop} {g : Nat} {c : Array Value} {T : TypeId}
/-- a narrow float's cell, in whatever world of the class -/
theorem q_cell (ty : TypeId) (x : Operand) (ho : o.op = .load ty x) (kd : FloatKind) (hu : P.underlying ty = some (.float kd)) (k : Nat) (hx : a.eval x = .pointer (some ⟨g, k, none⟩)) (hA : At W g c T) (v : Value) (hk : c[k]? = some v) (hK : K (a.put o.dst v)) : o.quiet P a (Cb W) K :=
  q_load ty x ho _ hx v (fun w hw => run_load_cell w ty kd hu _ v (At.cell (At.step hA hw) hk)) hK
/-- a whole row -/
theorem q_row (ty : TypeId) (x : Operand) (ho : o.op = .load ty x) (hx : a.eval x = .pointer (some ⟨g, 0, none⟩)) (hA : At W g c T) (n : Nat) (hn : c.size = n) (d : TypeDesc)
    (hu : P.underlying ty = some d) (hd : (match d with | .struct _ | .array _ _ => true | _ => false) = true) (hi : (P.info? ty).map (·.size) = some n) (hK : K (a.put o.dst (.agg c))) : o.quiet P a (Cb W) K :=
  q_load ty x ho _ hx (.agg c) (fun w hw => by
    have := run_loadAt_part (P := P) w g 0 n ty c T (0, 0) d (At.step hA hw) hu hd hi (by omega)
    rwa [Nat.zero_add, ← hn, Array.extract_size] at this) hK
end

theorem wp_region_cb {P : Program} {id : Nat} {Q : Exit → Act → World → Prop} {a : Act} {w : World} {l : List Oper} (hm : P.follows .mixedOrders = true) (hB : Region.lexB .any l.toArray = true)
    (h : wpQuiet P l.toArray (Cb w) (fun a' => ∀ w', Cb w w' → Q .normal a' w') l a) : (Code.region id l.toArray true).wp P Q a w :=
  wp_region_quiet (C := Cb w) hm hB ⟨rfl, rfl, rfl, Nat.le_refl _, fun _ _ => rfl⟩ (by simpa using h)
end Go.Proofs.Ytiaflomabgnmaaa

/-
  CONTRACTS: rows of four numbers, a law's made the program's, and held against each other.
-/
namespace Go.Proofs.Ytiaflomabgnmaaa
open Go Go.RowKit
set_option maxRecDepth 100000

/-- what a copy of n places has after k places -/
def cpN (n : Nat) (ys : List Nat) (k : Nat) : List Nat := ys.take k ++ List.replicate (n - k) 0
theorem cpN_len {n : Nat} {ys : List Nat} (h : ys.length = n) (k : Nat) (hk : k ≤ n) : (cpN n ys k).length = n := by simp [cpN, h]; omega
theorem cpN_set {n : Nat} {ys : List Nat} (h : ys.length = n) {k : Nat} (hk : k < n) : (cpN n ys k).set k (nth ys k) = cpN n ys (k + 1) := by
  unfold cpN nth
  rw [List.set_append_right _ _ (by simp; omega), List.take_succ_eq_append_getElem (by omega), List.getD_eq_getElem?_getD, List.getElem?_eq_getElem (by omega)]
  rw [show k - (List.take k ys).length = 0 from by simp; omega, show n - k = (n - (k + 1)) + 1 from by omega, List.replicate_succ, List.append_assoc]
  rfl
theorem cpN_all {n : Nat} {ys : List Nat} (h : ys.length = n) : cpN n ys n = ys := by simp [cpN, ← h]

/-- the same number: two NaNs, or one number -/
def Agr (x y : Nat) : Prop := x < 4294967296 ∧ y < 4294967296 ∧ (nanB x = true ∧ nanB y = true ∨ nanB x = false ∧ y = x)

end Go.Proofs.Ytiaflomabgnmaaa

/-
  SUMS OF WHATEVER NUMBERS: what a sum gives, a NaN where there is none; two such sums agree.
  No Go text in it. Conditions: those of each theorem.
-/
namespace Go.Proofs.Ytiaflomabgnmaaa
open Go Go.RowKit

theorem word_num (s : Bool) {q : Nat} (h : q ≤ 2139095040) : S32.word s q < 4294967296 ∧ nanB (S32.word s q) = false := by
  have hs := s_sw
  cases s
  · rw [word_false]; unfold nanB; exact ⟨by omega, decide_eq_false (by omega)⟩
  · rw [word_true, hs]; unfold nanB; exact ⟨by omega, decide_eq_false (by omega)⟩

theorem write_num {d : Ieee.Datum} (h : ∀ s t, d ≠ .nan s t) : S32.write d < 4294967296 ∧ nanB (S32.write d) = false := by
  cases d with
  | number s m i =>
    show S32.nearest s m i < _ ∧ nanB (S32.nearest s m i) = false
    unfold Ieee.Format.nearest
    split
    · exact word_num s (by omega)
    · exact word_num s (Nat.le_trans (Nat.min_le_right _ _) (by rw [s_inf]; exact Nat.le_refl _))
  | infinity s => exact word_num s (by rw [s_inf]; exact Nat.le_refl _)
  | nan s t => exact absurd rfl (h s t)

theorem sum_num {d e f : Ieee.Datum} (h : d.sum e = some f) : ∀ s t, f ≠ .nan s t := by
  intro s t hf
  subst hf
  cases d <;> cases e <;> simp [Ieee.Datum.sum] at h

theorem add_num {x y r : Nat} (h : floatBits .add .f32 x y = some r) : r < 4294967296 ∧ nanB r = false := by
  have h' : S32.add x y = some r := h
  unfold Ieee.Format.add at h'
  cases hs : (S32.read x).sum (S32.read y) with
  | none => rw [hs] at h'; cases h'
  | some f =>
    rw [hs] at h'
    obtain rfl := Option.some.inj h'
    exact write_num (sum_num hs)

theorem read_nanB {x : Nat} (h : x < 4294967296) (c : nanB x = true) : ∃ s t, S32.read x = .nan s t := by
  have hs := split32 h
  have hm : x % 2147483648 < 2147483648 := Nat.mod_lt _ (by omega)
  unfold nanB at c
  generalize decide (2147483648 ≤ x) = s at hs
  generalize x % 2147483648 = r at hs hm c
  subst hs
  exact ⟨_, _, read_nan S32 s_bin s (by rw [s_inf]; simpa using c) (by rw [s_sw]; exact hm)⟩

theorem add_nanL {x y : Nat} (h : x < 4294967296) (c : nanB x = true) : floatBits .add .f32 x y = none := by
  obtain ⟨s, t, e⟩ := read_nanB h c
  show S32.add x y = none
  unfold Ieee.Format.add
  rw [e]
  rfl

/-- z is the sum of x and y (a NaN where there is none) -/
def AddR (x y z : Nat) : Prop := z < 4294967296 ∧ (floatBits .add .f32 x y = some z ∨ floatBits .add .f32 x y = none ∧ nanB z = true)

theorem AddR.agr {x x' y z z' : Nat} (hx : Agr x x') (h : AddR x y z) (h' : AddR x' y z') : Agr z z' := by
  refine ⟨h.1, h'.1, ?_⟩
  rcases hx.2.2 with ⟨n1, n2⟩ | ⟨n1, rfl⟩
  · rcases h.2 with k | ⟨-, k⟩
    · rw [add_nanL hx.1 n1] at k; cases k
    rcases h'.2 with k' | ⟨-, k'⟩
    · rw [add_nanL hx.2.1 n2] at k'; cases k'
    exact .inl ⟨k, k'⟩
  · rcases h.2 with k | ⟨k0, k⟩ <;> rcases h'.2 with k' | ⟨k0', k'⟩
    · rw [k] at k'; exact .inr ⟨(add_num k).2, (Option.some.inj k').symm⟩
    · rw [k] at k0'; cases k0'
    · rw [k'] at k0; cases k0
    · exact .inl ⟨k, k'⟩

theorem run_add_any {P : Program} (t : TypeId) (x y : Nat) (w : World) :
    ∃ z n, (binOp .add t (.float .f32 x) (.float .f32 y)).run P w = .ok (.float .f32 z) (w.drewN n) ∧ AddR x y z := by
  cases h : floatBits .add .f32 x y with
  | some z => exact ⟨z, 0, run_float_arith w .add t .f32 _ _ _ h, (add_num h).1, .inl h⟩
  | none => exact ⟨_, 1, run_arith_nan w .add (.inl rfl) t .f32 x y h, (tapeNan32 w x y).1, .inr ⟨h, (tapeNan32 w x y).2⟩⟩

/-- v is the sum of four numbers, from the first on -/
def Sum4 (a b c d v : Nat) : Prop := ∃ y z, AddR a b y ∧ AddR y c z ∧ AddR z d v
theorem Sum4.agr {a b c d v v' : Nat} (ha : a < 4294967296) (h : Sum4 a b c d v) (h' : Sum4 a b c d v') : Agr v v' := by
  obtain ⟨y, z, h1, h2, h3⟩ := h
  obtain ⟨y', z', k1, k2, k3⟩ := h'
  have e0 : Agr a a := ⟨ha, ha, by cases h : nanB a; exact .inr ⟨rfl, rfl⟩; exact .inl ⟨rfl, rfl⟩⟩
  exact AddR.agr (AddR.agr (AddR.agr e0 h1 k1) h2 k2) h3 k3
end Go.Proofs.Ytiaflomabgnmaaa
