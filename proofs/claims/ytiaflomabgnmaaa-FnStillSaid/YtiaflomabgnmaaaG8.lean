/-
  SEVERAL TEXTS IN ONE.
-/
import Derived.Test.YtiaflomabgnmaaaG1
import Derived.Laws.StructEq
import Derived.Test.YtiaflomabgnmaaaG7
import Derived.Test.YtiaflomabgnmaaaG4
import Derived.Test.YtiaflomabgnmaaaBytes

/-
  ARRAYS AND STRUCTS OF WORDS HELD AGAINST EACH OTHER BY ==.
  No Go text in it. Conditions: those of each theorem.
-/
namespace Go.Proofs.Ytiaflomabgnmaaa
open Go

/-- a row of 32-bit words -/
def ub (xs : List Nat) : Array Value := (xs.map fun x => Value.int .u32 (x : Nat)).toArray
theorem ub_size (xs : List Nat) : (ub xs).size = xs.length := by simp [ub]
theorem ub_one (xs : List Nat) : (ub xs).all (·.oneCell') = true := by
  simp only [ub, List.all_toArray, List.all_map]
  rw [List.all_eq_true]
  intro x _
  rfl
theorem ub_get {xs : List Nat} {k : Nat} (h : k < xs.length) : (ub xs)[k]? = some (.int .u32 (nth xs k : Nat)) := by
  simp [ub, nth, List.getElem?_map, List.getElem?_eq_getElem h, List.getD]
theorem ub_set (xs : List Nat) (k x : Nat) : (ub xs).setIfInBounds k (.int .u32 (x : Nat)) = ub (xs.set k x) := by
  apply Array.ext'
  simp [ub]

variable {P : Program}

theorem run_part_u32 (w : World) (e : TypeId) (xs : List Nat) (k : Nat) (hue : P.underlying e = some (.int .u32)) (hk : k < xs.length) : (part e (ub xs) k).run P w = .ok (.int .u32 (nth xs k : Nat)) w := by
  have hagg : (isAgg e).run P w = .ok false w := by
    unfold isAgg
    rw [Sem.run_bind, run_underlying hue w]
    rfl
  simp [part, Sem.run_bind, hagg, ub_get hk]

theorem forIn_run (w : World) (f : Nat → (Option Bool × Unit) → Sem (ForInStep (Option Bool × Unit))) (p : Nat → Bool) (L : List Nat)
    (h : ∀ i ∈ L, ∀ s, (f i s).run P w = .ok (if p i then .yield (none, ()) else .done (some false, ())) w) :
    (forIn L (none, ()) f).run P w = .ok (if L.all p then (none, ()) else (some false, ())) w := by
  induction L with
  | nil => rfl
  | cons i L ih =>
    have h0 := h i (by simp) (none, ())
    have ih' := ih (fun j hj s => h j (by simp [hj]) s)
    rw [List.forIn_cons, Sem.run_bind, h0]
    cases hp : p i
    · simp [hp]
    · simp [hp, ih']

theorem all_eq_iff {xs ys : List Nat} (h : xs.length = ys.length) : ((List.range' 0 xs.length).all fun i => decide (nth xs i = nth ys i)) = decide (xs = ys) := by
  rw [Bool.eq_iff_iff]
  simp only [List.all_eq_true, decide_eq_true_eq]
  constructor
  · intro q
    apply List.ext_getElem h
    intro i h1 h2
    have := q i (by simp [List.mem_range'_1]; exact h1)
    simpa [nth, List.getD, List.getElem?_eq_getElem h1, List.getElem?_eq_getElem h2] using this
  · intro e i _; rw [e]

/-- two arrays of 32-bit words -/
theorem run_eq_u32s (w : World) (d : Nat) (t e : TypeId) (n : Nat) (xs ys : List Nat) (hu : P.underlying t = some (.array n e)) (hue : P.underlying e = some (.int .u32)) (he : (P.info? e).map (·.size) = some 1) (hx : xs.length = n) (hy : ys.length = n) :
    (Op.equalIn (d + 2) t (.agg (ub xs)) (.agg (ub ys))).run P w = .ok (decide (xs = ys)) w := by
  cases hq : P.info? e with
  | none => simp [hq] at he
  | some i =>
    have hs : i.size = 1 := by simpa [hq] using he
    unfold Op.equalIn
    simp only [Sem.run_bind, run_underlying hu w, Result.andThen_ok, sizeOf, typeInfo]
    simp [hq, hs]
    rw [forIn_run w _ (fun i => decide (nth xs i = nth ys i)) _ ?_]
    · subst hx
      rw [all_eq_iff hy.symm]
      by_cases c : xs = ys <;> simp [c]
    · intro k hk s
      have hk' : k < n := by simpa [List.mem_range'_1] using hk
      rw [Sem.run_bind, run_part_u32 w e xs k hue (by omega)]
      simp only [Result.andThen_ok]
      rw [Sem.run_bind, run_part_u32 w e ys k hue (by omega)]
      simp only [Result.andThen_ok]
      rw [Sem.run_bind, run_equalIn_int w d e .u32 .u32 _ _ hue]
      simp only [Result.andThen_ok]
      by_cases c : nth xs k = nth ys k
      · simp [c]
      · have : ¬ ((nth xs k : Nat) : Int) = ((nth ys k : Nat) : Int) := by omega
        simp [c, this]
theorem run_eql_u32s (w : World) (t e : TypeId) (n : Nat) (xs ys : List Nat) (hu : P.underlying t = some (.array n e)) (hue : P.underlying e = some (.int .u32)) (he : (P.info? e).map (·.size) = some 1) (hx : xs.length = n) (hy : ys.length = n) :
    (binOp .eql t (.agg (ub xs)) (.agg (ub ys))).run P w = .ok (.bool (decide (xs = ys))) w := by
  rw [run_eql_struct, show (10000 : Nat) = 9998 + 2 from rfl, run_eq_u32s w 9998 t e n xs ys hu hue he hx hy]
  rfl

/-- two structs of three 32-bit words -/
theorem run_eql_three (w : World) (t e : TypeId) (f1 f2 f3 : Field) (a1 a2 a3 b1 b2 b3 : Nat) (ht : P.underlying t = some (.struct (P.fieldsOf t))) (hp : P.stoodInHeld t = false) (hf : (P.fieldsOf t).toList = [f1, f2, f3]) (hue : P.underlying e = some (.int .u32))
    (t1 : f1.type = e) (t2 : f2.type = e) (t3 : f3.type = e) (o1 : f1.offset = 0) (o2 : f2.offset = 1) (o3 : f3.offset = 2) (n1 : f1.name ≠ "_") (n2 : f2.name ≠ "_") (n3 : f3.name ≠ "_") :
    (binOp .eql t (.agg (ub [a1, a2, a3])) (.agg (ub [b1, b2, b3]))).run P w = .ok (.bool (decide (a1 = b1 ∧ a2 = b2 ∧ a3 = b3))) w := by
  have q : ∀ x y : Nat, ((x : Int) == (y : Int)) = decide (x = y) := fun x y => by
    by_cases c : x = y
    · simp [c]
    · have : ¬ ((x : Nat) : Int) = ((y : Nat) : Int) := by omega
      simp [c, this]
  rw [run_eql_struct, show (10000 : Nat) = 9999 + 1 from rfl, run_equalIn_struct _ 9999 t _ _ ht hp, hf]
  have E : ∀ x y : Int, (Op.equalIn 9999 e (.int .u32 x) (.int .u32 y)).run P w = .ok (x == y) w := fun x y => run_equalIn_int w 9998 e .u32 .u32 x y hue
  simp only [Op.eqFields, n1, n2, n3, ne_eq, not_false_eq_true, if_true, t1, t2, t3, o1, o2, o3, Sem.run_bind, Sem.run_ite,
    run_part_u32 w e [a1, a2, a3] 0 hue (by simp), run_part_u32 w e [a1, a2, a3] 1 hue (by simp), run_part_u32 w e [a1, a2, a3] 2 hue (by simp),
    run_part_u32 w e [b1, b2, b3] 0 hue (by simp), run_part_u32 w e [b1, b2, b3] 1 hue (by simp), run_part_u32 w e [b1, b2, b3] 2 hue (by simp), Result.andThen_ok,
    E, q]
  by_cases c1 : a1 = b1 <;> by_cases c2 : a2 = b2 <;> by_cases c3 : a3 = b3 <;> simp [nth, c1, c2, c3]
end Go.Proofs.Ytiaflomabgnmaaa

/-
  CONTRACTS: a road's numbers that hold for all its cells, as bits.
-/
namespace Go.Proofs.Ytiaflomabgnmaaa
open Go Go.RowKit

end Go.Proofs.Ytiaflomabgnmaaa

/-
  CONTRACTS: a road's shares, as bits.
-/
namespace Go.Proofs.Ytiaflomabgnmaaa
open Go Go.RowKit

theorem nth_map {cs : List Nat} (f : Nat → Nat) {k : Nat} (h : k < cs.length) : nth (cs.map f) k = f (nth cs k) := by
  simp [nth, List.getD, List.getElem?_map, List.getElem?_eq_getElem h]

end Go.Proofs.Ytiaflomabgnmaaa

/-
  CONTRACTS: SameRoad, the program's.
-/
namespace Go.Proofs.Ytiaflomabgnmaaa
open Go Go.RowKit

/-- a part of a row, in whatever world of the class -/
theorem q_piece {P : Program} {W : World} {o : Oper} {a : Act} {K : Act → Prop} {g : Nat} {c : Array Value} {T : TypeId} (ty : TypeId) (x : Operand) (ho : o.op = .load ty x) (hx : a.eval x = .pointer (some ⟨g, 0, none⟩)) (hA : At W g c T) (n : Nat) (hn : 0 + n ≤ c.size) (d : TypeDesc)
    (hu : P.underlying ty = some d) (hd : (match d with | .struct _ | .array _ _ => true | _ => false) = true) (hi : (P.info? ty).map (·.size) = some n) (c' : Array Value) (hc : c.extract 0 n = c') (hK : K (a.put o.dst (.agg c'))) : o.quiet P a (Cb W) K :=
  q_load ty x ho _ hx (.agg c') (fun w hw => by
    have := run_loadAt_part (P := P) w g 0 n ty c T (0, 0) d (At.step hA hw) hu hd hi hn
    rw [Nat.zero_add, hc] at this
    exact this) hK

def sameR (cs : List Nat) (p b l : Nat) (es : List Nat) (q c m : Nat) : Bool := decide (cs.map nbits = es.map nbits) && decide (nbits p = nbits q ∧ nbits b = nbits c ∧ nbits l = nbits m)

end Go.Proofs.Ytiaflomabgnmaaa

/-
  CONTRACTS: SameRoad, the model's.
-/
namespace Go.Proofs.Ytiaflomabgnmaaa
open Go Go.RowKit

theorem sameB_dec (a b : Nat) : decide (nbits a = nbits b) = sameB a b := by
  rw [← sameB_nbits]
  by_cases h : nbits a = nbits b
  · simp [h]
  · have : ¬ ((nbits a : Nat) : Int) = ((nbits b : Nat) : Int) := by omega
    simp [h, this]

theorem same_no {cs es : List Nat} (p b l q c m : Nat) (hl : cs.length = 16) (hl' : es.length = 16) {k : Nat} (hk : k < 16) (h : sameB (nth cs k) (nth es k) = false) : sameR cs p b l es q c m = false := by
  unfold sameR
  rw [decide_eq_false, Bool.false_and]
  intro e
  have h1 := nth_map nbits (cs := cs) (k := k) (by omega)
  have h2 := nth_map nbits (cs := es) (k := k) (by omega)
  rw [e, h2] at h1
  rw [← sameB_dec] at h
  exact of_decide_eq_false h h1.symm

theorem same_all {cs es : List Nat} (p b l q c m : Nat) (hl : cs.length = 16) (hl' : es.length = 16) (h : ∀ k, k < 16 → sameB (nth cs k) (nth es k) = true) : sameR cs p b l es q c m = (sameB p q && (sameB b c && sameB l m)) := by
  have e : cs.map nbits = es.map nbits := by
    have := (all_eq_iff (xs := cs.map nbits) (ys := es.map nbits) (by simp [hl, hl'])).symm
    rw [Bool.eq_iff_iff] at this
    refine of_decide_eq_true (this.2 ?_)
    rw [List.all_eq_true]
    intro i hi
    have hi' : i < 16 := by simpa [List.mem_range'_1, hl] using hi
    rw [nth_map nbits (by omega), nth_map nbits (by omega), sameB_dec]
    exact h i hi'
  unfold sameR
  rw [decide_eq_true e, Bool.true_and, ← sameB_dec, ← sameB_dec, ← sameB_dec, Bool.decide_and, Bool.decide_and]

end Go.Proofs.Ytiaflomabgnmaaa

/-
  CONTRACTS: what the drawn laws of the chapters 1 and 2 ask of their bytes.
-/
namespace Go.Proofs.Ytiaflomabgnmaaa
open Go Go.RowKit
set_option maxRecDepth 100000

theorem a2Long_any (a a' : Option Addr) (n c n' c' : Nat) (w : World) :
    Calls Try.prog 4 #[.slice a n c, .slice a' n' c'] w fun e w' => ∃ B : Bool, e = .returned (.bool B) ∧ w' = w := by
  by_cases h1 : 3000 < n
  · have k1 : decide ((3000 : Int) < (n : Int)) = true := decide_eq_true (by omega)
    go_enter Try.func4, Try.ntmps4
    go_wp2
    go_ret
    exact ⟨true, rfl, by trivial⟩
  · have k1 : decide ((3000 : Int) < (n : Int)) = false := decide_eq_false (by omega)
    by_cases h2 : 3000 < n'
    · have k2 : decide ((3000 : Int) < (n' : Int)) = true := decide_eq_true (by omega)
      go_enter Try.func4, Try.ntmps4
      go_wp2
      go_ret
      exact ⟨true, rfl, by trivial⟩
    · have k2 : decide ((3000 : Int) < (n' : Int)) = false := decide_eq_false (by omega)
      go_enter Try.func4, Try.ntmps4
      go_wp2
      go_ret
      exact ⟨false, rfl, by trivial⟩

theorem a2At_any {w : World} {ad : Option Addr} {cp : Nat} {bs : List Nat} (h : BSl w ad bs) (k n : Nat) (hn : 1 ≤ n) (hn2 : n ≤ 1000) (_hk : k ≤ 1000) :
    Calls Try.prog 7 #[.slice ad bs.length cp, .int .i64 (k : Int), .int .i64 (n : Int)] w fun e w' => ∃ m : Nat, e = .returned (.int .i64 (m : Int)) ∧ m < n ∧ w' = w := by
  have n1 : decide ((n : Int) < 1) = false := decide_eq_false (by omega)
  by_cases hlt : k < bs.length
  · obtain ⟨g, off, rfl, hg, hcell⟩ : ∃ g off, ad = some ⟨g, off, none⟩ ∧ g < w.heap.size ∧ ∀ i, i < bs.length → w.cell? ⟨g, off + i, none⟩ = some (.int .u8 (byteAt bs i : Nat)) := by
      rcases h.val with rfl | h
      · simp at hlt
      · exact h
    have hc := hcell k hlt
    have hb := byte_lt h.lt k
    have k1 : decide ((bs.length : Int) ≤ (k : Int)) = false := decide_eq_false (by omega)
    have k2 : decide ((k : Int) < (bs.length : Int)) = true := decide_eq_true (by omega)
    clear hcell h
    generalize byteAt bs k = v at hc hb
    generalize bs.length = N at *
    have hw : IntKind.i64.wrap (v : Int) = (v : Int) := IntWalk.i64_in _ (by omega)
    have hr : Int.tmod (v : Int) (n : Int) = ((v % n : Nat) : Int) := by rw [Int.tmod_eq_emod_of_nonneg (by omega)]; rfl
    have hr2 : IntKind.i64.wrap ((v % n : Nat) : Int) = ((v % n : Nat) : Int) := IntWalk.i64_in _ (by have := Nat.mod_lt v (show 0 < n by omega); omega)
    have hm := Nat.mod_lt v (show 0 < n by omega)
    generalize v % n = m at hr hr2 hm
    go_enter Try.func7, Try.ntmps7
    go_wp2
    go_ret
    exact ⟨m, by first | rfl | simp_all, hm, by trivial⟩
  · have k1 : decide ((bs.length : Int) ≤ (k : Int)) = true := decide_eq_true (by omega)
    clear h
    generalize bs.length = N at *
    go_enter Try.func7, Try.ntmps7
    go_wp2
    go_ret
    exact ⟨0, rfl, by omega, by trivial⟩

theorem sameR_self (cs : List Nat) (p b l : Nat) : sameR cs p b l cs p b l = true := by unfold sameR; simp

end Go.Proofs.Ytiaflomabgnmaaa
