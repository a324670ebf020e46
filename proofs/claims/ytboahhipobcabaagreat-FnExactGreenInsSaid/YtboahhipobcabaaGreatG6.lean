/-
  SEVERAL TEXTS IN ONE.
-/
import Derived.Test.YtboahhipobcabaaGreatFour
import Derived.Test.YtboahhipobcabaaGreatRows
import Derived.Test.YtboahhipobcabaaGreatG3
import Derived.WalkKit
import Derived.ProofKit
import Derived.OpenShut
import Derived.Carry
import Derived.Laws.Cover2

/-
  SUMS OF WHATEVER NUMBERS: what a sum gives, a NaN where there is none; two such sums agree.
  No Go text in it. Conditions: those of each theorem.
-/
namespace Go.Proofs.YtboahhipobcabaaGreat
open Go Go.RowKit

theorem word_num (s : Bool) {q : Nat} (h : q ≤ 2139095040) : S32.word s q < 4294967296 ∧ nanB (S32.word s q) = false := by
  have hs := s_sw
  cases s
  · rw [word_false]; unfold nanB; exact ⟨by omega, decide_eq_false (by omega)⟩
  · rw [word_true, hs]; unfold nanB; exact ⟨by omega, decide_eq_false (by omega)⟩

theorem write_num {d : Ieee.Datum} (h : ∀ s t, d ≠ .nan s t) : S32.write d < 4294967296 ∧ nanB (S32.write d) = false := by
  cases d with
  | number s m i =>
    show S32.nearest s m i < _ ∧ nanB (S32.nearest s m i) = false
    unfold Ieee.Format.nearest
    split
    · exact word_num s (by omega)
    · exact word_num s (Nat.le_trans (Nat.min_le_right _ _) (by rw [s_inf]; exact Nat.le_refl _))
  | infinity s => exact word_num s (by rw [s_inf]; exact Nat.le_refl _)
  | nan s t => exact absurd rfl (h s t)

theorem sum_num {d e f : Ieee.Datum} (h : d.sum e = some f) : ∀ s t, f ≠ .nan s t := by
  intro s t hf
  subst hf
  cases d <;> cases e <;> simp [Ieee.Datum.sum] at h

theorem add_num {x y r : Nat} (h : floatBits .add .f32 x y = some r) : r < 4294967296 ∧ nanB r = false := by
  have h' : S32.add x y = some r := h
  unfold Ieee.Format.add at h'
  cases hs : (S32.read x).sum (S32.read y) with
  | none => rw [hs] at h'; cases h'
  | some f =>
    rw [hs] at h'
    obtain rfl := Option.some.inj h'
    exact write_num (sum_num hs)

theorem read_nanB {x : Nat} (h : x < 4294967296) (c : nanB x = true) : ∃ s t, S32.read x = .nan s t := by
  have hs := split32 h
  have hm : x % 2147483648 < 2147483648 := Nat.mod_lt _ (by omega)
  unfold nanB at c
  generalize decide (2147483648 ≤ x) = s at hs
  generalize x % 2147483648 = r at hs hm c
  subst hs
  exact ⟨_, _, read_nan S32 s_bin s (by rw [s_inf]; simpa using c) (by rw [s_sw]; exact hm)⟩

theorem add_nanL {x y : Nat} (h : x < 4294967296) (c : nanB x = true) : floatBits .add .f32 x y = none := by
  obtain ⟨s, t, e⟩ := read_nanB h c
  show S32.add x y = none
  unfold Ieee.Format.add
  rw [e]
  rfl

/-- z is the sum of x and y (a NaN where there is none) -/
def AddR (x y z : Nat) : Prop := z < 4294967296 ∧ (floatBits .add .f32 x y = some z ∨ floatBits .add .f32 x y = none ∧ nanB z = true)

theorem AddR.agr {x x' y z z' : Nat} (hx : Agr x x') (h : AddR x y z) (h' : AddR x' y z') : Agr z z' := by
  refine ⟨h.1, h'.1, ?_⟩
  rcases hx.2.2 with ⟨n1, n2⟩ | ⟨n1, rfl⟩
  · rcases h.2 with k | ⟨-, k⟩
    · rw [add_nanL hx.1 n1] at k; cases k
    rcases h'.2 with k' | ⟨-, k'⟩
    · rw [add_nanL hx.2.1 n2] at k'; cases k'
    exact .inl ⟨k, k'⟩
  · rcases h.2 with k | ⟨k0, k⟩ <;> rcases h'.2 with k' | ⟨k0', k'⟩
    · rw [k] at k'; exact .inr ⟨(add_num k).2, (Option.some.inj k').symm⟩
    · rw [k] at k0'; cases k0'
    · rw [k'] at k0; cases k0
    · exact .inl ⟨k, k'⟩

theorem run_add_any {P : Program} (t : TypeId) (x y : Nat) (w : World) :
    ∃ z n, (binOp .add t (.float .f32 x) (.float .f32 y)).run P w = .ok (.float .f32 z) (w.drewN n) ∧ AddR x y z := by
  cases h : floatBits .add .f32 x y with
  | some z => exact ⟨z, 0, run_float_arith w .add t .f32 _ _ _ h, (add_num h).1, .inl h⟩
  | none => exact ⟨_, 1, run_arith_nan w .add (.inl rfl) t .f32 x y h, (tapeNan32 w x y).1, .inr ⟨h, (tapeNan32 w x y).2⟩⟩

/-- v is the sum of four numbers, from the first on -/
def Sum4 (a b c d v : Nat) : Prop := ∃ y z, AddR a b y ∧ AddR y c z ∧ AddR z d v
theorem Sum4.agr {a b c d v v' : Nat} (ha : a < 4294967296) (h : Sum4 a b c d v) (h' : Sum4 a b c d v') : Agr v v' := by
  obtain ⟨y, z, h1, h2, h3⟩ := h
  obtain ⟨y', z', k1, k2, k3⟩ := h'
  have e0 : Agr a a := ⟨ha, ha, by cases h : nanB a; exact .inr ⟨rfl, rfl⟩; exact .inl ⟨rfl, rfl⟩⟩
  exact AddR.agr (AddR.agr (AddR.agr e0 h1 k1) h2 k2) h3 k3
end Go.Proofs.YtboahhipobcabaaGreat

/-
  ROWS OF A JUNCTION: two whole numbers, sixteen turns, four priorities; rows of sixteen by four.
  No Go text in it. Conditions: those of each theorem.
-/
namespace Go.Proofs.YtboahhipobcabaaGreat
open Go Go.RowKit

def jn (i o : Int) (ts ps : List Nat) : Array Value := #[.int .i64 i, .int .i64 o] ++ fl (ts ++ ps)
section
variable {i o : Int} {ts ps : List Nat}
theorem jn_size (ht : ts.length = 16) (hp : ps.length = 4) (i o : Int) : (jn i o ts ps).size = 22 := by
  unfold jn; rw [Array.size_append, fl_size, List.length_append, ht, hp]; rfl
theorem jn_list (i o : Int) (ts ps : List Nat) : (jn i o ts ps).toList = .int .i64 i :: .int .i64 o :: (ts ++ ps).map (Value.float .f32) := by
  unfold jn fl; simp
theorem jn_ins (i o : Int) (ts ps : List Nat) : (jn i o ts ps)[0]? = some (.int .i64 i) := by rw [← Array.getElem?_toList, jn_list]; rfl
theorem jn_outs (i o : Int) (ts ps : List Nat) : (jn i o ts ps)[1]? = some (.int .i64 o) := by rw [← Array.getElem?_toList, jn_list]; rfl
theorem jn_at (ht : ts.length = 16) (hp : ps.length = 4) (i o : Int) {k : Nat} (hk : k < 20) : (jn i o ts ps)[k + 2]? = some (.float .f32 (nth (ts ++ ps) k)) := by
  rw [← Array.getElem?_toList, jn_list, List.getElem?_cons_succ, List.getElem?_cons_succ, List.getElem?_map, List.getElem?_eq_getElem (by simp [ht, hp]; omega)]
  simp [nth, List.getD, List.getElem?_eq_getElem (show k < (ts ++ ps).length by simp [ht, hp]; omega)]
theorem nth_left {a b : List Nat} {k : Nat} (h : k < a.length) : nth (a ++ b) k = nth a k := by
  unfold nth; simp only [List.getD]; rw [List.getElem?_append_left h]
theorem nth_right {a b : List Nat} {k : Nat} (h : a.length ≤ k) : nth (a ++ b) k = nth b (k - a.length) := by
  unfold nth; simp only [List.getD]; rw [List.getElem?_append_right h]
theorem jn_turn (ht : ts.length = 16) (hp : ps.length = 4) (i o : Int) {k j : Nat} (hk : k < 16) (hj : j = k + 2) : (jn i o ts ps)[j]? = some (.float .f32 (nth ts k)) := by
  subst hj; rw [jn_at ht hp i o (by omega), nth_left (by omega)]
theorem jn_prior (ht : ts.length = 16) (hp : ps.length = 4) (i o : Int) {k j : Nat} (hk : k < 4) (hj : j = k + 18) : (jn i o ts ps)[j]? = some (.float .f32 (nth ps k)) := by
  subst hj
  have := jn_at ht hp i o (k := k + 16) (by omega)
  rw [show k + 18 = k + 16 + 2 from rfl, this, nth_right (by omega), ht, Nat.add_sub_cancel]
theorem jn_extract (ht : ts.length = 16) (hp : ps.length = 4) (i o : Int) (a b : Nat) (ha : 2 ≤ a) : (jn i o ts ps).extract a b = fl (((ts ++ ps).take (b - 2)).drop (a - 2)) := by
  obtain ⟨a', rfl⟩ : ∃ a', a = a' + 2 := ⟨a - 2, by omega⟩
  apply Array.ext'
  rw [Array.toList_extract, jn_list]
  simp only [fl, List.map_drop, List.map_take]
  rw [List.extract_eq_take_drop]
  rw [show a' + 2 = (a' + 1) + 1 from rfl, List.drop_succ_cons, List.drop_succ_cons, show a' + 1 + 1 - 2 = a' from by omega, List.take_drop]
  by_cases c : a' + 1 + 1 ≤ b
  · rw [show a' + (b - (a' + 1 + 1)) = b - 2 from by omega]
  · rw [show b - (a' + 1 + 1) = 0 from by omega, List.drop_eq_nil_of_le (by rw [List.length_take]; omega), List.drop_eq_nil_of_le (by rw [List.length_take]; omega)]
theorem jn_turns (ht : ts.length = 16) (hp : ps.length = 4) (i o : Int) : (jn i o ts ps).extract 2 (2 + 16) = fl ts := by
  rw [jn_extract ht hp i o 2 18 (by omega)]
  congr 1
  simp [← ht]
theorem jn_priors (ht : ts.length = 16) (hp : ps.length = 4) (i o : Int) : (jn i o ts ps).extract 18 (18 + 4) = fl ps := by
  rw [jn_extract ht hp i o 18 22 (by omega)]
  congr 1
  have : (ts ++ ps).take (22 - 2) = ts ++ ps := List.take_of_length_le (by simp [ht, hp])
  rw [this, show 18 - 2 = ts.length from ht.symm, List.drop_left]
/-- row k of four by four -/
def row4 (ts : List Nat) (k : Nat) : List Nat := (ts.drop (4 * k)).take 4
theorem row4_len (ht : ts.length = 16) {k : Nat} (hk : k < 4) : (row4 ts k).length = 4 := by simp [row4, ht]; omega
theorem row4_nth (_ht : ts.length = 16) (k : Nat) {n : Nat} (hn : n < 4) : nth (row4 ts k) n = nth ts (4 * k + n) := by
  unfold row4 nth; simp only [List.getD]; rw [List.getElem?_take_of_lt hn, List.getElem?_drop]
theorem row4_mem {x : Nat} (k : Nat) (h : x ∈ row4 ts k) : x ∈ ts := List.mem_of_mem_drop (List.mem_of_mem_take h)
theorem fl_row (_ht : ts.length = 16) {k off : Nat} (_hk : k < 4) (ho : off = 4 * k) : (fl ts).extract off (off + 4) = fl (row4 ts k) := by
  subst ho
  rw [fl_extract]; congr 1; unfold row4; rw [List.take_drop, Nat.add_comm]
theorem jn_row (ht : ts.length = 16) (hp : ps.length = 4) (i o : Int) {k off : Nat} (hk : k < 4) (ho : off = 4 * k + 2) : (jn i o ts ps).extract off (off + 4) = fl (row4 ts k) := by
  subst ho
  rw [jn_extract ht hp i o _ _ (by omega)]
  congr 1
  unfold row4
  rw [List.take_drop, show 4 * k + 2 + 4 - 2 = 4 * k + 4 from by omega, show 4 * k + 2 - 2 = 4 * k from by omega, List.take_append_of_le_length (by omega)]
theorem jn_one (i o : Int) (ts ps : List Nat) : (jn i o ts ps).all (·.oneCell') = true := by
  rw [Array.all_eq_true_iff_forall_mem]
  intro x hx
  have : x ∈ (jn i o ts ps).toList := by simpa using hx
  rw [jn_list] at this
  simp only [List.mem_cons, List.mem_map] at this
  rcases this with rfl | rfl | ⟨y, -, rfl⟩ <;> rfl
theorem jn_set (i o : Int) (ts ps : List Nat) (k x : Nat) : (jn i o ts ps).setIfInBounds (k + 2) (.float .f32 x) = #[.int .i64 i, .int .i64 o] ++ fl ((ts ++ ps).set k x) := by
  apply Array.ext'
  rw [Array.toList_setIfInBounds, jn_list]
  simp [fl]
theorem jn_setTurn (ht : ts.length = 16) (i o : Int) {k j : Nat} (hk : k < 16) (hj : j = k + 2) (x : Nat) : (jn i o ts ps).setIfInBounds j (.float .f32 x) = jn i o (ts.set k x) ps := by
  subst hj
  rw [jn_set, List.set_append_left _ _ (by omega)]; rfl
theorem jn_setPrior (ht : ts.length = 16) (i o : Int) {k j : Nat} (hj : j = k + 18) (x : Nat) : (jn i o ts ps).setIfInBounds j (.float .f32 x) = jn i o ts (ps.set k x) := by
  subst hj
  rw [show k + 18 = (k + 16) + 2 from rfl, jn_set, List.set_append_right _ _ (by omega), ht, Nat.add_sub_cancel]; rfl
theorem jn_setIns (i o x : Int) (ts ps : List Nat) : (jn i o ts ps).setIfInBounds 0 (.int .i64 x) = jn x o ts ps := by
  apply Array.ext'
  rw [Array.toList_setIfInBounds, jn_list, jn_list]; rfl
theorem jn_setOuts (i o x : Int) (ts ps : List Nat) : (jn i o ts ps).setIfInBounds 1 (.int .i64 x) = jn i x ts ps := by
  apply Array.ext'
  rw [Array.toList_setIfInBounds, jn_list, jn_list]; rfl
theorem jn_spliceTurns {ts' : List Nat} (ht : ts.length = 16) (ht' : ts'.length = 16) (i o : Int) (ps : List Nat) : splice (jn i o ts ps) 2 (fl ts') = jn i o ts' ps := by
  apply Array.ext'
  unfold splice
  rw [jn_list, jn_list]
  simp [fl, ht, ht']
theorem jn_splicePriors {ps' : List Nat} (ht : ts.length = 16) (hp : ps.length = 4) (hp' : ps'.length = 4) (i o : Int) : splice (jn i o ts ps) 18 (fl ps') = jn i o ts ps' := by
  apply Array.ext'
  unfold splice
  rw [jn_list, jn_list]
  simp [fl, ht, hp, hp']
end
/-- a copy by rows -/
def cpR (ts : List Nat) (k : Nat) : List Nat := cpN 16 ts (4 * k)
theorem cpR_len {ts : List Nat} (h : ts.length = 16) {k : Nat} (hk : k ≤ 4) : (cpR ts k).length = 16 := cpN_len h _ (by omega)
theorem cpR_zero (ts : List Nat) : cpR ts 0 = zeros 16 := by simp [cpR, cpN, zeros]
theorem cpR_all {ts : List Nat} (h : ts.length = 16) : cpR ts 4 = ts := cpN_all h
theorem cpR_splice {ts : List Nat} (h : ts.length = 16) {k off : Nat} (hk : k < 4) (ho : off = 4 * k) : splice (fl (cpR ts k)) off (fl (row4 ts k)) = fl (cpR ts (k + 1)) := by
  subst ho
  rw [splice_fl, row4_len h hk]
  congr 1
  unfold cpR cpN row4
  have e1 : (ts.take (4 * k)).drop (4 * k + 4) = [] := List.drop_eq_nil_of_le (by simp [h]; omega)
  have e2 : (ts.take (4 * k)).length = 4 * k := by simp [h]; omega
  rw [List.take_append_of_le_length (by omega), List.take_take, Nat.min_self, List.drop_append, e1, List.nil_append, e2, List.drop_replicate]
  rw [show 4 * (k + 1) = 4 * k + 4 from by omega, List.take_add]
  congr 2
  omega

variable {P : Program} {ops : Array Oper} {rest : List Oper} {o : Oper} {a : Act} {w : World} {Q : Exit → Act → World → Prop}
/-- a part of a row stored -/
theorem wpList_store_part (hgd : o.guard = none) (ty : TypeId) (x y : Operand) (ho : o.op = .store ty x y) (g off : Nat) (hx : a.eval x = .pointer (some ⟨g, off, none⟩)) (c : Array Value) (hy : a.eval y = .agg c) (old : Array Value) (T : TypeId) (hA : At w g old T) (n : Nat) (hn : c.size = n) (hle : off + n ≤ old.size)
    (hi : (P.info? ty).map (·.size) = some n) (h1 : c.all (·.oneCell') = true) (new : Array Value) (hs : splice old off c = new) (h : wpList P ops Q rest (a.put o.dst undef) (w.setRow g new)) : wpList P ops Q (o :: rest) a w :=
  wpList_store_of hgd ty x y ho ⟨g, off, none⟩ hx (.agg c) hy _ (by
    have := run_storeAt_part (P := P) w g off T ty old c hA (by rw [hn]; exact hi) (by omega) h1
    rwa [hs] at this) h
end Go.Proofs.YtboahhipobcabaaGreat

/-
  THE FRAME OF A LAW's PROOF, ONCE FOR ALL LAWS OF THIS SEAT THAT NAME NO VARIABLE: from 'the call returns true, and nothing that was there has turned' to the row's statement; the shapes of arguments.
-/
namespace Go.Proofs.YtboahhipobcabaaGreat
open Go Go.ChangeShapes Go.WideShapes Go.ChangeAt Go.RowKit
set_option maxRecDepth 100000

theorem own : ownKnob Tryz.prog.godebug = none := by kernel_rfl
theorem laidOut : laidOutB Tryz.prog = true := by kernel_rfl

theorem trodAll_len {H : Type} {enc : TypeId × Value → H} {P : Program} {W : World} {b : Nat} {sp : Nat → Bool} {hd : Bool} : ∀ {ts : List TypeId} {vs : List Value} {ds : List (DataW H)} {p : List MemPlace},
    DataW.TrodAll enc P W b sp hd ts vs ds p → vs.length = ts.length ∧ ds.length = ts.length
  | [], [], [], _, _ => ⟨rfl, rfl⟩
  | _ :: _, _ :: _, _ :: _, _, h => by
    obtain ⟨p, q, -, h2, -⟩ := h
    obtain ⟨a, b⟩ := trodAll_len h2
    exact ⟨by simp [a], by simp [b]⟩
  | [], _ :: _, _, _, h => by cases h
  | [], [], _ :: _, _, h => by cases h
  | _ :: _, [], _, _, h => by cases h
  | _ :: _, _ :: _, [], _, h => by cases h

theorem trodAll_keep {H : Type} {enc : TypeId × Value → H} {P : Program} (hl : laidOutB P = true) {W W' : World} (hb : Below W.heap.size W W') {sp : Nat → Bool} : ∀ {ts : List TypeId} {vs : List Value} {ds : List (DataW H)} {p : List MemPlace},
    (∀ t ∈ ts, P.readableRec t = true ∧ t < P.types.size) → DataW.TrodAll enc P W 0 (fun _ => true) true ts vs ds p → (∀ x ∈ p, x.block < W.heap.size) → (∀ x ∈ p, sp x.block = true) → DataW.TrodAll enc P W' 0 sp true ts vs ds p
  | [], [], [], _, _, h, _, _ => h
  | t :: _, _ :: _, _ :: _, _, ht, h, hlt, hs => by
    obtain ⟨p, q, h1, h2, rfl⟩ := h
    exact ⟨p, q, WideElems.Trod_stays hl (ht t (by simp)).1 (ht t (by simp)).2 h1 (fun x hx => hb.same (hlt x (by simp [hx]))) (fun x hx => hs x (by simp [hx])),
      trodAll_keep hl hb (fun u hu => ht u (by simp [hu])) h2 (fun x hx => hlt x (by simp [hx])) (fun x hx => hs x (by simp [hx])), rfl⟩
  | [], _ :: _, _, _, _, h, _, _ => by cases h
  | [], [], _ :: _, _, _, h, _, _ => by cases h
  | _ :: _, [], _, _, _, h, _, _ => by cases h
  | _ :: _, _ :: _, [], _, _, h, _, _ => by cases h

/-- what a law's walk proves -/
def True? (w : World) (e : Ending) (w' : World) : Prop := e = .returned (.bool true) ∧ Below w.heap.size w w'

theorem law_lifted {f : FuncId} {fn : Func} {s : ChangeSpec} {apart : Bool} {H : Type} (enc : TypeId × Value → H) (os : Os) (started : os.Started)
    (noInit : Tryz.checked.prog.inits.idxOf? f = none) (hfn : Tryz.prog.funcs[f]? = some fn)
    (witness : ∃ (w : World) (tape : Tape) (i : Input), w.os = os ∧ (w.forCall tape i).Shaped Tryz.checked.prog ∧ i.vars = [] ∧ Input.okWide Tryz.checked.prog (w.forCall tape i) .any w.heap.size f i ∧
      s.pre6 enc Tryz.checked.prog fn [] apart (w.forCall tape i).memory i.args ∧ ({} : Assume).holds Tryz.checked.prog (lone (Frame.enter Tryz.checked.prog f i.args .normal) [] (w.forCall tape i)))
    (hvars : s.vars = []) (hrt : fn.resultTypes = #[4]) (hts : ∀ t ∈ fn.params.toList, Tryz.prog.readableRec t = true ∧ t < Tryz.prog.types.size)
    (hspec : ∀ ds : List (DataW H), ds.length = fn.params.toList.length → s.fn H ds = { results := [.lit (.bool true)], args := ds })
    (walk : ∀ (W : World) (base : Nat) (args : Array Value), args.toList.length = fn.params.toList.length → (∀ (j : Nat) t v, fn.params[j]? = some t → args[j]? = some v → Value.okWide Tryz.prog W .any base t v) → Calls Tryz.prog f args W (True? W)) :
    ReturnsInHanded {} Tryz.checked os f .any (s.pre6 enc Tryz.checked.prog fn [] apart) (s.post enc Tryz.checked.prog fn apart true false false) := by
  refine returnsInHanded_of_change (C := Tryz.checked) own started noInit hfn witness ?_
  intro W base args ds gs before hval hW _ _
  have hW' := hW
  obtain ⟨p, q, hA, hV, hpq, hfz, hnd⟩ := hW
  rw [hvars] at hV
  obtain ⟨rfl, rfl⟩ := trodVars_none hV
  rw [List.append_nil] at hpq
  subst hpq
  obtain ⟨hl1, hl2⟩ := trodAll_len hA
  refine (walk W base args hl1 hval).mono fun e W' ⟨he, hb⟩ => ?_
  subst he
  have hlt : ∀ x ∈ before, x.block < W.heap.size := fun x hx => hW'.lt x hx
  have hs : s.fn H (ds ++ []) = { results := [.lit (.bool true)], args := ds } := by rw [List.append_nil]; exact hspec ds hl2
  refine ⟨_, rfl, ds, [], before, [], before, [], hW', ?_, ?_, ?_, hb.frame _, fun h => by cases h⟩
  · rw [hs, hrt]
    exact trodAll_mk1 (shut_bool Tryz.underlying4 _)
  · rw [hs]
    exact trodAll_keep laidOut hb hts hA hlt (fun x hx => by simpa using hlt x hx)
  · rw [hs, hvars]; rfl

/-! ### the shapes of arguments -/
section
variable {W : World} {r : Reach} {base : Nat} {v : Value}

theorem cell_f32 (h : Cell.okWide Tryz.prog W r base 26 v) : ∃ x, v = .float .f32 x ∧ x < 4294967296 := by
  have h1 : Value.okWide Tryz.prog W r base 26 v := by simpa [Value.okWide, Tryz.underlying26] using h
  obtain ⟨x, rfl⟩ := okWide_float Tryz.underlying26 h1
  refine ⟨x, rfl, ?_⟩
  have h' : Cell.ok Tryz.prog W r base 26 (.float .f32 x) := by simpa [Cell.okWide, Tryz.underlying26] using h
  have h2 := h'
  simp only [Cell.ok, Tryz.underlying26] at h2
  exact h2.2

theorem shape_f32 (h : Value.okWide Tryz.prog W r base 26 v) : ∃ x, v = .float .f32 x ∧ x < 4294967296 :=
  cell_f32 (by simpa [Value.okWide, Tryz.underlying26] using h)

theorem shape_i64 (h : Value.okWide Tryz.prog W r base 2 v) : ∃ x, v = .int .i64 x ∧ -9223372036854775808 ≤ x ∧ x ≤ 9223372036854775807 := by
  obtain ⟨x, rfl⟩ := okWide_int Tryz.underlying2 h
  refine ⟨x, rfl, ?_⟩
  have h' : Cell.ok Tryz.prog W r base 2 (.int .i64 x) := by simpa [Value.okWide, Cell.okWide, Tryz.underlying2] using h
  have h2 := h'
  simp only [Cell.ok, Tryz.underlying2] at h2
  have h3 := h2.2
  simp [IntKind.has, IntKind.min, IntKind.max, IntKind.bits, IntKind.signed] at h3
  omega

/-- an aggregate whose cells are all narrow floats -/
theorem shape_fl {T n : Nat} {d : TypeDesc} (hu : Tryz.prog.underlying T = some d) (hd : (match d with | .struct _ | .array _ _ => true | _ => false) = true) (hc : Tryz.prog.cellsOf T = n)
    (ht : Tryz.prog.cellTypes Tryz.prog.depth T = some (List.replicate n 26)) (h : Value.okWide Tryz.prog W r base T v) : ∃ xs : List Nat, v = .agg (fl xs) ∧ xs.length = n ∧ ∀ x ∈ xs, x < 4294967296 := by
  have h' : ∃ cs, v = .agg cs ∧ cs.size = Tryz.prog.cellsOf T ∧ Row.okWide Tryz.prog W r base T cs := by
    unfold Value.okWide at h
    rw [hu] at h
    cases d <;> simp_all
  obtain ⟨cs, rfl, hsz, ts, hts, -, hcell⟩ := h'
  rw [ht] at hts
  obtain rfl := Option.some.inj hts
  rw [hc] at hsz
  have hx : ∀ i (hi : i < cs.size), ∃ x, cs[i] = .float .f32 x ∧ x < 4294967296 := by
    intro i hi
    obtain ⟨u, hu, hok⟩ := hcell i cs[i] (Array.getElem?_eq_getElem hi)
    rw [List.length_replicate, Nat.mod_eq_of_lt (by omega), List.getElem?_replicate, if_pos (by omega)] at hu
    obtain rfl := Option.some.inj hu
    exact cell_f32 hok
  refine ⟨cs.toList.map fun v => (match v with | .float _ x => x | _ => 0), ?_, by simp [hsz], ?_⟩
  · congr 1
    apply Array.ext'
    simp only [fl, List.map_map]
    apply List.ext_getElem
    · simp
    · intro i h1 h2
      obtain ⟨x, hx1, -⟩ := hx i (by simpa using h1)
      simp [hx1]
  · intro x hm
    obtain ⟨v, hv, rfl⟩ := List.mem_map.1 hm
    obtain ⟨i, hi, rfl⟩ := List.mem_iff_getElem.1 hv
    obtain ⟨x, hx1, hx2⟩ := hx i (by simpa using hi)
    simp only [Array.getElem_toList, hx1]
    exact hx2

theorem shape_road (h : Value.okWide Tryz.prog W r base 129 v) : ∃ (cs : List Nat) (p b l : Nat), v = .agg (rd cs p b l) ∧ cs.length = 16 ∧ (∀ x ∈ cs, x < 4294967296) ∧ p < 4294967296 ∧ b < 4294967296 ∧ l < 4294967296 := by
  obtain ⟨xs, rfl, hl, hx⟩ := shape_fl (n := 19) Tryz.underlying129 rfl (by kernel_rfl) (by kernel_rfl) h
  have e : xs = xs.take 16 ++ [nth xs 16, nth xs 17, nth xs 18] := by
    apply List.ext_getElem?
    intro i
    by_cases c : i < 16
    · rw [List.getElem?_append_left (by simp; omega), List.getElem?_take_of_lt c]
    · rw [List.getElem?_append_right (by simp; omega), List.length_take, hl]
      rcases (by omega : i = 16 ∨ i = 17 ∨ i = 18 ∨ 19 ≤ i) with rfl | rfl | rfl | hi
      · simp [nth, hl]
      · simp [nth, hl]
      · simp [nth, hl]
      · rw [List.getElem?_eq_none (by omega), List.getElem?_eq_none (by simp; omega)]
  have hm : ∀ k, k < 19 → nth xs k < 4294967296 := by
    intro k hk
    refine hx _ ?_
    unfold nth
    rw [List.getD_eq_getElem?_getD, List.getElem?_eq_getElem (by omega)]
    exact List.getElem_mem (by omega)
  exact ⟨xs.take 16, nth xs 16, nth xs 17, nth xs 18, by unfold rd; rw [← e], by simp [hl], fun x hx' => hx x (List.mem_of_mem_take hx'), hm _ (by omega), hm _ (by omega), hm _ (by omega)⟩

end
end Go.Proofs.YtboahhipobcabaaGreat
