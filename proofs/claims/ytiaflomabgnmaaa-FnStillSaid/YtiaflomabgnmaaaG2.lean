/-
  SEVERAL TEXTS IN ONE.
-/
import Derived.Test.YtiaflomabgnmaaaG1
import Derived.WalkKit
import Derived.Test.YtiaflomabgnmaaaRows
import Derived.ProofKit
import Derived.OpenShut
import Derived.Carry
import Derived.Laws.Cover2

/-
  BLOCKS OF CELLS BEHIND A CALL: 'At W g c T': block g of W holds the row c; what calls, draws, new blocks and stores do to it; the walk's arms for whole rows.
  No Go text in it. Conditions: those of each theorem.
-/
namespace Go.Proofs.Ytiaflomabgnmaaa
open Go Go.RowKit

def inB (a b k : Int) : Bool := decide (a ≤ k ∧ k ≤ b)

def At (W : World) (g : Nat) (c : Array Value) (T : TypeId) : Prop := W.heap[g]? = some (.cells c T (0, 0))
section
variable {W W' : World} {g : Nat} {c : Array Value} {T : TypeId}
theorem At.lt (h : At W g c T) : g < W.heap.size := by
  rcases Nat.lt_or_ge g W.heap.size with k | k
  · exact k
  · unfold At at h; rw [Array.getElem?_eq_none k] at h; cases h
theorem At.step (h : At W g c T) (hb : Below W.heap.size W W') : At W' g c T := (hb.block _ h.lt).trans h
theorem At.drewN (h : At W g c T) (n : Nat) : At (W.drewN n) g c T := h
theorem At.alloc (h : At W g c T) (o : Obj) : At (W.alloc o) g c T := heap_old h o
theorem At.new (W : World) (c : Array Value) (T : TypeId) : At (W.alloc (.cells c T)) W.heap.size c T := heap_last _ _
theorem At.setRow (h : At W g c T) (c' : Array Value) : At (W.setRow g c') g c' T := heap_setRow _ _ _ _ _ _ h
theorem At.setRow_other (h : At W g c T) {k : Nat} (hk : g ≠ k) (c' : Array Value) : At (W.setRow k c') g c T := (heap_setRow_other _ _ _ _ hk).trans h
theorem At.cell (h : At W g c T) {k : Nat} {v : Value} (hk : c[k]? = some v) : W.cell? ⟨g, k, none⟩ = some v := by rw [cell_of_row _ _ _ _ _ _ h]; exact hk
theorem At.free (h : At W g c T) (k : Nat) : W.frozen? ⟨g, k, none⟩ = false := frozen_of_row _ _ _ _ _ h
end
theorem bthen {w a b : World} (h : Below w.heap.size w a) (k : Below a.heap.size a b) : Below w.heap.size w b := h.trans (k.mono h.size)
theorem bnew {w a : World} (h : Below w.heap.size w a) (o : Obj) : Below w.heap.size w (a.alloc o) := h.alloc h.size o
theorem bdrew {B : Nat} {w a : World} (h : Below B w a) (n : Nat) : Below B w (a.drewN n) := h.trans ⟨rfl, rfl, rfl, Nat.le_refl _, fun _ _ => rfl⟩
theorem b0 (w : World) (o : Obj) : Below w.heap.size w (w.alloc o) := bnew (Below.refl _ _) o

variable {P : Program} {ops : Array Oper} {rest : List Oper} {o : Oper} {a : Act} {w : World} {Q : Exit → Act → World → Prop}
/-- a whole row loaded -/
theorem wpList_load_at (hgd : o.guard = none) (ty : TypeId) (x : Operand) (ho : o.op = .load ty x) (g : Nat) (hx : a.eval x = .pointer (some ⟨g, 0, none⟩)) (c : Array Value) (T : TypeId) (hA : At w g c T) (n : Nat) (hn : c.size = n) (d : TypeDesc)
    (hu : P.underlying ty = some d) (hd : (match d with | .struct _ | .array _ _ => true | _ => false) = true) (hi : (P.info? ty).map (·.size) = some n) (h : wpList P ops Q rest (a.put o.dst (.agg c)) w) : wpList P ops Q (o :: rest) a w :=
  wpList_load_row hgd ty x ho g hx T c (0, 0) d hA hu hd (by rw [hn]; exact hi) h
/-- a part of a row loaded -/
theorem wpList_load_part (hgd : o.guard = none) (ty : TypeId) (x : Operand) (ho : o.op = .load ty x) (g off : Nat) (hx : a.eval x = .pointer (some ⟨g, off, none⟩)) (c : Array Value) (T : TypeId) (hA : At w g c T) (n : Nat) (hn : off + n ≤ c.size) (d : TypeDesc)
    (hu : P.underlying ty = some d) (hd : (match d with | .struct _ | .array _ _ => true | _ => false) = true) (hi : (P.info? ty).map (·.size) = some n) (c' : Array Value) (hc : c.extract off (off + n) = c') (h : wpList P ops Q rest (a.put o.dst (.agg c')) w) : wpList P ops Q (o :: rest) a w :=
  wpList_load_of hgd ty x ho ⟨g, off, none⟩ hx _ (by subst hc; exact run_loadAt_part w g off n ty c T (0, 0) d hA hu hd hi hn) h
/-- a whole row stored: behind it the world is a variable -/
theorem wpList_store_at (hgd : o.guard = none) (ty : TypeId) (x y : Operand) (ho : o.op = .store ty x y) (g : Nat) (hx : a.eval x = .pointer (some ⟨g, 0, none⟩)) (c : Array Value) (hy : a.eval y = .agg c) (old : Array Value) (T : TypeId) (hA : At w g old T) (n : Nat) (hn : c.size = n) (ho' : old.size = n)
    (hi : (P.info? ty).map (·.size) = some n) (h1 : c.all (·.oneCell') = true) (h : wpList P ops Q rest (a.put o.dst undef) (w.setRow g c)) : wpList P ops Q (o :: rest) a w :=
  wpList_store_of hgd ty x y ho ⟨g, 0, none⟩ hx (.agg c) hy _ (by
    have := run_storeAt_part (P := P) w g 0 T ty old c hA (by rw [hn]; exact hi) (by omega) h1
    rwa [splice_all (by omega)] at this) h

/-- a row and a plain value handed back -/
theorem results_at_tmp {fn : Func} {p u : Tmp} {ty : TypeId} (h : fn.results = #[.cell p ty, .tmp u]) (tmps : Array Value) (W : World) (g : Nat) (c : Array Value) (T : TypeId) (v : Value) (hp : tmps.getD p undef = .pointer (some ⟨g, 0, none⟩)) (hv : tmps.getD u undef = v) (hA : At W g c T)
    (d : TypeDesc) (hu : P.underlying ty = some d) (hd : (match d with | .struct _ | .array _ _ => true | _ => false) = true) (n : Nat) (hn : c.size = n) (hi : (P.info? ty).map (·.size) = some n) :
    (results fn tmps).run P W = .ok (.tuple #[.agg c, v]) W := by
  rw [results_cell_tmp h, hp, hv]
  have := run_loadVar_row (P := P) W g T ty c (0, 0) d hA hu hd (by rw [hn]; exact hi)
  simp only [asAddr, Sem.run_pure, Result.andThen_ok, this]
/-- a row handed back -/
theorem results_at {fn : Func} {p : Tmp} {ty : TypeId} (h : fn.results = #[.cell p ty]) (tmps : Array Value) (W : World) (g : Nat) (c : Array Value) (T : TypeId) (hp : tmps.getD p undef = .pointer (some ⟨g, 0, none⟩)) (hA : At W g c T)
    (d : TypeDesc) (hu : P.underlying ty = some d) (hd : (match d with | .struct _ | .array _ _ => true | _ => false) = true) (n : Nat) (hn : c.size = n) (hi : (P.info? ty).map (·.size) = some n) :
    (results fn tmps).run P W = .ok (.agg c) W :=
  results_cell_row h tmps W g T c (0, 0) d hp hA hu hd (by rw [hn]; exact hi)
theorem bset {B : Nat} {w a : World} (h : Below B w a) {g : Nat} (hg : B ≤ g) (c : Array Value) : Below B w (a.setRow g c) := Below.setRow h hg c
end Go.Proofs.Ytiaflomabgnmaaa

/-
  THE FRAME OF A LAW's PROOF, ONCE FOR ALL LAWS OF THIS SEAT THAT NAME NO VARIABLE: from 'the call returns true, and nothing that was there has turned' to the row's statement; the shapes of arguments.
-/
namespace Go.Proofs.Ytiaflomabgnmaaa
open Go Go.ChangeShapes Go.WideShapes Go.ChangeAt Go.RowKit
set_option maxRecDepth 100000

theorem own : ownKnob Try.prog.godebug = none := by kernel_rfl
theorem laidOut : laidOutB Try.prog = true := by kernel_rfl

theorem trodAll_len {H : Type} {enc : TypeId × Value → H} {P : Program} {W : World} {b : Nat} {sp : Nat → Bool} {hd : Bool} : ∀ {ts : List TypeId} {vs : List Value} {ds : List (DataW H)} {p : List MemPlace},
    DataW.TrodAll enc P W b sp hd ts vs ds p → vs.length = ts.length ∧ ds.length = ts.length
  | [], [], [], _, _ => ⟨rfl, rfl⟩
  | _ :: _, _ :: _, _ :: _, _, h => by
    obtain ⟨p, q, -, h2, -⟩ := h
    obtain ⟨a, b⟩ := trodAll_len h2
    exact ⟨by simp [a], by simp [b]⟩
  | [], _ :: _, _, _, h => by cases h
  | [], [], _ :: _, _, h => by cases h
  | _ :: _, [], _, _, h => by cases h
  | _ :: _, _ :: _, [], _, h => by cases h

theorem trodAll_keep {H : Type} {enc : TypeId × Value → H} {P : Program} (hl : laidOutB P = true) {W W' : World} (hb : Below W.heap.size W W') {sp : Nat → Bool} : ∀ {ts : List TypeId} {vs : List Value} {ds : List (DataW H)} {p : List MemPlace},
    (∀ t ∈ ts, P.readableRec t = true ∧ t < P.types.size) → DataW.TrodAll enc P W 0 (fun _ => true) true ts vs ds p → (∀ x ∈ p, x.block < W.heap.size) → (∀ x ∈ p, sp x.block = true) → DataW.TrodAll enc P W' 0 sp true ts vs ds p
  | [], [], [], _, _, h, _, _ => h
  | t :: _, _ :: _, _ :: _, _, ht, h, hlt, hs => by
    obtain ⟨p, q, h1, h2, rfl⟩ := h
    exact ⟨p, q, WideElems.Trod_stays hl (ht t (by simp)).1 (ht t (by simp)).2 h1 (fun x hx => hb.same (hlt x (by simp [hx]))) (fun x hx => hs x (by simp [hx])),
      trodAll_keep hl hb (fun u hu => ht u (by simp [hu])) h2 (fun x hx => hlt x (by simp [hx])) (fun x hx => hs x (by simp [hx])), rfl⟩
  | [], _ :: _, _, _, _, h, _, _ => by cases h
  | [], [], _ :: _, _, _, h, _, _ => by cases h
  | _ :: _, [], _, _, _, h, _, _ => by cases h
  | _ :: _, _ :: _, [], _, _, h, _, _ => by cases h

/-- what a law's walk proves -/
def True? (w : World) (e : Ending) (w' : World) : Prop := e = .returned (.bool true) ∧ Below w.heap.size w w'

theorem law_lifted {f : FuncId} {fn : Func} {s : ChangeSpec} {apart : Bool} {H : Type} (enc : TypeId × Value → H) (os : Os) (started : os.Started)
    (noInit : Try.checked.prog.inits.idxOf? f = none) (hfn : Try.prog.funcs[f]? = some fn)
    (witness : ∃ (w : World) (tape : Tape) (i : Input), w.os = os ∧ (w.forCall tape i).Shaped Try.checked.prog ∧ i.vars = [] ∧ Input.okWide Try.checked.prog (w.forCall tape i) .any w.heap.size f i ∧
      s.pre6 enc Try.checked.prog fn [] apart (w.forCall tape i).memory i.args ∧ ({} : Assume).holds Try.checked.prog (lone (Frame.enter Try.checked.prog f i.args .normal) [] (w.forCall tape i)))
    (hvars : s.vars = []) (hrt : fn.resultTypes = #[4]) (hts : ∀ t ∈ fn.params.toList, Try.prog.readableRec t = true ∧ t < Try.prog.types.size)
    (hspec : ∀ ds : List (DataW H), ds.length = fn.params.toList.length → s.fn H ds = { results := [.lit (.bool true)], args := ds })
    (walk : ∀ (W : World) (base : Nat) (args : Array Value), args.toList.length = fn.params.toList.length → (∀ (j : Nat) t v, fn.params[j]? = some t → args[j]? = some v → Value.okWide Try.prog W .any base t v) → Calls Try.prog f args W (True? W)) :
    ReturnsInHanded {} Try.checked os f .any (s.pre6 enc Try.checked.prog fn [] apart) (s.post enc Try.checked.prog fn apart true false false) := by
  refine returnsInHanded_of_change (C := Try.checked) own started noInit hfn witness ?_
  intro W base args ds gs before hval hW _ _
  have hW' := hW
  obtain ⟨p, q, hA, hV, hpq, hfz, hnd⟩ := hW
  rw [hvars] at hV
  obtain ⟨rfl, rfl⟩ := trodVars_none hV
  rw [List.append_nil] at hpq
  subst hpq
  obtain ⟨hl1, hl2⟩ := trodAll_len hA
  refine (walk W base args hl1 hval).mono fun e W' ⟨he, hb⟩ => ?_
  subst he
  have hlt : ∀ x ∈ before, x.block < W.heap.size := fun x hx => hW'.lt x hx
  have hs : s.fn H (ds ++ []) = { results := [.lit (.bool true)], args := ds } := by rw [List.append_nil]; exact hspec ds hl2
  refine ⟨_, rfl, ds, [], before, [], before, [], hW', ?_, ?_, ?_, hb.frame _, fun h => by cases h⟩
  · rw [hs, hrt]
    exact trodAll_mk1 (shut_bool Try.underlying4 _)
  · rw [hs]
    exact trodAll_keep laidOut hb hts hA hlt (fun x hx => by simpa using hlt x hx)
  · rw [hs, hvars]; rfl

/-! ### the shapes of arguments -/
section
variable {W : World} {r : Reach} {base : Nat} {v : Value}

theorem cell_f32 (h : Cell.okWide Try.prog W r base 24 v) : ∃ x, v = .float .f32 x ∧ x < 4294967296 := by
  have h1 : Value.okWide Try.prog W r base 24 v := by simpa [Value.okWide, Try.underlying24] using h
  obtain ⟨x, rfl⟩ := okWide_float Try.underlying24 h1
  refine ⟨x, rfl, ?_⟩
  have h' : Cell.ok Try.prog W r base 24 (.float .f32 x) := by simpa [Cell.okWide, Try.underlying24] using h
  have h2 := h'
  simp only [Cell.ok, Try.underlying24] at h2
  exact h2.2

theorem shape_f32 (h : Value.okWide Try.prog W r base 24 v) : ∃ x, v = .float .f32 x ∧ x < 4294967296 :=
  cell_f32 (by simpa [Value.okWide, Try.underlying24] using h)

theorem shape_i64 (h : Value.okWide Try.prog W r base 2 v) : ∃ x, v = .int .i64 x ∧ -9223372036854775808 ≤ x ∧ x ≤ 9223372036854775807 := by
  obtain ⟨x, rfl⟩ := okWide_int Try.underlying2 h
  refine ⟨x, rfl, ?_⟩
  have h' : Cell.ok Try.prog W r base 2 (.int .i64 x) := by simpa [Value.okWide, Cell.okWide, Try.underlying2] using h
  have h2 := h'
  simp only [Cell.ok, Try.underlying2] at h2
  have h3 := h2.2
  simp [IntKind.has, IntKind.min, IntKind.max, IntKind.bits, IntKind.signed] at h3
  omega

/-- an aggregate whose cells are all narrow floats -/
theorem shape_fl {T n : Nat} {d : TypeDesc} (hu : Try.prog.underlying T = some d) (hd : (match d with | .struct _ | .array _ _ => true | _ => false) = true) (hc : Try.prog.cellsOf T = n)
    (ht : Try.prog.cellTypes Try.prog.depth T = some (List.replicate n 24)) (h : Value.okWide Try.prog W r base T v) : ∃ xs : List Nat, v = .agg (fl xs) ∧ xs.length = n ∧ ∀ x ∈ xs, x < 4294967296 := by
  have h' : ∃ cs, v = .agg cs ∧ cs.size = Try.prog.cellsOf T ∧ Row.okWide Try.prog W r base T cs := by
    unfold Value.okWide at h
    rw [hu] at h
    cases d <;> simp_all
  obtain ⟨cs, rfl, hsz, ts, hts, -, hcell⟩ := h'
  rw [ht] at hts
  obtain rfl := Option.some.inj hts
  rw [hc] at hsz
  have hx : ∀ i (hi : i < cs.size), ∃ x, cs[i] = .float .f32 x ∧ x < 4294967296 := by
    intro i hi
    obtain ⟨u, hu, hok⟩ := hcell i cs[i] (Array.getElem?_eq_getElem hi)
    rw [List.length_replicate, Nat.mod_eq_of_lt (by omega), List.getElem?_replicate, if_pos (by omega)] at hu
    obtain rfl := Option.some.inj hu
    exact cell_f32 hok
  refine ⟨cs.toList.map fun v => (match v with | .float _ x => x | _ => 0), ?_, by simp [hsz], ?_⟩
  · congr 1
    apply Array.ext'
    simp only [fl, List.map_map]
    apply List.ext_getElem
    · simp
    · intro i h1 h2
      obtain ⟨x, hx1, -⟩ := hx i (by simpa using h1)
      simp [hx1]
  · intro x hm
    obtain ⟨v, hv, rfl⟩ := List.mem_map.1 hm
    obtain ⟨i, hi, rfl⟩ := List.mem_iff_getElem.1 hv
    obtain ⟨x, hx1, hx2⟩ := hx i (by simpa using hi)
    simp only [Array.getElem_toList, hx1]
    exact hx2

end
end Go.Proofs.Ytiaflomabgnmaaa
