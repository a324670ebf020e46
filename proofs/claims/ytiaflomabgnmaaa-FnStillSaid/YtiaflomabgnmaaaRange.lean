/-
  A RANGE OVER A FUNCTION, where the function writes blocks of its own between two rounds, and the rounds come in a known order (round k is handed 'enc k').
  No Go text in it. Conditions: those of each theorem.
-/
import Derived.RangeFuncNested
import Derived.RangeFuncBound
import Derived.RangeFuncCalls
import Derived.RangeFuncLeaves
import Derived.OwnWalkIn
import Derived.TacticsInMore
import Derived.LoopNIn
import Derived.LoopIn
import Derived.WalkKit
import Derived.Test.YtiaflomabgnmaaaG2
namespace Go.Proofs.Ytiaflomabgnmaaa
open Go Go.RowKit
variable {F : Fence} {n : Nat} {P : Program}

/-- from block B on nothing that lay has turned -/
structure Kept (B : Nat) (W W' : World) : Prop where
  size : W.heap.size ≤ W'.heap.size
  blk : ∀ i, B ≤ i → i < W.heap.size → W'.heap[i]? = W.heap[i]?
theorem Kept.refl (B : Nat) (W : World) : Kept B W W := ⟨Nat.le_refl _, fun _ _ _ => rfl⟩
theorem Kept.trans {B : Nat} {a b c : World} (h : Kept B a b) (k : Kept B b c) : Kept B a c :=
  ⟨Nat.le_trans h.size k.size, fun i h1 h2 => (k.blk i h1 (Nat.lt_of_lt_of_le h2 h.size)).trans (h.blk i h1 h2)⟩
theorem Kept.mono {B B' : Nat} {a b : World} (h : Kept B a b) (hB : B ≤ B') : Kept B' a b := ⟨h.size, fun i h1 h2 => h.blk i (Nat.le_trans hB h1) h2⟩
theorem Kept.alloc {B : Nat} {a b : World} (h : Kept B a b) (o : Obj) : Kept B a (b.alloc o) :=
  h.trans ⟨by simp, fun i _ h2 => Below.heap_alloc _ _ _ h2⟩
theorem Kept.of_below {B : Nat} {a b : World} (h : Below a.heap.size a b) : Kept B a b := ⟨h.size, fun i _ h2 => h.block i h2⟩

/-- the turn of a block from B on leaves all below B -/
theorem below_putObj {B : Nat} {W : World} {l : Nat} (o : Obj) (h : B ≤ l) : Below B W (W.putObj l o) :=
  ⟨rfl, rfl, rfl, by simp, fun k hk => World.putObj_heap_other (by omega)⟩

/-- the function's side: N rounds, in their order; a round that goes on leaves the function's own blocks; one that does not is the last -/
def SeqB (F : Fence) (n : Nat) (P : Program) (g : Nat) (lb : Array Value) (enc : Nat → Array Value) (N : Nat) (w : World) : Prop :=
  ∀ (l : Nat) (J Jx : Nat → World → Prop) (W : World), Below w.heap.size w W → (∀ k A B, J k A → Below W.heap.size A B → J k B) → (∀ k A B, Jx k A → Below W.heap.size A B → Jx k B) →
    (∀ k W1, k < N → J k W1 → YieldAt F (n - 1) P l (enc k) W1 fun e W' => (e = .returned (.bool true) ∧ J (k + 1) W' ∧ Kept W.heap.size W1 W' ∧ Below w.heap.size W1 W') ∨ (e = .returned (.bool false) ∧ Jx (k + 1) W')) →
    J 0 W →
    CallsIn F n P g (#[.func (.yield l) #[] #[]] ++ lb) W fun e W' => (∃ v, e = .returned v) ∧ (J N W' ∨ ∃ k, k < N ∧ Jx (k + 1) W')

/-- how a round may be left: it goes on, or it returns -/
def rndPost (B0 B : Nat) (I Ix : Nat → World → Prop) (k : Nat) (W : World) : Exit → Act → World → Prop
  | .normal, _, W' => Kept B W W' ∧ Below B0 W W' ∧ I (k + 1) W'
  | .ret, _, W' => Kept B W W' ∧ Ix (k + 1) W'
  | _, _, _ => False

theorem wpIn_range {g : Operand} {ps : Array Tmp} {assign body : Code} {Q : Exit → Act → World → Prop} {a : Act} {w : World}
    (hro : F.round = none) (h1 : 1 ≤ n) {gf : Nat} {lb : Array Value} (hg : a.eval g = .func (.func gf) #[] lb) (hFg : F.fn gf) (eg : ∀ args w, (callFunc gf args).run P w = .ok (.enter gf args) w)
    {enc : Nat → Array Value} {N : Nat} {w0 : World} (hseq : SeqB F (n - 1) P gf lb enc N w0) (hb0 : Below w0.heap.size w0 w) (hps : ∀ k, (enc k).size = ps.size)
    (I Ix : Nat → World → Prop) (hI : ∀ k A B, I k A → Below w.heap.size A B → I k B) (hIx : ∀ k A B, Ix k A → Below w.heap.size A B → Ix k B) (h0 : I 0 w)
    (hround : ∀ (l k : Nat) (W : World), w.heap.size < l → l < W.heap.size → k < N → I k W →
      assign.wpIn (F.inRound l) (n - 1 - 1) P (Exit.then (fun a' W' => Kept w.heap.size W W' ∧ Below w0.heap.size W W' ∧ ∀ o', body.wpIn (F.inRound l) (n - 1 - 1) P (rndPost w0.heap.size w.heap.size I Ix k (W'.putObj l o')) a' (W'.putObj l o')) (fun _ _ _ => False))
        { tmps := (ps.zip (enc k)).foldl (fun t (p, v) => t.setIfInBounds p v) a.tmps, defers := [] } W)
    (hdone : ∀ (D : Nat) (W : World), w.heap.size ≤ D → I N W → W.heap[D]? = some (.deferred (some [])) → Q .normal { a with defers := { target := .collected D, args := #[] } :: a.defers } W)
    (hstop : ∀ (D k : Nat) (W : World), w.heap.size ≤ D → k < N → Ix (k + 1) W → W.heap[D]? = some (.deferred (some [])) → Code.ret.wpIn F n P Q { a with defers := { target := .collected D, args := #[] } :: a.defers } W) :
    (Code.rangeFunc g ps assign body).wpIn F n P Q a w := by
  refine wpIn_rangeFunc ?_
  intro fn hfn
  rw [hro]
  obtain ⟨rec, hrec⟩ : ∃ rec : LoopState → Option Code → Loop, rec = fun st pe => { state := st, pending := pe, fn, tmps := a.tmps, params := ps, assign, body, defers := w.heap.size } := ⟨_, rfl⟩
  obtain ⟨W1, hW1⟩ : ∃ W1, (w.alloc (.deferred (some []))).alloc (.loop (rec .ready none)) = W1 := ⟨_, rfl⟩
  have hs1 : W1.heap.size = w.heap.size + 1 + 1 := by rw [← hW1]; simp
  have hL1 : W1.heap[w.heap.size + 1]? = some (.loop (rec .ready none)) := by
    rw [← hW1]; have := World.alloc_heap_new (w.alloc (.deferred (some []))) (.loop (rec .ready none)); rwa [World.size_alloc] at this
  have hK1 : W1.heap[w.heap.size]? = some (.deferred (some [])) := by
    rw [← hW1]; exact (Below.heap_alloc _ _ _ (by simp)).trans (World.alloc_heap_new w _)
  have hb1' : Below w.heap.size w W1 := by rw [← hW1]; exact ((Below.refl _ w).alloc (Nat.le_refl _) _).alloc (by simp) _
  have hI1 : I 0 W1 := hI 0 w W1 h0 hb1'
  have hb1 : Below w0.heap.size w0 W1 := hb0.trans (hb1'.mono hb0.size)
  refine ⟨w.heap.size + 1, [{ target := .collected w.heap.size, args := #[] }], W1, { target := .fn (.func gf) lb, args := #[.func (.yield (w.heap.size + 1)) #[] #[]] }, W1, gf,
    #[.func (.yield (w.heap.size + 1)) #[] #[]] ++ lb, W1, ?_, ?_, ?_, ?_, fun _ => h1, ?_⟩
  · rw [← hW1, hrec]; exact run_enterLoop_outer _ _ _ _ _
  · simp only [resolve, hg]
    simp [go_sem]
  · intro f' hf'; simp [Target.leads] at hf'; subst hf'; exact hFg
  · simp [invoke, go_sem, eg]
  · have lift : ∀ {A B : World}, Below W1.heap.size A B → Below w.heap.size A B := fun h => h.mono (by omega)
    refine (hseq (w.heap.size + 1)
      (fun k W => I k W ∧ W.heap[w.heap.size + 1]? = some (.loop (rec .ready none)) ∧ W.heap[w.heap.size]? = some (.deferred (some [])))
      (fun k W => Ix k W ∧ W.heap[w.heap.size + 1]? = some (.loop (rec .done (some .ret))) ∧ W.heap[w.heap.size]? = some (.deferred (some [])))
      W1 hb1
      (fun k A B hs hb => ⟨hI k A B hs.1 (lift hb), (hb.block _ (by omega)).trans hs.2.1, (hb.block _ (by omega)).trans hs.2.2⟩)
      (fun k A B hs hb => ⟨hIx k A B hs.1 (lift hb), (hb.block _ (by omega)).trans hs.2.1, (hb.block _ (by omega)).trans hs.2.2⟩)
      ?_ ⟨hI1, hL1, hK1⟩).mono ?_
    · rintro k W hkN ⟨hi, hl, hk⟩
      have hlt : w.heap.size + 1 < W.heap.size := (Array.getElem?_eq_some_iff.1 hl).1
      have hy := run_yield (P := P) (args := enc k) hl (by rw [hrec]; exact hps k)
      rw [hrec] at hy
      refine ⟨fn, _, assign, body, hy, roundIn_of_wpIn hfn (wpIn_mono (hround (w.heap.size + 1) k W (by omega) hlt hkN hi) ?_)⟩
      rintro e a' Wa hp
      cases e with
      | normal =>
        obtain ⟨hka, hba, hbody⟩ := hp
        have hla := (hka.blk _ (by omega) hlt).trans hl
        have hda := (hka.blk _ (Nat.le_refl _) (by omega)).trans hk
        have hlta : w.heap.size + 1 < Wa.heap.size := (Array.getElem?_eq_some_iff.1 hla).1
        refine ⟨_, run_beginRound hla (by rw [hrec]), ?_⟩
        have hl2 : (Wa.putObj (w.heap.size + 1) (.loop { rec .ready none with state := .busy })).heap[w.heap.size + 1]? = some (.loop { rec .ready none with state := .busy }) := World.putObj_heap_same hlta
        have hk2 : (Wa.putObj (w.heap.size + 1) (.loop { rec .ready none with state := .busy })).heap[w.heap.size]? = some (.deferred (some [])) := (World.putObj_heap_other (by omega)).trans hda
        refine wpIn_mono (hbody _) ?_
        have fin : ∀ (jump : Option Code) (W3 : World), Kept w.heap.size (Wa.putObj (w.heap.size + 1) (.loop { rec .ready none with state := .busy })) W3 →
            (Instr.endRound (w.heap.size + 1) jump).run P W3 = .ok (.bool jump.isNone) (W3.putObj (w.heap.size + 1) (.loop (rec (if jump.isNone then .ready else .done) jump))) ∧
            (W3.putObj (w.heap.size + 1) (.loop (rec (if jump.isNone then .ready else .done) jump))).heap[w.heap.size + 1]? = some (.loop (rec (if jump.isNone then .ready else .done) jump)) ∧
            (W3.putObj (w.heap.size + 1) (.loop (rec (if jump.isNone then .ready else .done) jump))).heap[w.heap.size]? = some (.deferred (some [])) := fun jump W3 hk3 => by
          have hl3 := (hk3.blk _ (by omega) (by simpa using hlta)).trans hl2
          have := run_endRound (P := P) jump hl3
          rw [hrec] at this ⊢
          exact ⟨this, World.putObj_heap_same (Array.getElem?_eq_some_iff.1 hl3).1, (World.putObj_heap_other (by omega)).trans ((hk3.blk _ (Nat.le_refl _) (by simp; omega)).trans hk2)⟩
        rintro e a3 W3 hp3
        cases e with
        | normal =>
          obtain ⟨hk3, hb3, hi3⟩ := hp3
          obtain ⟨hr, hl4, hk4⟩ := fin none W3 hk3
          have hw0 := hb0.size
          refine ⟨_, _, hr, .inl ⟨rfl, ⟨hI _ _ _ hi3 (below_putObj _ (by omega)), hl4, hk4⟩, ⟨?_, fun i hi1 hi2 => ?_⟩, (hba.trans (below_putObj _ (by omega))).trans (hb3.trans (below_putObj _ (by omega)))⟩⟩
          · have a1 := hka.size; have a2 := hk3.size
            simp at a2 ⊢; omega
          · have a1 := hka.size
            refine (World.putObj_heap_other (by omega)).trans ((hk3.blk i (by omega) (by simp; omega)).trans ((World.putObj_heap_other (by omega)).trans (hka.blk i (by omega) hi2)))
        | ret =>
          obtain ⟨hk3, hi3⟩ := hp3
          obtain ⟨hr, hl4, hk4⟩ := fin (some .ret) W3 hk3
          exact ⟨_, _, hr, .inr ⟨rfl, hIx _ _ _ hi3 (below_putObj _ (by omega)), hl4, hk4⟩⟩
        | exit id => exact hp3.elim
        | goto t => exact hp3.elim
        | panic ch => exact hp3.elim
        | outgrown => exact hp3.elim
      | ret => exact hp.elim
      | exit id => exact hp.elim
      | goto t => exact hp.elim
      | panic ch => exact hp.elim
      | outgrown => exact hp.elim
    · rintro e W2 ⟨⟨v, rfl⟩, (⟨hi, hl, hk⟩ | ⟨k, hkN, hi, hl, hk⟩)⟩
      · exact ⟨none, _, by have := run_endLoop (P := P) hl (by rw [hrec]; simp); rw [hrec] at this; exact this, hdone _ _ (Nat.le_refl _) (hI _ _ _ hi (below_putObj _ (by omega))) ((World.putObj_heap_other (by omega)).trans hk)⟩
      · exact ⟨some .ret, _, by have := run_endLoop (P := P) hl (by rw [hrec]; simp); rw [hrec] at this; exact this, hstop _ k _ (Nat.le_refl _) hkN (hIx _ _ _ hi (below_putObj _ (by omega))) ((World.putObj_heap_other (by omega)).trans hk)⟩

/-! ### rows, loaded and stored in a round -/
section
variable {l : Nat} {ops : Array Oper} {rest : List Oper} {o : Oper} {a : Act} {w : World} {Q : Exit → Act → World → Prop}
theorem in_load_of (hgd : o.guard = none) (ty : TypeId) (x : Operand) (ho : o.op = .load ty x)
    (ad : Addr) (hx : a.eval x = .pointer (some ad)) (v : Value) (hrun : (Instr.loadAt ty (.pointer (some ad))).run P w = .ok v w)
    (h : wpListIn (Fence.wide.inRound l) n P ops Q rest (a.put o.dst v) w) : wpListIn (Fence.wide.inRound l) n P ops Q (o :: rest) a w :=
  wpListIn_plain hgd fun _ hK => ⟨fun _ _ => trivial, by
    rw [show (Fence.wide.inRound l).round = some l from rfl, Oper.semAt_some l _ o (by intro c; rw [ho]; intro h; cases h)]
    unfold execOp
    simp only [ho, hx, Sem.run_bind, hrun, Sem.run_pure, Result.andThen_ok]
    exact hK _ _ h⟩
theorem in_store_of (hgd : o.guard = none) (ty : TypeId) (x y : Operand) (ho : o.op = .store ty x y)
    (ad : Addr) (hx : a.eval x = .pointer (some ad)) (v : Value) (hy : a.eval y = v) (w' : World) (hrun : (Instr.storeAt ty (.pointer (some ad)) v).run P w = .ok () w')
    (h : wpListIn (Fence.wide.inRound l) n P ops Q rest (a.put o.dst undef) w') : wpListIn (Fence.wide.inRound l) n P ops Q (o :: rest) a w :=
  wpListIn_plain hgd fun _ hK => ⟨fun _ _ => trivial, by
    rw [show (Fence.wide.inRound l).round = some l from rfl, Oper.semAt_some l _ o (by intro c; rw [ho]; intro h; cases h)]
    unfold execOp
    simp only [ho, hx, hy, Sem.run_bind, hrun, Sem.run_pure, Result.andThen_ok]
    exact hK _ _ h⟩
theorem in_load_part (hgd : o.guard = none) (ty : TypeId) (x : Operand) (ho : o.op = .load ty x) (g off : Nat) (hx : a.eval x = .pointer (some ⟨g, off, none⟩)) (c : Array Value) (T : TypeId) (hA : At w g c T) (n' : Nat) (hn : off + n' ≤ c.size) (d : TypeDesc)
    (hu : P.underlying ty = some d) (hd : (match d with | .struct _ | .array _ _ => true | _ => false) = true) (hi : (P.info? ty).map (·.size) = some n') (c' : Array Value) (hc : c.extract off (off + n') = c') (h : wpListIn (Fence.wide.inRound l) n P ops Q rest (a.put o.dst (.agg c')) w) : wpListIn (Fence.wide.inRound l) n P ops Q (o :: rest) a w :=
  in_load_of hgd ty x ho ⟨g, off, none⟩ hx _ (by subst hc; exact run_loadAt_part w g off n' ty c T (0, 0) d hA hu hd hi hn) h
theorem in_store_at (hgd : o.guard = none) (ty : TypeId) (x y : Operand) (ho : o.op = .store ty x y) (g : Nat) (hx : a.eval x = .pointer (some ⟨g, 0, none⟩)) (c : Array Value) (hy : a.eval y = .agg c) (old : Array Value) (T : TypeId) (hA : At w g old T) (n' : Nat) (hn : c.size = n') (ho' : old.size = n')
    (hi : (P.info? ty).map (·.size) = some n') (h1 : c.all (·.oneCell') = true) (h : wpListIn (Fence.wide.inRound l) n P ops Q rest (a.put o.dst undef) (w.setRow g c)) : wpListIn (Fence.wide.inRound l) n P ops Q (o :: rest) a w :=
  in_store_of hgd ty x y ho ⟨g, 0, none⟩ hx (.agg c) hy _ (by
    have := run_storeAt_part (P := P) w g 0 T ty old c hA (by rw [hn]; exact hi) (by omega) h1
    rwa [splice_all (by omega)] at this) h
theorem in_is_load (ty : TypeId) (x : Operand) (_ho : o.op = .load ty x) (h : wpListIn (Fence.wide.inRound l) n P ops Q (o :: rest) a w) : wpListIn (Fence.wide.inRound l) n P ops Q (o :: rest) a w := h
theorem in_is_store (ty : TypeId) (x y : Operand) (_ho : o.op = .store ty x y) (h : wpListIn (Fence.wide.inRound l) n P ops Q (o :: rest) a w) : wpListIn (Fence.wide.inRound l) n P ops Q (o :: rest) a w := h
end
/-! ### rows, loaded and stored outside of a round -/
section
variable {ops : Array Oper} {rest : List Oper} {o : Oper} {a : Act} {w : World} {Q : Exit → Act → World → Prop}
theorem inw_load_of (hgd : o.guard = none) (ty : TypeId) (x : Operand) (ho : o.op = .load ty x)
    (ad : Addr) (hx : a.eval x = .pointer (some ad)) (v : Value) (hrun : (Instr.loadAt ty (.pointer (some ad))).run P w = .ok v w)
    (h : wpListIn Fence.wide n P ops Q rest (a.put o.dst v) w) : wpListIn Fence.wide n P ops Q (o :: rest) a w :=
  wpListIn_plain hgd fun _ hK => ⟨fun _ _ => trivial, by
    show Oper.uponIn _ _ _ _ _ _ _ ((Oper.semAt none a.eval o).run P w)
    unfold Oper.semAt execOp
    simp only [ho, hx, Sem.run_bind, hrun, Sem.run_pure, Result.andThen_ok]
    exact hK _ _ h⟩
theorem inw_store_of (hgd : o.guard = none) (ty : TypeId) (x y : Operand) (ho : o.op = .store ty x y)
    (ad : Addr) (hx : a.eval x = .pointer (some ad)) (v : Value) (hy : a.eval y = v) (w' : World) (hrun : (Instr.storeAt ty (.pointer (some ad)) v).run P w = .ok () w')
    (h : wpListIn Fence.wide n P ops Q rest (a.put o.dst undef) w') : wpListIn Fence.wide n P ops Q (o :: rest) a w :=
  wpListIn_plain hgd fun _ hK => ⟨fun _ _ => trivial, by
    show Oper.uponIn _ _ _ _ _ _ _ ((Oper.semAt none a.eval o).run P w)
    unfold Oper.semAt execOp
    simp only [ho, hx, hy, Sem.run_bind, hrun, Sem.run_pure, Result.andThen_ok]
    exact hK _ _ h⟩
theorem inw_load_part (hgd : o.guard = none) (ty : TypeId) (x : Operand) (ho : o.op = .load ty x) (g off : Nat) (hx : a.eval x = .pointer (some ⟨g, off, none⟩)) (c : Array Value) (T : TypeId) (hA : At w g c T) (n' : Nat) (hn : off + n' ≤ c.size) (d : TypeDesc)
    (hu : P.underlying ty = some d) (hd : (match d with | .struct _ | .array _ _ => true | _ => false) = true) (hi : (P.info? ty).map (·.size) = some n') (c' : Array Value) (hc : c.extract off (off + n') = c') (h : wpListIn Fence.wide n P ops Q rest (a.put o.dst (.agg c')) w) : wpListIn Fence.wide n P ops Q (o :: rest) a w :=
  inw_load_of hgd ty x ho ⟨g, off, none⟩ hx _ (by subst hc; exact run_loadAt_part w g off n' ty c T (0, 0) d hA hu hd hi hn) h
theorem inw_store_at (hgd : o.guard = none) (ty : TypeId) (x y : Operand) (ho : o.op = .store ty x y) (g : Nat) (hx : a.eval x = .pointer (some ⟨g, 0, none⟩)) (c : Array Value) (hy : a.eval y = .agg c) (old : Array Value) (T : TypeId) (hA : At w g old T) (n' : Nat) (hn : c.size = n') (ho' : old.size = n')
    (hi : (P.info? ty).map (·.size) = some n') (h1 : c.all (·.oneCell') = true) (h : wpListIn Fence.wide n P ops Q rest (a.put o.dst undef) (w.setRow g c)) : wpListIn Fence.wide n P ops Q (o :: rest) a w :=
  inw_store_of hgd ty x y ho ⟨g, 0, none⟩ hx (.agg c) hy _ (by
    have := run_storeAt_part (P := P) w g 0 T ty old c hA (by rw [hn]; exact hi) (by omega) h1
    rwa [splice_all (by omega)] at this) h
theorem inw_is_load (ty : TypeId) (x : Operand) (_ho : o.op = .load ty x) (h : wpListIn Fence.wide n P ops Q (o :: rest) a w) : wpListIn Fence.wide n P ops Q (o :: rest) a w := h
theorem inw_is_store (ty : TypeId) (x y : Operand) (_ho : o.op = .store ty x y) (h : wpListIn Fence.wide n P ops Q (o :: rest) a w) : wpListIn Fence.wide n P ops Q (o :: rest) a w := h
end
end Go.Proofs.Ytiaflomabgnmaaa
