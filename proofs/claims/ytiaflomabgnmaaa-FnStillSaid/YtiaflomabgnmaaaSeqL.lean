/-
  A RANGE OVER A FUNCTION whose rounds write blocks that were there ahead of the function's own (all from block lo on that lay at its start are kept); the steps of a road as such a function.
-/
import Derived.Test.YtiaflomabgnmaaaIterator
import Derived.Test.YtiaflomabgnmaaaG15
namespace Go.Proofs.Ytiaflomabgnmaaa
open Go Go.RowKit Go.Shelf
attribute [local go_sem] Oper.semAt_some
set_option maxRecDepth 100000

/-- the blocks from lo to hi are as they were -/
structure Lo (lo hi : Nat) (a b : World) : Prop where
  size : a.heap.size ≤ b.heap.size
  blk : ∀ i, lo ≤ i → i < hi → b.heap[i]? = a.heap[i]?

theorem Lo.trans {lo hi : Nat} {a b c : World} (h : Lo lo hi a b) (k : Lo lo hi b c) : Lo lo hi a c := ⟨Nat.le_trans h.size k.size, fun i h1 h2 => (k.blk i h1 h2).trans (h.blk i h1 h2)⟩

theorem Lo.of {lo hi B : Nat} {a b : World} (h : Below B a b) (hB : hi ≤ B) : Lo lo hi a b := ⟨h.size, fun i _ h2 => h.block i (Nat.lt_of_lt_of_le h2 hB)⟩

theorem Lo.row {lo hi : Nat} {a b : World} (h : Lo lo hi a b) {g : Nat} (hg : g < lo) (c : Array Value) : Lo lo hi a (b.setRow g c) :=
  h.trans ⟨by have := (Below.setRow (Below.refl g b) (Nat.le_refl g) c).size; omega, fun i h1 h2 => heap_setRow_other _ _ _ _ (by omega)⟩

theorem lo_putObj {lo hi : Nat} {W : World} {l : Nat} (o : Obj) (h : hi ≤ l) : Lo lo hi W (W.putObj l o) := Lo.of (below_putObj o h) (Nat.le_refl _)

theorem At.lo {w w' : World} {g : Nat} {c : Array Value} {T : TypeId} (h : At w g c T) {lo : Nat} (hg : lo ≤ g) (hl : Lo lo w.heap.size w w') : At w' g c T := (hl.blk g hg h.lt).trans h

section
variable {F : Fence} {n : Nat} {P : Program}
/-- the function's side: N rounds, in their order; a round that goes on leaves the function's own blocks; one that does not is the last -/
def SeqL (lo : Nat) (F : Fence) (n : Nat) (P : Program) (g : Nat) (lb : Array Value) (enc : Nat → Array Value) (N : Nat) (w : World) : Prop :=
  ∀ (l : Nat) (J Jx : Nat → World → Prop) (W : World), Below w.heap.size w W → (∀ k A B, J k A → Below W.heap.size A B → J k B) → (∀ k A B, Jx k A → Below W.heap.size A B → Jx k B) →
    (∀ k W1, k < N → J k W1 → YieldAt F (n - 1) P l (enc k) W1 fun e W' => (e = .returned (.bool true) ∧ J (k + 1) W' ∧ Kept W.heap.size W1 W' ∧ Lo lo w.heap.size W1 W') ∨ (e = .returned (.bool false) ∧ Jx (k + 1) W')) →
    J 0 W →
    CallsIn F n P g (#[.func (.yield l) #[] #[]] ++ lb) W fun e W' => (∃ v, e = .returned v) ∧ (J N W' ∨ ∃ k, k < N ∧ Jx (k + 1) W')

/-- how a round may be left: it goes on, or it returns -/
def rndPostL (lo B0 B : Nat) (I Ix : Nat → World → Prop) (k : Nat) (W : World) : Exit → Act → World → Prop
  | .normal, _, W' => Kept B W W' ∧ Lo lo B0 W W' ∧ I (k + 1) W'
  | .ret, _, W' => Kept B W W' ∧ Ix (k + 1) W'
  | _, _, _ => False

theorem wpIn_rangeL {lo : Nat} {g : Operand} {ps : Array Tmp} {assign body : Code} {Q : Exit → Act → World → Prop} {a : Act} {w : World}
    (hro : F.round = none) (h1 : 1 ≤ n) {gf : Nat} {lb : Array Value} (hg : a.eval g = .func (.func gf) #[] lb) (hFg : F.fn gf) (eg : ∀ args w, (callFunc gf args).run P w = .ok (.enter gf args) w)
    {enc : Nat → Array Value} {N : Nat} {w0 : World} (hseq : SeqL lo F (n - 1) P gf lb enc N w0) (hb0 : Below w0.heap.size w0 w) (hps : ∀ k, (enc k).size = ps.size)
    (I Ix : Nat → World → Prop) (hI : ∀ k A B, I k A → Below w.heap.size A B → I k B) (hIx : ∀ k A B, Ix k A → Below w.heap.size A B → Ix k B) (h0 : I 0 w)
    (hround : ∀ (l k : Nat) (W : World), w.heap.size < l → l < W.heap.size → k < N → I k W →
      assign.wpIn (F.inRound l) (n - 1 - 1) P (Exit.then (fun a' W' => Kept w.heap.size W W' ∧ Lo lo w0.heap.size W W' ∧ ∀ o', body.wpIn (F.inRound l) (n - 1 - 1) P (rndPostL lo w0.heap.size w.heap.size I Ix k (W'.putObj l o')) a' (W'.putObj l o')) (fun _ _ _ => False))
        { tmps := (ps.zip (enc k)).foldl (fun t (p, v) => t.setIfInBounds p v) a.tmps, defers := [] } W)
    (hdone : ∀ (D : Nat) (W : World), w.heap.size ≤ D → I N W → W.heap[D]? = some (.deferred (some [])) → Q .normal { a with defers := { target := .collected D, args := #[] } :: a.defers } W)
    (hstop : ∀ (D k : Nat) (W : World), w.heap.size ≤ D → k < N → Ix (k + 1) W → W.heap[D]? = some (.deferred (some [])) → Code.ret.wpIn F n P Q { a with defers := { target := .collected D, args := #[] } :: a.defers } W) :
    (Code.rangeFunc g ps assign body).wpIn F n P Q a w := by
  refine wpIn_rangeFunc ?_
  intro fn hfn
  rw [hro]
  obtain ⟨rec, hrec⟩ : ∃ rec : LoopState → Option Code → Loop, rec = fun st pe => { state := st, pending := pe, fn, tmps := a.tmps, params := ps, assign, body, defers := w.heap.size } := ⟨_, rfl⟩
  obtain ⟨W1, hW1⟩ : ∃ W1, (w.alloc (.deferred (some []))).alloc (.loop (rec .ready none)) = W1 := ⟨_, rfl⟩
  have hs1 : W1.heap.size = w.heap.size + 1 + 1 := by rw [← hW1]; simp
  have hL1 : W1.heap[w.heap.size + 1]? = some (.loop (rec .ready none)) := by
    rw [← hW1]; have := World.alloc_heap_new (w.alloc (.deferred (some []))) (.loop (rec .ready none)); rwa [World.size_alloc] at this
  have hK1 : W1.heap[w.heap.size]? = some (.deferred (some [])) := by
    rw [← hW1]; exact (Below.heap_alloc _ _ _ (by simp)).trans (World.alloc_heap_new w _)
  have hb1' : Below w.heap.size w W1 := by rw [← hW1]; exact ((Below.refl _ w).alloc (Nat.le_refl _) _).alloc (by simp) _
  have hI1 : I 0 W1 := hI 0 w W1 h0 hb1'
  have hb1 : Below w0.heap.size w0 W1 := hb0.trans (hb1'.mono hb0.size)
  refine ⟨w.heap.size + 1, [{ target := .collected w.heap.size, args := #[] }], W1, { target := .fn (.func gf) lb, args := #[.func (.yield (w.heap.size + 1)) #[] #[]] }, W1, gf,
    #[.func (.yield (w.heap.size + 1)) #[] #[]] ++ lb, W1, ?_, ?_, ?_, ?_, fun _ => h1, ?_⟩
  · rw [← hW1, hrec]; exact run_enterLoop_outer _ _ _ _ _
  · simp only [resolve, hg]
    simp [go_sem]
  · intro f' hf'; simp [Target.leads] at hf'; subst hf'; exact hFg
  · simp [invoke, go_sem, eg]
  · have lift : ∀ {A B : World}, Below W1.heap.size A B → Below w.heap.size A B := fun h => h.mono (by omega)
    refine (hseq (w.heap.size + 1)
      (fun k W => I k W ∧ W.heap[w.heap.size + 1]? = some (.loop (rec .ready none)) ∧ W.heap[w.heap.size]? = some (.deferred (some [])))
      (fun k W => Ix k W ∧ W.heap[w.heap.size + 1]? = some (.loop (rec .done (some .ret))) ∧ W.heap[w.heap.size]? = some (.deferred (some [])))
      W1 hb1
      (fun k A B hs hb => ⟨hI k A B hs.1 (lift hb), (hb.block _ (by omega)).trans hs.2.1, (hb.block _ (by omega)).trans hs.2.2⟩)
      (fun k A B hs hb => ⟨hIx k A B hs.1 (lift hb), (hb.block _ (by omega)).trans hs.2.1, (hb.block _ (by omega)).trans hs.2.2⟩)
      ?_ ⟨hI1, hL1, hK1⟩).mono ?_
    · rintro k W hkN ⟨hi, hl, hk⟩
      have hlt : w.heap.size + 1 < W.heap.size := (Array.getElem?_eq_some_iff.1 hl).1
      have hy := run_yield (P := P) (args := enc k) hl (by rw [hrec]; exact hps k)
      rw [hrec] at hy
      refine ⟨fn, _, assign, body, hy, roundIn_of_wpIn hfn (wpIn_mono (hround (w.heap.size + 1) k W (by omega) hlt hkN hi) ?_)⟩
      rintro e a' Wa hp
      cases e with
      | normal =>
        obtain ⟨hka, hba, hbody⟩ := hp
        have hla := (hka.blk _ (by omega) hlt).trans hl
        have hda := (hka.blk _ (Nat.le_refl _) (by omega)).trans hk
        have hlta : w.heap.size + 1 < Wa.heap.size := (Array.getElem?_eq_some_iff.1 hla).1
        refine ⟨_, run_beginRound hla (by rw [hrec]), ?_⟩
        have hl2 : (Wa.putObj (w.heap.size + 1) (.loop { rec .ready none with state := .busy })).heap[w.heap.size + 1]? = some (.loop { rec .ready none with state := .busy }) := World.putObj_heap_same hlta
        have hk2 : (Wa.putObj (w.heap.size + 1) (.loop { rec .ready none with state := .busy })).heap[w.heap.size]? = some (.deferred (some [])) := (World.putObj_heap_other (by omega)).trans hda
        refine wpIn_mono (hbody _) ?_
        have fin : ∀ (jump : Option Code) (W3 : World), Kept w.heap.size (Wa.putObj (w.heap.size + 1) (.loop { rec .ready none with state := .busy })) W3 →
            (Instr.endRound (w.heap.size + 1) jump).run P W3 = .ok (.bool jump.isNone) (W3.putObj (w.heap.size + 1) (.loop (rec (if jump.isNone then .ready else .done) jump))) ∧
            (W3.putObj (w.heap.size + 1) (.loop (rec (if jump.isNone then .ready else .done) jump))).heap[w.heap.size + 1]? = some (.loop (rec (if jump.isNone then .ready else .done) jump)) ∧
            (W3.putObj (w.heap.size + 1) (.loop (rec (if jump.isNone then .ready else .done) jump))).heap[w.heap.size]? = some (.deferred (some [])) := fun jump W3 hk3 => by
          have hl3 := (hk3.blk _ (by omega) (by simpa using hlta)).trans hl2
          have := run_endRound (P := P) jump hl3
          rw [hrec] at this ⊢
          exact ⟨this, World.putObj_heap_same (Array.getElem?_eq_some_iff.1 hl3).1, (World.putObj_heap_other (by omega)).trans ((hk3.blk _ (Nat.le_refl _) (by simp; omega)).trans hk2)⟩
        rintro e a3 W3 hp3
        cases e with
        | normal =>
          obtain ⟨hk3, hb3, hi3⟩ := hp3
          obtain ⟨hr, hl4, hk4⟩ := fin none W3 hk3
          have hw0 := hb0.size
          refine ⟨_, _, hr, .inl ⟨rfl, ⟨hI _ _ _ hi3 (below_putObj _ (by omega)), hl4, hk4⟩, ⟨?_, fun i hi1 hi2 => ?_⟩, (hba.trans (lo_putObj _ (by omega))).trans (hb3.trans (lo_putObj _ (by omega)))⟩⟩
          · have a1 := hka.size; have a2 := hk3.size
            simp at a2 ⊢; omega
          · have a1 := hka.size
            refine (World.putObj_heap_other (by omega)).trans ((hk3.blk i (by omega) (by simp; omega)).trans ((World.putObj_heap_other (by omega)).trans (hka.blk i (by omega) hi2)))
        | ret =>
          obtain ⟨hk3, hi3⟩ := hp3
          obtain ⟨hr, hl4, hk4⟩ := fin (some .ret) W3 hk3
          exact ⟨_, _, hr, .inr ⟨rfl, hIx _ _ _ hi3 (below_putObj _ (by omega)), hl4, hk4⟩⟩
        | exit id => exact hp3.elim
        | goto t => exact hp3.elim
        | panic ch => exact hp3.elim
        | outgrown => exact hp3.elim
      | ret => exact hp.elim
      | exit id => exact hp.elim
      | goto t => exact hp.elim
      | panic ch => exact hp.elim
      | outgrown => exact hp.elim
    · rintro e W2 ⟨⟨v, rfl⟩, (⟨hi, hl, hk⟩ | ⟨k, hkN, hi, hl, hk⟩)⟩
      · exact ⟨none, _, by have := run_endLoop (P := P) hl (by rw [hrec]; simp); rw [hrec] at this; exact this, hdone _ _ (Nat.le_refl _) (hI _ _ _ hi (below_putObj _ (by omega))) ((World.putObj_heap_other (by omega)).trans hk)⟩
      · exact ⟨some .ret, _, by have := run_endLoop (P := P) hl (by rw [hrec]; simp); rw [hrec] at this; exact this, hstop _ k _ (Nat.le_refl _) hkN (hIx _ _ _ hi (below_putObj _ (by omega))) ((World.putObj_heap_other (by omega)).trans hk)⟩

end

set_option maxHeartbeats 1000000 in
theorem steps_seqL (lo : Nat) (cs : List Nat) (p b l : Nat) (ok : OkR cs p b l) (oo mm : Nat → Nat) (N : Nat) (hN : N ≤ 400) (ho : ∀ k, k < N → oo k < 2139095040) (hm : ∀ k, k < N → mm k < 2139095040) (g1 g2 g3 go gm : Nat) (co cm : Array Value) (To Tm : TypeId)
    (hco : ∀ k, k < N → co[k]? = some (.float .f32 (oo k))) (hcm : ∀ k, k < N → cm[k]? = some (.float .f32 (mm k))) (w : World) (Ar : At w g1 (rd cs p b l) 28) (Ao : At w g2 #[.slice (some ⟨go, 0, none⟩) N N] 69) (Am : At w g3 #[.slice (some ⟨gm, 0, none⟩) N N] 69) (Co : At w go co To) (Cm : At w gm cm Tm) (_q1 : lo ≤ g1) (q2 : lo ≤ g2) (q3 : lo ≤ g3) (q4 : lo ≤ go) (q5 : lo ≤ gm) :
    SeqL lo Fence.wide 2 Try.prog 45 #[.pointer (some ⟨g1, 0, none⟩), .pointer (some ⟨g2, 0, none⟩), .pointer (some ⟨g3, 0, none⟩)] (fun k => #[.agg (stepRow p b l cs oo mm k)]) N w := by
  intro l' J Jx W hW hJ hJx hY h0
  have HX := Lib.hid (And.intro hJ (And.intro hJx hY))
  have HO := Lib.hid (And.intro ho (And.intro hm (And.intro hco hcm)))
  clear hJ hJx hY ho hm hco hcm
  have hl := ok.len
  have sz1 := Ar.lt; have sz2 := Ao.lt; have sz3 := Am.lt; have sz4 := Co.lt; have sz5 := Cm.lt
  have hs := hW.size
  have A0 : At (W.alloc (.cells (rd (zeros 16) 0 0 0) 28)) g1 (rd cs p b l) 28 := (Ar.step hW).alloc _
  have O0 : At (W.alloc (.cells (rd (zeros 16) 0 0 0) 28)) g2 #[.slice (some ⟨go, 0, none⟩) N N] 69 := (Ao.step hW).alloc _
  have M0 : At (W.alloc (.cells (rd (zeros 16) 0 0 0) 28)) g3 #[.slice (some ⟨gm, 0, none⟩) N N] 69 := (Am.step hW).alloc _
  have P0 : At (W.alloc (.cells (rd (zeros 16) 0 0 0) 28)) go co To := (Co.step hW).alloc _
  have Q0 : At (W.alloc (.cells (rd (zeros 16) 0 0 0) 28)) gm cm Tm := (Cm.step hW).alloc _
  have N0 := At.new W (rd (zeros 16) 0 0 0) 28
  have B0 := b0 W (.cells (rd (zeros 16) 0 0 0) 28)
  have AW := Ar.step hW
  have SZ0 : (rd cs p b l).size = 19 := rd_size hl p b l
  have hA1 := A0.setRow_other (k := W.heap.size) (by omega) (rd cs p b l)
  have hO1 := O0.setRow_other (k := W.heap.size) (by omega) (rd cs p b l)
  have hM1 := M0.setRow_other (k := W.heap.size) (by omega) (rd cs p b l)
  have hP1 := P0.setRow_other (k := W.heap.size) (by omega) (rd cs p b l)
  have hQ1 := Q0.setRow_other (k := W.heap.size) (by omega) (rd cs p b l)
  have hN1 := N0.setRow (rd cs p b l)
  have hB1 := bset B0 (g := W.heap.size) (Nat.le_refl _) (rd cs p b l)
  have hJ1 := Lib.hid (HX.out.1 0 W _ h0 hB1)
  have BW := Lib.hid hW
  have HA := Lib.hid (And.intro Ao (And.intro Am (And.intro Co Cm)))
  have hBB := Lib.hid (Lo.of (lo := lo) (hW.trans (hB1.mono hs)) (Nat.le_refl _))
  clear A0 O0 M0 P0 Q0 B0 Ar Ao Am Co Cm h0 hW hA1 hM1 hP1 hQ1 hB1
  refine callsIn_wide.2 ?_
  simp only [List.append_toArray, List.cons_append, List.nil_append]
  go_enter Try.func45, Try.ntmps45
  go_wp2_with (first
    | ((with_reducible refine is_load 28 (.tmp 1) rfl ?_); refine wpList_load_at rfl 28 (.tmp 1) rfl _ rfl (rd cs p b l) _ (by first | exact AW | exact AW.alloc _) 19 SZ0 _ Try.underlying28 rfl (by kernel_rfl) ?_)
    | ((with_reducible refine is_store 28 (.tmp 5) (.tmp 8) rfl ?_); refine wpList_store_at rfl 28 (.tmp 5) (.tmp 8) rfl _ rfl (rd cs p b l) rfl (rd (zeros 16) 0 0 0) _ N0 19 SZ0 (rd_size (zeros_len 16) _ _ _) (by kernel_rfl) (fl_one _) ?_; refine Hid.out ?_))
  refine Lib.hid ?_
  clear AW SZ0 N0
  rw [show (rd (zeros 16) 0 0 0 : Array Value) = #[.float .f32 0, .float .f32 0, .float .f32 0, .float .f32 0, .float .f32 0, .float .f32 0, .float .f32 0, .float .f32 0, .float .f32 0, .float .f32 0, .float .f32 0, .float .f32 0, .float .f32 0, .float .f32 0, .float .f32 0, .float .f32 0, .float .f32 0, .float .f32 0, .float .f32 0] from rfl] at hO1 hN1 hJ1 hBB
  generalize hw1 : (W.alloc (.cells #[.float .f32 0, .float .f32 0, .float .f32 0, .float .f32 0, .float .f32 0, .float .f32 0, .float .f32 0, .float .f32 0, .float .f32 0, .float .f32 0, .float .f32 0, .float .f32 0, .float .f32 0, .float .f32 0, .float .f32 0, .float .f32 0, .float .f32 0, .float .f32 0, .float .f32 0] 28)).setRow W.heap.size (rd cs p b l) = W1 at hO1 hN1 hJ1 hBB ⊢
  clear hw1
  have c2 := hO1.cell (k := 0) (v := .slice (some ⟨go, 0, none⟩) N N) rfl
  go_wp2
  clear c2
  have J1' := hJ1
  have BB' := hBB
  go_loopw [11] (fun i wr => ∃ k : Nat, k ≤ N ∧ i = .int .i64 k ∧ Hid (J k wr) ∧ At wr W.heap.size (rd (itL p b cs oo mm k) p b l) 28 ∧ Hid (Lo lo w.heap.size w wr)) (fun i _ => N - (intOf i).toNat)
  case atStart => exact ⟨0, by omega, rfl, J1', hN1, BB'⟩
  case round =>
    obtain ⟨k, hk, rfl, J4, N4, B4⟩ := hrel
    clear hO1 hN1 hJ1 hBB J1' BB'
    have O4 := HA.out.1.lo q2 B4.out
    have M4 := HA.out.2.1.lo q3 B4.out
    have P4 := HA.out.2.2.1.lo q4 B4.out
    have Q4 := HA.out.2.2.2.lo q5 B4.out
    by_cases hlt : k < N
    · have hki : (k : Int) < (N : Int) := by omega
      have hk0 : (0 : Int) ≤ (k : Int) := by omega
      have s2 : IntKind.i64.wrap ((k : Int) + 1) = (k : Int) + 1 := IntWalk.i64_in _ (by omega)
      have okk := itL_ok ok oo mm k
      have SK : (rd (itL p b cs oo mm k) p b l).size = 19 := rd_size okk.len p b l
      have SK1 : (rd (itL p b cs oo mm (k + 1)) p b l).size = 19 := rd_size (itL_ok ok oo mm (k + 1)).len p b l
      have SZ5 := stepRow_size ok oo mm k
      have ON5 := Lib.hid (stepRow_one p b l cs oo mm k)
      have xC := stepRow_after ok oo mm k
      have dco := HO.out.2.2.1 k hlt
      have dcm := HO.out.2.2.2 k hlt
      have d0o : (#[.slice (some ⟨go, 0, none⟩) N N] : Array Value)[0]? = some (.slice (some ⟨go, 0, none⟩) N N) := rfl
      have d0m : (#[.slice (some ⟨gm, 0, none⟩) N N] : Array Value)[0]? = some (.slice (some ⟨gm, 0, none⟩) N N) := rfl
      have KS : ∀ W, Calls Try.prog 46 #[.agg (rd (itL p b cs oo mm k) p b l), .float .f32 (oo k), .float .f32 (mm k)] W fun e w' => e = .returned (.agg (stepRow p b l cs oo mm k)) ∧ Below W.heap.size W w' := fun W => stepOf_any _ p b l okk (oo k) (mm k) (HO.out.1 k hlt) (HO.out.2.1 k hlt) W
      clear okk
      go_wp2
      refine wp_region_alloc (n := 11) (ia := 10) (d := 7) (T := 67) (ZR := #[.float .f32 0, .float .f32 0, .float .f32 0, .float .f32 0, .float .f32 0, .float .f32 0, .float .f32 0, .float .f32 0, .float .f32 0, .float .f32 0, .float .f32 0, .float .f32 0, .float .f32 0, .float .f32 0, .float .f32 0, .float .f32 0, .float .f32 0, .float .f32 0, .float .f32 0, .float .f32 0, .float .f32 0, .float .f32 0, .float .f32 0, .float .f32 0, .float .f32 0, .float .f32 0, .float .f32 0, .float .f32 0, .float .f32 0, .float .f32 0, .float .f32 0, .float .f32 0, .float .f32 0, .float .f32 0, .float .f32 0, .float .f32 0, .float .f32 0, .float .f32 0, .float .f32 0, .float .f32 0, .float .f32 0, .float .f32 0, .float .f32 0, .float .f32 0, .float .f32 0, .float .f32 0, .float .f32 0, .float .f32 0, .float .f32 0, .float .f32 0, .float .f32 0, .float .f32 0, .float .f32 0, .float .f32 0, .float .f32 0]) (by kernel_rfl) (by kernel_rfl) (by kernel_rfl) ⟨rfl, rfl, by decide, by kernel_rfl, by kernel_rfl, by kernel_rfl⟩ (fun ev w' => by kernel_rfl) ?_
      intro W9 hW9
      have N9 := N4.step hW9
      have O9 := O4.step hW9
      have M9 := M4.step hW9
      have P9 := P4.step hW9
      have Q9 := Q4.step hW9
      have hC := Cb.const W9
      simp (config := { decide := true }) only [cutOut, nop, List.mapIdx_cons, List.mapIdx_nil, if_true, if_false, List.take, List.drop]
      repeat (first
        | go_big_quiet_skip
        | (go_big_quiet_want; first
          | (refine q_row 28 _ rfl rfl N9 19 SK _ Try.underlying28 rfl (by kernel_rfl) ?_; go_simp; go_big_quiet_on)
          | (refine q_slice 69 _ rfl _ Try.underlying69 _ rfl O9 _ d0o ?_; go_simp; go_big_quiet_on)
          | (refine q_slice 69 _ rfl _ Try.underlying69 _ rfl M9 _ d0m ?_; go_simp; go_big_quiet_on)
          | (refine q_cell 24 _ rfl _ Try.underlying24 _ rfl P9 _ dco ?_; go_simp; go_big_quiet_on)
          | (refine q_cell 24 _ rfl _ Try.underlying24 _ rfl Q9 _ dcm ?_; go_simp; go_big_quiet_on)
          | (go_big_quiet_op; go_big_quiet_on)
          | (go_big_quiet_op; apply Exists.intro; refine ⟨fun w' hw' => ?_, ?_⟩; (go_at_call 46; exact (KS _).mono fun _ _ h => ⟨h.1, hw'.step h.2⟩); go_big_quiet_on)))
      refine wpQuiet_nil ?_
      intro gf w5 hw5 hgf F5
      clear N9 O9 M9 P9 Q9 hC hW9 KS dco dcm d0o d0m
      simp only [Act.put, List.setIfInBounds_toArray, List.set_cons_succ, List.set_cons_zero]
      have gfn : W.heap.size ≠ gf := by have := N4.lt; omega
      have N6 := (N4.step hw5).setRow_other (k := gf) gfn (stepRow p b l cs oo mm k)
      have F6 := F5.setRow (stepRow p b l cs oo mm k)
      have hwW : W.heap.size ≤ wr.heap.size := Nat.le_of_lt N4.lt
      have hwf : W.heap.size ≤ gf := Nat.le_trans hwW hgf
      have E6 := bset (hw5.mono hwW) (g := gf) hwf (stepRow p b l cs oo mm k)
      have J6 := Lib.hid (HX.out.1 k _ _ J4.out E6)
      have B6 := Lib.hid (B4.out.trans (Lo.of (E6.mono hs) (Nat.le_refl _)))
      clear hw5 E6 O4 M4 P4 Q4 N4 J4 B4
      go_wp2_with (((with_reducible refine is_store 67 _ _ rfl ?_); refine wpList_store_at rfl 67 _ _ rfl _ rfl (stepRow p b l cs oo mm k) rfl (#[.float .f32 0, .float .f32 0, .float .f32 0, .float .f32 0, .float .f32 0, .float .f32 0, .float .f32 0, .float .f32 0, .float .f32 0, .float .f32 0, .float .f32 0, .float .f32 0, .float .f32 0, .float .f32 0, .float .f32 0, .float .f32 0, .float .f32 0, .float .f32 0, .float .f32 0, .float .f32 0, .float .f32 0, .float .f32 0, .float .f32 0, .float .f32 0, .float .f32 0, .float .f32 0, .float .f32 0, .float .f32 0, .float .f32 0, .float .f32 0, .float .f32 0, .float .f32 0, .float .f32 0, .float .f32 0, .float .f32 0, .float .f32 0, .float .f32 0, .float .f32 0, .float .f32 0, .float .f32 0, .float .f32 0, .float .f32 0, .float .f32 0, .float .f32 0, .float .f32 0, .float .f32 0, .float .f32 0, .float .f32 0, .float .f32 0, .float .f32 0, .float .f32 0, .float .f32 0, .float .f32 0, .float .f32 0, .float .f32 0]) _ F5 55 SZ5 rfl (by kernel_rfl) ON5.out ?_; refine Hid.out ?_))
      refine Lib.hid ?_
      clear F5
      generalize w5.setRow gf (stepRow p b l cs oo mm k) = w8 at N6 F6 J6 B6 ⊢
      try simp only [Act.put]
      refine wpList_nil ?_
      rename_i K5 a5
      refine a5 _ _ ?_
      clear a5
      obtain ⟨yf, yt, ya, yb, hy, hR⟩ := HX.out.2.2 k w8 hlt J6.out
      have HR := Lib.hid hR
      clear hR
      have xS : (stepRow p b l cs oo mm k).extract 0 (0 + 55) = stepRow p b l cs oo mm k := by rw [Nat.zero_add, ← SZ5, Array.extract_size]
      have hi := (show (Try.prog.info? 28).map (·.size) = some 19 by kernel_rfl)
      have his := (show (Try.prog.info? 67).map (·.size) = some 55 by kernel_rfl)
      refine (wpIn_wide (n := 2)).1 ?_
      gi_wp2_with (first
        | ((with_reducible refine inw_is_load 67 (.tmp 7) rfl ?_); refine inw_load_part rfl 67 (.tmp 7) rfl _ 0 rfl (stepRow p b l cs oo mm k) _ F6 55 (by omega) _ Try.underlying67 rfl his _ xS ?_))
      refine HR.out.mono ?_
      clear HR hy xS
      have nl8 := N6.lt
      have fl8 := F6.lt
      rintro e W' (⟨rfl, hJ', hkp, hbw⟩ | ⟨rfl, hJx'⟩)
      · have N9 : At W' W.heap.size (rd (itL p b cs oo mm k) p b l) 28 := (hkp.blk _ (Nat.le_refl _) nl8).trans N6
        have F9 : At W' gf (stepRow p b l cs oo mm k) 67 := (hkp.blk _ (by omega) fl8).trans F6
        have NA := N9.setRow (rd (itL p b cs oo mm (k + 1)) p b l)
        have EA := bset (Below.refl W.heap.size W') (g := W.heap.size) (Nat.le_refl _) (rd (itL p b cs oo mm (k + 1)) p b l)
        have JA := Lib.hid (HX.out.1 (k + 1) _ _ hJ' EA)
        have BA := Lib.hid ((B6.out.trans hbw).trans (Lo.of (EA.mono hs) (Nat.le_refl _)))
        clear N6 F6 J6 B6 hkp hbw EA hJ' ON5
        gi_wp2_with (first
          | ((with_reducible refine inw_is_load 28 (.tmp 28) rfl ?_); refine inw_load_part rfl 28 (.tmp 28) rfl _ 36 rfl (stepRow p b l cs oo mm k) _ F9 19 (by omega) _ Try.underlying28 rfl hi _ xC ?_)
          | ((with_reducible refine inw_is_store 28 (.tmp 5) (.tmp 29) rfl ?_); refine inw_store_at rfl 28 (.tmp 5) (.tmp 29) rfl _ rfl (rd (itL p b cs oo mm (k + 1)) p b l) rfl (rd (itL p b cs oo mm k) p b l) _ N9 19 SK1 SK hi (fl_one _) ?_))
        simp only [Act.put, List.setIfInBounds_toArray, List.set_cons_succ, List.set_cons_zero]
        clear F9 N9 xC hi his
        go_wp2
        exact ⟨⟨k + 1, by omega, by go_num, JA, NA, BA⟩, by simp [intOf]; omega⟩
      · clear N6 F6 J6 B6 xC hi his
        have HJ := Lib.hid hJx'
        clear hJx'
        gi_wp2
        exact bodyPost_ret (results_none rfl _ _ _) rfl ⟨⟨_, rfl⟩, .inr ⟨k, hlt, HJ.out⟩⟩
    · obtain rfl : k = N := by omega
      clear O4 M4 P4 Q4 N4 B4
      go_wp2
      go_end0
      exact ⟨⟨_, rfl⟩, .inl J4.out⟩

/-- what the function that is made has at hand -/
def ReadyL (lo : Nat) (w : World) (lb : Array Value) (cs : List Nat) (p b l o m n : Nat) : Prop :=
  ∃ g1 g2 g3 go gm : Nat, lb = #[.pointer (some ⟨g1, 0, none⟩), .pointer (some ⟨g2, 0, none⟩), .pointer (some ⟨g3, 0, none⟩)] ∧ (lo ≤ g1 ∧ lo ≤ g2 ∧ lo ≤ g3 ∧ lo ≤ go ∧ lo ≤ gm) ∧ At w g1 (rd cs p b l) 28 ∧ At w g2 #[.slice (some ⟨go, 0, none⟩) n n] 69 ∧ At w g3 #[.slice (some ⟨gm, 0, none⟩) n n] 69 ∧ At w go (fl (List.replicate 400 o)) 81 ∧ At w gm (fl (List.replicate 400 m)) 81

theorem steadySteps_lo (cs : List Nat) (p b l : Nat) (hl : cs.length = 16) (o m n : Nat) (hn : n ≤ 400) (w : World) :
    Calls Try.prog 24 #[.agg (rd cs p b l), .float .f32 o, .float .f32 m, .int .i64 n] w fun e w' => (∃ lb, e = .returned (.func (.func 45) #[] lb) ∧ ReadyL w.heap.size w' lb cs p b l o m n) ∧ Below w.heap.size w w' := by
  have A0 := At.new w (rd cs p b l) 28
  have B0 := Lib.hid (b0 w (.cells (rd cs p b l) 28))
  have SZ := rd_size hl p b l
  go_enter Try.func24, Try.ntmps24
  go_wp2
  generalize w.alloc (.cells (rd cs p b l) 28) = w0 at A0 B0 ⊢
  have L0 : ∀ w', At w' w.heap.size (rd cs p b l) 28 → (Instr.loadAt 28 (.pointer (some ⟨w.heap.size, 0, none⟩))).run Try.prog w' = .ok (.agg (rd cs p b l)) w' := fun w' h => run_load_road hl h
  refine wp_region_held (S := fun w' => At w' w.heap.size (rd cs p b l) 28) (by kernel_rfl) ?_
  show wpAnyH _ _ _ _ _ 9 (Array.replicate 9 false) _ _
  have A0' : At { w0 with drawn := w0.drawn + 1 } w.heap.size (rd cs p b l) 28 := A0
  generalize hw1 : ({ w0 with drawn := w0.drawn + 1 } : World) = w1 at A0' ⊢
  have B1 : Hid (Below w.heap.size w w1) := Lib.hid (by rw [← hw1]; exact ⟨B0.out.1, B0.out.2, B0.out.3, B0.out.4, B0.out.5⟩)
  clear hw1 A0 B0
  have A0 := A0'
  clear A0'
  refine wpAnyH_take (i := 0) (v := .agg (rd cs p b l)) rfl (by kernel_rfl) (by kernel_rfl) (by kernel_rfl) (fun _ _ _ h => h) (yif rfl fun w' hw' => x_load 28 (.tmp 4) rfl _ rfl (L0 w' hw')) A0 ?_
  refine wpAnyH_take (i := 1) (v := .float .f32 o) rfl (by kernel_rfl) (by kernel_rfl) (by kernel_rfl) (fun _ _ _ h => h) (yif rfl fun w' hw' => x_move (.tmp 1) rfl) A0 ?_
  refine wpAnyH_take (i := 2) (v := .int .i64 n) rfl (by kernel_rfl) (by kernel_rfl) (by kernel_rfl) (fun _ _ _ h => h) (yif rfl fun w' hw' => x_move (.tmp 3) rfl) A0 ?_
  refine wpAnyH_take (i := 4) (v := .float .f32 m) rfl (by kernel_rfl) (by kernel_rfl) (by kernel_rfl) (fun _ _ _ h => h) (yif rfl fun w' hw' => x_move (.tmp 2) rfl) A0 ?_
  refine wpAnyH_take (i := 5) (v := .int .i64 n) rfl (by kernel_rfl) (by kernel_rfl) (by kernel_rfl) (fun _ _ _ h => h) (yif rfl fun w' hw' => x_move (.tmp 3) rfl) A0 ?_
  refine wpAnyH_all (rs := [3]) (by kernel_rfl) (by simp) fun i hi => ?_
  obtain rfl := one_of hi
  refine op_call (f := 41) (args := #[.float .f32 o, .int .i64 n]) rfl rfl (by kernel_rfl) ((repeated_any o n hn w1).mono ?_)
  rintro e w2 ⟨rfl, hs2, G2, hb2⟩
  refine ⟨_, rfl, A0.step hb2, ?_⟩
  refine wpAnyH_all (rs := [6]) (by kernel_rfl) (by simp) fun i hi => ?_
  obtain rfl := one_of hi
  refine op_call (f := 41) (args := #[.float .f32 m, .int .i64 n]) rfl rfl (by kernel_rfl) ((repeated_any m n hn w2).mono ?_)
  rintro e w3 ⟨rfl, hs3, G3, hb3⟩
  refine ⟨_, rfl, (A0.step hb2).step hb3, ?_⟩
  refine wpAnyH_all (rs := [7]) (by kernel_rfl) (by simp) fun i hi => ?_
  obtain rfl := one_of hi
  refine op_call (f := 40) (args := #[.agg (rd cs p b l), .slice (some ⟨w1.heap.size, 0, none⟩) n n, .slice (some ⟨w2.heap.size, 0, none⟩) n n]) rfl rfl (by kernel_rfl) ((stepsOf_any (rd cs p b l) SZ _ _ _ _ _ _ w3).mono ?_)
  rintro e w4 ⟨rfl, rfl⟩
  have hb4 : Below w3.heap.size w3 (((w3.alloc (.cells (rd cs p b l) 28)).alloc (.cells #[.slice (some ⟨w1.heap.size, 0, none⟩) n n] 69)).alloc (.cells #[.slice (some ⟨w2.heap.size, 0, none⟩) n n] 69)) := bnew (bnew (b0 w3 _) _) _
  refine ⟨_, rfl, ((A0.step hb2).step hb3).step hb4, ?_⟩
  refine wpAnyH_all (rs := [8]) (by kernel_rfl) (by simp) fun i hi => ?_
  obtain rfl := one_of hi
  refine op_value rfl rfl (x_assign (.tmp 16) rfl) ⟨((A0.step hb2).step hb3).step hb4, ?_⟩
  refine wpAnyH_done (by kernel_rfl) ?_ _
  have z1 := B1.out.size
  have z2 := hb2.size
  have z3 := hb3.size
  have RDY : ReadyL w.heap.size (((w3.alloc (.cells (rd cs p b l) 28)).alloc (.cells #[.slice (some ⟨w1.heap.size, 0, none⟩) n n] 69)).alloc (.cells #[.slice (some ⟨w2.heap.size, 0, none⟩) n n] 69)) #[.pointer (some ⟨w3.heap.size, 0, none⟩), .pointer (some ⟨(w3.heap.size + 1), 0, none⟩), .pointer (some ⟨(w3.heap.size + 1 + 1), 0, none⟩)] cs p b l o m n :=
    ⟨_, _, _, w1.heap.size, w2.heap.size, rfl, ⟨by omega, by omega, by omega, by omega, by omega⟩, ((At.new w3 _ _).alloc _).alloc _, (At.last1 w3 _ _ _).alloc _, At.last2 w3 _ _ _ _, (G2.step hb3).step hb4, G3.step hb4⟩
  have BB := Lib.hid (bthen (bthen (bthen B1.out hb2) hb3) hb4)
  have RR := Lib.hid RDY
  clear z1 z2 z3 RDY hb2 hb3 hb4 G2 G3 A0 B1
  clear hs2 hs3
  generalize hA : Act.put _ _ _ = A
  have eA : A = { tmps := #[.agg (rd cs p b l), .float .f32 o, .float .f32 m, .int .i64 n, .pointer (some ⟨w.heap.size, 0, none⟩), undef, undef, undef, .func (.func 45) #[] #[.pointer (some ⟨w3.heap.size, 0, none⟩), .pointer (some ⟨(w3.heap.size + 1), 0, none⟩), .pointer (some ⟨(w3.heap.size + 1 + 1), 0, none⟩)], .agg (rd cs p b l), .float .f32 o, .int .i64 n, .slice (some ⟨w1.heap.size, 0, none⟩) n n, .float .f32 m, .int .i64 n, .slice (some ⟨w2.heap.size, 0, none⟩) n n, .func (.func 45) #[] #[.pointer (some ⟨w3.heap.size, 0, none⟩), .pointer (some ⟨(w3.heap.size + 1), 0, none⟩), .pointer (some ⟨(w3.heap.size + 1 + 1), 0, none⟩)]], defers := [] } := by rw [← hA]; kernel_rfl
  clear hA
  subst eA
  generalize ((w3.alloc (.cells (rd cs p b l) 28)).alloc (.cells #[.slice (some ⟨w1.heap.size, 0, none⟩) n n] 69)).alloc (.cells #[.slice (some ⟨w2.heap.size, 0, none⟩) n n] 69) = w4 at BB RR ⊢
  go_wp2
  go_ret
  exact ⟨⟨_, rfl, RR.out⟩, BB.out⟩
end Go.Proofs.Ytiaflomabgnmaaa
