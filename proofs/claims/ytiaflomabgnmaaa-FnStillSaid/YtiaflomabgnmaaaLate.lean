/-
  A STATEMENT WHOSE ORDER IS OPEN, WITH ONE STORE OF AN ANSWER INTO A KNOWN BLOCK, that may come ahead of some of its reads: one walk of all else, over whatever class of worlds.
  No Go text in it. Conditions: those of each theorem.
-/
import Derived.Test.YtiaflomabgnmaaaNew
namespace Go.Proofs.Ytiaflomabgnmaaa
open Go Go.RowKit

/-- nothing has turned of what was there, but for one block -/
structure Ce (gR : Nat) (W w' : World) : Prop where
  sub : ∃ B, B ≤ W.heap.size ∧ Below B W w' ∧ ∀ i, B ≤ i → i < W.heap.size → i ≠ gR → w'.heap[i]? = W.heap[i]?
  size : W.heap.size ≤ w'.heap.size
theorem Ce.at {gR : Nat} {W w' : World} (h : Ce gR W w') {g : Nat} {c : Array Value} {T : TypeId} (hA : At W g c T) (hne : g ≠ gR) : At w' g c T := by
  obtain ⟨B, -, hb, hk⟩ := h.sub
  rcases Nat.lt_or_ge g B with c | c
  · exact (hb.block _ c).trans hA
  · exact (hk g c hA.lt hne).trans hA
theorem Ce.below {gR B : Nat} {W w' : World} (h : Ce gR W w') (hB : B ≤ gR) (hg : gR < W.heap.size) : Below B W w' := by
  obtain ⟨B', hB', hb, hk⟩ := h.sub
  exact ⟨hb.1, hb.2, hb.3, hb.4, fun i hi => by
    rcases Nat.lt_or_ge i B' with c | c
    · exact hb.block i c
    · exact hk i c (by omega) (by omega)⟩
theorem Ce.refl (gR : Nat) (W : World) : Ce gR W W := ⟨⟨W.heap.size, Nat.le_refl _, Below.refl _ _, fun _ _ _ _ => rfl⟩, Nat.le_refl _⟩
theorem Ce.drew (gR : Nat) (W : World) : Ce gR W { W with drawn := W.drawn + 1 } := ⟨⟨W.heap.size, Nat.le_refl _, ⟨rfl, rfl, rfl, Nat.le_refl _, fun _ _ => rfl⟩, fun _ _ _ _ => rfl⟩, Nat.le_refl _⟩
theorem Ce.step {gR : Nat} {W w1 w2 : World} (h : Ce gR W w1) (k : Below w1.heap.size w1 w2) : Ce gR W w2 := by
  obtain ⟨B, hB, hb, hk⟩ := h.sub
  have hs := h.size
  refine ⟨⟨B, hB, hb.trans (k.mono (by omega)), fun i h1 h2 h3 => (k.block i (by omega)).trans (hk i h1 h2 h3)⟩, Nat.le_trans hs k.size⟩
theorem Ce.set {gR : Nat} {W w1 : World} (h : Ce gR W w1) (c : Array Value) : Ce gR W (w1.setRow gR c) := by
  obtain ⟨B, hB, hb, hk⟩ := h.sub
  have hs := h.size
  refine ⟨⟨min B gR, by omega, Below.setRow (hb.mono (Nat.min_le_left _ _)) (Nat.min_le_right _ _) c, fun i h1 h2 h3 => ?_⟩, ?_⟩
  · rw [heap_setRow_other _ _ _ _ h3]
    rcases Nat.lt_or_ge i B with c' | c'
    · exact hb.block i c'
    · exact hk i c' h2 h3
  · have := (Below.setRow (Below.refl gR w1) (Nat.le_refl gR) c).size
    omega

section
variable {P : Program} {l : List Oper} {ist n : Nat} {ost : Oper} {d s : Tmp} {W : World} {T : TypeId} {OV RV : Array Value} {gR : Nat} {Q : Exit → Act → World → Prop} {Lq : Act → Prop}
/-- a class of worlds that a walk may be made in -/
structure Good (gR : Nat) (W : World) (C : World → Prop) : Prop where
  sub : ∀ w', C w' → Ce gR W w'
  step : ∀ w' w'', C w' → Below w'.heap.size w' w'' → C w''
  some : ∃ w', C w'
/-- the shape: operation ist stores slot s at slot d, operation n waits for it -/
structure Late (l : List Oper) (ist n : Nat) (ost : Oper) (d s : Tmp) : Prop where
  gs : l[ist]? = some ost
  ds : ost.dst = none
  is_lt : ist < n
  guards : l.all (fun o => o.guard.isNone) = true
  away : (List.range n).all (fun j => match l[j]? with | some o => o.dst != some d | none => true) = true
  w3 : Region.waitsFor .any l.toArray n ist = true
  src : (List.range n).all (fun j => Region.waitsFor .any l.toArray ist j || (match l[j]? with | some o => o.dst != some s | none => true)) = true

theorem late_walk (F : Late l ist n ost d s) (hsel : Region.noSelect l.toArray = true) (hnl : n < l.length) (hgR : ∃ c, At W gR c T)
    (hstore : ∀ (ev : Operand → Value) (w : World), ev (.tmp d) = .pointer (some ⟨gR, 0, none⟩) → ev (.tmp s) = .agg RV → At w gR OV T → (execOp ev ost).run P w = .ok .skip (w.setRow gR RV))
    (hO : At W gR OV T)
    (hL : ∀ q, Lq q → q.eval (.tmp s) = .agg RV ∧ ∀ (w' : World), Ce gR W w' → At w' gR RV T → wpList P l.toArray Q (l.drop n) q w') (k : Nat) :
    ∀ (done : Array Bool) (q : Act) (w : World), Ce gR W w →
      (∀ C, Good gR W C → hdQ P .any (cutOut l ist ist).toArray C n (fun done' q' => Region.seqB .any (cutOut l ist ist).toArray (l.length - n) n done' = true ∧ Lq q') k done q) →
      q.eval (.tmp d) = .pointer (some ⟨gR, 0, none⟩) → (done.getD ist false = false → At w gR OV T) → (done.getD ist false = true → At w gR RV T) → wpAny P .any l.toArray Q (k + (l.length - n)) done q w := by
  have G0 : Good gR W (Ce gR W) := ⟨fun _ h => h, fun _ _ h k => h.step k, ⟨W, Ce.refl _ _⟩⟩
  have GO : ∀ X w, Ce gR W w → At w gR X T → Good gR W (fun w' => Ce gR W w' ∧ At w' gR X T) := fun X w hw hA => ⟨fun _ h => h.1, fun _ _ h k => ⟨h.1.step k, h.2.step k⟩, ⟨w, hw, hA⟩⟩
  induction k with
  | zero =>
    intro done q w hw H hd hA1 hA2
    obtain ⟨hB, hq⟩ := H _ G0
    rw [cutOut_seq] at hB
    obtain ⟨g', hg'⟩ : ∃ g', l.length - n = g' + 1 := ⟨l.length - n - 1, by omega⟩
    have hB' := hB
    rw [hg'] at hB'
    simp only [Region.seqB, Bool.and_eq_true, decide_eq_true_eq] at hB'
    have hrn : n ∈ Region.ready .any l.toArray done := by rw [hB'.1]; simp
    have h2 := ready_waits hrn F.w3
    have key := (hL q hq).2 w hw (hA2 h2)
    have t := wpAny_of_seq (md := .any) (Q' := Q) (l.drop n) n done _ w (fun j => by simp [List.getElem?_drop]) (by rw [List.length_drop]; exact hB) key
    rwa [List.length_drop, ← Nat.zero_add (l.length - n)] at t
  | succ k ih =>
    intro done q w hw H hd hA1 hA2
    rw [show k + 1 + (l.length - n) = (k + (l.length - n)) + 1 from by omega]
    have H0 := H _ G0
    have hne := H0.1
    rw [cutOut_ready] at hne
    refine ⟨fun h0 => absurd h0 hne, fun i hi => ?_⟩
    have hi' : i ∈ Region.ready .any (cutOut l ist ist).toArray done := by rw [cutOut_ready]; exact hi
    have hin := (H0.2 i hi').1
    obtain ⟨hun, o, ho, hall⟩ := mem_ready.1 hi
    have hlo : l[i]? = some o := by simpa using ho
    have hunf := getD_both hun
    have hgd : o.guard = none := by
      have := List.all_eq_true.1 F.guards o (List.mem_of_getElem? hlo)
      simpa using this
    by_cases cs : i = ist
    · subst cs
      rw [F.gs] at hlo
      obtain rfl := Option.some.inj hlo
      have hAt := hA1 hunf
      have hsv : q.eval (.tmp s) = .agg RV := by
        obtain ⟨done', q', ⟨-, hq'⟩, e⟩ := hdQ_slot (s := s) (k + 1) done q (fun j oj hj hjun hjn => by
          rw [List.getElem?_toArray, cutOut_get] at hj
          cases hlj : l[j]? with
          | none => rw [hlj] at hj; cases hj
          | some oj' =>
            rw [hlj] at hj
            obtain rfl := Option.some.inj hj
            split
            · exact fun h => by cases h
            · have := List.all_eq_true.1 F.src j (List.mem_range.2 hjn)
              rw [hlj, Bool.or_eq_true] at this
              rcases this with h | h
              · have := ready_waits hi h
                rw [getD_both hjun] at this; cases this
              · simpa using h) (H _ G0)
        rw [← (hL q' hq').1]
        show q.tmps.getD s undef = q'.tmps.getD s undef
        rw [Array.getD_eq_getD_getElem?, Array.getD_eq_getD_getElem?, e]
      have hrun := hstore q.eval w hd hsv hAt
      unfold wpOp
      simp only [ho, wanted_none hgd, if_true]
      refine .inl ?_
      unfold Oper.wp
      rw [hrun, Oper.upon_skip, F.ds]
      refine ih _ q _ (hw.set RV) (fun C hC => ?_) hd (fun h => ?_) (fun _ => hAt.setRow RV)
      · obtain ⟨v, -, hK⟩ := yieldsIn_of_qOp (o := nop ost) (by rw [List.getElem?_toArray, cutOut_get, F.gs]; simp) ((H C hC).2 i hi').2
        exact hK
      · rw [set_self hun] at h; cases h
    · have ho' : (cutOut l ist ist).toArray[i]? = some o := by
        rw [List.getElem?_toArray, cutOut_get, hlo, Option.map_some, if_neg (by omega)]
      have haw := List.all_eq_true.1 F.away i (List.mem_range.2 hin)
      rw [hlo] at haw
      have haw2 : o.dst ≠ some d := by simpa using haw
      obtain ⟨v, hy0, -⟩ := yieldsIn_of_qOp ho' ((H _ G0).2 i hi').2
      have hall2 : ∀ C, Good gR W C → YieldsIn P (cutOut l ist ist).toArray C o v q ∧ hdQ P .any (cutOut l ist ist).toArray C n (fun done' q' => Region.seqB .any (cutOut l ist ist).toArray (l.length - n) n done' = true ∧ Lq q') k (done.setIfInBounds i true) (q.put o.dst v) := fun C hC => by
        obtain ⟨v', hy', hK'⟩ := yieldsIn_of_qOp ho' ((H C hC).2 i hi').2
        obtain ⟨w', hw'⟩ := hC.some
        obtain rfl := yields_one w' (hC.sub w' hw') hw' hy0 hy'
        exact ⟨hy', hK'⟩
      have fin : ∀ X, At w gR X T → (∀ w', At w' gR X T → (done.getD ist false = false → At w' gR OV T) ∧ (done.getD ist false = true → At w' gR RV T)) → wpOp P l.toArray Q i (wpAny P .any l.toArray Q (k + (l.length - n)) (done.setIfInBounds i true)) q w := fun X hX hback => by
        have hGX := GO X w hw hX
        have hyw := (hall2 _ hGX).1
        have hyb : YieldsIn P l.toArray (fun w' => Ce gR W w' ∧ At w' gR X T) o v q := by
          rcases hyw with ⟨-, hyw⟩ | ⟨hyw, -⟩
          · exact .inl ⟨wanted_none hgd _, hyw⟩
          · rw [wanted_none hgd] at hyw; cases hyw
        refine wpOp_of_qOp (C := fun w' => Ce gR W w' ∧ At w' gR X T) ⟨hw, hX⟩ (fun a' w' hw' ha => ?_) (YieldsIn.qOp (K := fun a' => a' = q.put o.dst v) ho hyb rfl)
        subst ha
        obtain ⟨h1, h2⟩ := hback w' hw'.2
        refine ih _ (q.put o.dst v) w' hw'.1 (fun C hC => (hall2 C hC).2) ?_ ?_ ?_
        · rw [Act.eval_put (fun d' hd' h => by cases h; exact haw2 hd')]; exact hd
        · rw [getD_set_ne _ cs]; exact h1
        · rw [getD_set_ne _ cs]; exact h2
      cases c : done.getD ist false
      · exact fin OV (hA1 c) (fun w' h => ⟨fun _ => h, fun h' => by rw [c] at h'; cases h'⟩)
      · exact fin RV (hA2 c) (fun w' h => ⟨fun h' => (by rw [c] at h'; cases h'), fun _ => h⟩)

/-- the whole statement: all but the store by one walk, over whatever class of worlds -/
theorem wp_region_late {id : Nat} {a : Act} {w : World} (hm : P.follows .mixedOrders = true) (hB : Region.lexTailB .any (cutOut l ist ist).toArray n = true) (hsel : Region.noSelect l.toArray = true) (F : Late l ist n ost d s) (hd : a.eval (.tmp d) = .pointer (some ⟨gR, 0, none⟩)) (hO : At w gR OV T)
    (hstore : ∀ (ev : Operand → Value) (w : World), ev (.tmp d) = .pointer (some ⟨gR, 0, none⟩) → ev (.tmp s) = .agg RV → At w gR OV T → (execOp ev ost).run P w = .ok .skip (w.setRow gR RV))
    (h : ∀ C, Good gR w C → wpQuiet P (cutOut l ist ist).toArray C (fun q => q.eval (.tmp s) = .agg RV ∧ ∀ (w' : World), Ce gR w w' → At w' gR RV T → wpList P l.toArray Q (l.drop n) q w') ((cutOut l ist ist).take n) a) :
    (Code.region id l.toArray true).wp P Q a w := by
  simp only [Region.lexTailB, Bool.and_eq_true, decide_eq_true_eq] at hB
  obtain ⟨⟨⟨⟨hsel', hn⟩, hs⟩, hc⟩, hlex⟩ := hB
  have hlt : n < (cutOut l ist ist).length := by simpa using hn
  have hnl : n < l.length := by rwa [cutOut_len] at hlt
  have htl : ((cutOut l ist ist).take n).length = n := by simp; omega
  have inv0 : HeadInv .any (cutOut l ist ist).toArray n (Array.replicate (cutOut l ist ist).toArray.size false) := by
    refine ⟨by simp, fun j oj _ q => ?_, fun t _ ht => getD_in (by simpa using ht) (getD_replicate_false _ _)⟩
    rw [getD_replicate_false] at q; cases q
  have H : ∀ C, Good gR w C → _ := fun C hC => hdQ_lex (md := .any) (g := (cutOut l ist ist).toArray.size - n) hsel' hs hc hn ((cutOut l ist ist).take n) 0 _ a (fun j hj => by rw [htl] at hj; simp [hj]) (by simpa using htl) inv0 (by rw [htl]; exact hlex) (h C hC)
  refine wp_region_any hm ?_
  have hlen : (cutOut l ist ist).toArray.size = l.toArray.size := by simp [cutOut_len]
  rw [htl, hlen, List.size_toArray] at H
  have key := late_walk (W := w) F hsel hnl ⟨_, hO⟩ hstore hO (fun q hq => hq) n (Array.replicate l.length false) a { w with drawn := w.drawn + 1 } (Ce.drew gR w) H hd (fun _ => hO)
    (fun h => by rw [getD_replicate_false] at h; cases h)
  rw [show n + (l.length - n) = l.length from by omega] at key
  exact key
end

section
variable {P : Program} {a : Act} {K : Act → Prop} {o : Oper} {C : World → Prop} {g : Nat} {c : Array Value} {T : TypeId}
/-- a cell read, whatever the class -/
theorem q_cellC (ty : TypeId) (x : Operand) (ho : o.op = .load ty x) (kd : FloatKind) (hu : P.underlying ty = some (.float kd)) (k : Nat) (hx : a.eval x = .pointer (some ⟨g, k, none⟩)) (hA : ∀ w, C w → At w g c T) (v : Value) (hk : c[k]? = some v) (hK : K (a.put o.dst v)) : o.quiet P a C K :=
  q_load ty x ho _ hx v (fun w hw => run_load_cell w ty kd hu _ v ((hA w hw).cell hk)) hK
/-- a row read, whatever the class -/
theorem q_rowC (ty : TypeId) (x : Operand) (ho : o.op = .load ty x) (hx : a.eval x = .pointer (some ⟨g, 0, none⟩)) (hA : ∀ w, C w → At w g c T) (n : Nat) (hn : c.size = n) (d : TypeDesc)
    (hu : P.underlying ty = some d) (hd : (match d with | .struct _ | .array _ _ => true | _ => false) = true) (hi : (P.info? ty).map (·.size) = some n) (hK : K (a.put o.dst (.agg c))) : o.quiet P a C K :=
  q_load ty x ho _ hx (.agg c) (fun w hw => by
    have := run_loadAt_part (P := P) w g 0 n ty c T (0, 0) d (hA w hw) hu hd hi (by omega)
    rwa [Nat.zero_add, ← hn, Array.extract_size] at this) hK
theorem Good.const {gR : Nat} {W : World} (h : Good gR W C) : ∀ p : Prop, (∀ w, C w → p) = p := fun _ => propext ⟨fun k => let ⟨w, hw⟩ := h.some; k w hw, fun k _ _ => k⟩
end
end Go.Proofs.Ytiaflomabgnmaaa
