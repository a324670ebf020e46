/-
  A STATEMENT WHOSE ORDER IS OPEN, THAT READS, CALLS, AND LAYS ITS ANSWER IN A NEW BLOCK: the block may be made at any time ahead of the store: one walk of all else, in the order of the text.
  No Go text in it. Conditions: those of each theorem.
-/
import Derived.Test.YtldchcjnepnjnaaTail
import Derived.Test.YtldchcjnepnjnaaAgree
namespace Go.Proofs.Ytldchcjnepnjnaa
open Go Go.RowKit

/-- a place-holder with an operation's waits, and no deed -/
def nop (o : Oper) : Oper := { o with op := .move (.const (.int .i64 0)), dst := none, guard := none }
/-- the operations, two of them taken out -/
def cutOut (l : List Oper) (ia ist : Nat) : List Oper := l.mapIdx fun i o => if i = ia ∨ i = ist then nop o else o
theorem cutOut_len (l : List Oper) (ia ist : Nat) : (cutOut l ia ist).length = l.length := by simp [cutOut]
theorem cutOut_get (l : List Oper) (ia ist i : Nat) : (cutOut l ia ist)[i]? = (l[i]?).map fun o => if i = ia ∨ i = ist then nop o else o := by simp [cutOut]
theorem cutOut_ready (md : Region.Mode) (l : List Oper) (ia ist : Nat) (done : Array Bool) : Region.ready md (cutOut l ia ist).toArray done = Region.ready md l.toArray done := by
  unfold Region.ready
  rw [List.size_toArray, List.size_toArray, cutOut_len]
  refine congrArg (fun f => (List.range l.length).filter f) (funext fun i => ?_)
  rw [List.getElem?_toArray, List.getElem?_toArray, cutOut_get]
  cases l[i]? with
  | none => rfl
  | some o =>
    simp only [Option.map_some]
    split <;> rfl
theorem cutOut_seq (md : Region.Mode) (l : List Oper) (ia ist : Nat) : ∀ (g k : Nat) (done : Array Bool), Region.seqB md (cutOut l ia ist).toArray g k done = Region.seqB md l.toArray g k done
  | 0, k, done => by simp only [Region.seqB, cutOut_ready]
  | g + 1, k, done => by simp only [Region.seqB, cutOut_ready, cutOut_seq md l ia ist g]

/-- one quiet operation yields one value, whatever classes of worlds are asked, where they share a world -/
theorem yields_one {P : Program} {ops : Array Oper} {C C' : World → Prop} {o : Oper} {v v' : Value} {a : Act} (w : World) (hw : C w) (hw' : C' w) (h : YieldsIn P ops C o v a) (h' : YieldsIn P ops C' o v' a) : v = v' := by
  rcases h with ⟨x, h⟩ | ⟨x, rfl⟩
  · rcases h' with ⟨x', h'⟩ | ⟨x', rfl⟩
    · have a1 := h w hw
      have a2 := h' w hw'
      unfold Oper.quietAt at a1 a2
      generalize (execOp a.eval o).run P w = r at a1 a2
      unfold Oper.quietUpon at a1 a2
      split at a1
      · simp only at a2; rw [← a1.2, ← a2.2]
      · simp only at a2; rw [a1.2, a2.2]
      · simp only at a2
        obtain ⟨rfl, c1⟩ := a1
        obtain ⟨u, w', e1, e2⟩ := calls_agree (R := fun u _ => u = v) (R' := fun u _ => u = v') (c1.mono fun e w'' h => ⟨v, h.1, rfl⟩) (a2.2.mono fun e w'' h => ⟨v', h.1, rfl⟩)
        rw [← e1, ← e2]
      · exact a1.elim
    · rw [x] at x'; cases x'
  · rcases h' with ⟨x', h'⟩ | ⟨x', rfl⟩
    · rw [x] at x'; cases x'
    · rfl

theorem wanted_none {o : Oper} (h : o.guard = none) (y : Nat → Option Bool) : Region.wanted o y = true := by
  unfold Region.wanted; rw [h]

section
variable {P : Program} {l : List Oper} {ia ist n g : Nat} {W : World}
/-- a slot that no operation that is still to come writes -/
theorem hdQ_slot {C : World → Prop} {L : Array Bool → Act → Prop} {ops : Array Oper} {s : Tmp} (k : Nat) :
    ∀ (done : Array Bool) (q : Act), (∀ j o, ops[j]? = some o → done.getD j true = false → j < n → o.dst ≠ some s) → hdQ P .any ops C n L k done q → ∃ done' q', L done' q' ∧ q'.tmps[s]? = q.tmps[s]? := by
  induction k with
  | zero => intro done q _ h; exact ⟨done, q, h, rfl⟩
  | succ k ih =>
    intro done q hw h
    obtain ⟨i, hi⟩ := List.exists_mem_of_ne_nil _ h.1
    obtain ⟨hin, hq⟩ := h.2 i hi
    obtain ⟨hun, o, ho, -⟩ := mem_ready.1 hi
    obtain ⟨v, -, hK⟩ := yieldsIn_of_qOp ho hq
    obtain ⟨done', q', hL, e⟩ := ih (done.setIfInBounds i true) (q.put o.dst v) (fun j oj hj hun2 hjn => by
      refine hw j oj hj ?_ hjn
      by_cases c : i = j
      · subst c; exact hun
      · rwa [getD_set_ne true c] at hun2) hK
    refine ⟨done', q', hL, ?_⟩
    rw [e]
    have hne := hw i o ho hun hin
    unfold Act.put
    split
    · rename_i d hd
      show (q.tmps.setIfInBounds d v)[s]? = _
      rw [Array.getElem?_setIfInBounds_ne (by intro c; subst c; exact hne hd)]
    · rfl
end

/-- the shape: operation ia makes a block (slot d), operation ist stores slot s into it, operation n waits for both -/
structure Fresh (l : List Oper) (ia ist n : Nat) (oa ost : Oper) (d s : Tmp) : Prop where
  ga : l[ia]? = some oa
  gs : l[ist]? = some ost
  da : oa.dst = some d
  ds : ost.dst = none
  ia_lt : ia < n
  is_lt : ist < n
  ne : ia ≠ ist
  guards : l.all (fun o => o.guard.isNone) = true
  away : (List.range n).all (fun j => j == ia || j == ist || (match l[j]? with | some o => !(o.looksAt l.toArray).contains d && o.dst != some d | none => true)) = true
  w1 : Region.waitsFor .any l.toArray ist ia = true
  w2 : Region.waitsFor .any l.toArray n ia = true
  w3 : Region.waitsFor .any l.toArray n ist = true
  src : (List.range n).all (fun j => Region.waitsFor .any l.toArray ist j || (match l[j]? with | some o => o.dst != some s | none => true)) = true
  sd : s ≠ d

theorem ready_waits {md : Region.Mode} {ops : Array Oper} {done : Array Bool} {i j : Nat} (hr : i ∈ Region.ready md ops done) (h : Region.waitsFor md ops i j = true) : done.getD j false = true := by
  obtain ⟨oi, hoi, e, he, hb, rfl⟩ := Region.waitsFor_spec h
  obtain ⟨-, o', ho', hall⟩ := mem_ready.1 hr
  rw [hoi] at ho'
  obtain rfl := Option.some.inj ho'
  exact hall e he hb

section
variable {P : Program} {l : List Oper} {ia ist n : Nat} {oa ost : Oper} {d s : Tmp} {W : World} {T : TypeId} {ZR RV : Array Value} {Q : Exit → Act → World → Prop} {Lq : Act → Prop} {N : Nat}
/-- where the real walk and the walk without the two operations stand to each other -/
def Rel (W : World) (ia ist : Nat) (d : Tmp) (ZR RV : Array Value) (T : TypeId) (N : Nat) (done : Array Bool) (b q : Act) (w : World) : Prop :=
  q.tmps.size = N ∧ (done.getD ist false = true → done.getD ia false = true) ∧ (done.getD ia false = false → b = q) ∧
  (done.getD ia false = true → ∃ gg : Nat, b = q.put (some d) (.pointer (some ⟨gg, 0, none⟩)) ∧ W.heap.size ≤ gg ∧ (done.getD ist false = false → At w gg ZR T) ∧ (done.getD ist false = true → At w gg RV T))

theorem set_self {done : Array Bool} {i : Nat} (h : done.getD i true = false) : (done.setIfInBounds i true).getD i false = true := by
  have hlt : i < done.size := by
    rcases Nat.lt_or_ge i done.size with c | c
    · exact c
    · simp [Array.getElem?_eq_none c] at h
  simp [hlt]
theorem put_size (q : Act) (x : Option Tmp) (v : Value) : (q.put x v).tmps.size = q.tmps.size := by
  cases x <;> simp [Act.put]

theorem new_walk (F : Fresh l ia ist n oa ost d s) (hsel : Region.noSelect l.toArray = true) (hnl : n < l.length)
    (halloc : ∀ (ev : Operand → Value) (w : World), (execOp ev oa).run P w = .ok (.value (.pointer (some ⟨w.heap.size, 0, none⟩))) (w.alloc (.cells ZR T)))
    (hstore : ∀ (ev : Operand → Value) (w : World) (gg : Nat), ev (.tmp d) = .pointer (some ⟨gg, 0, none⟩) → ev (.tmp s) = .agg RV → At w gg ZR T → (execOp ev ost).run P w = .ok .skip (w.setRow gg RV))
    (hL : ∀ q, Lq q → q.eval (.tmp s) = .agg RV ∧ ∀ (gg : Nat) (w' : World), Cb W w' → W.heap.size ≤ gg → At w' gg RV T → wpList P l.toArray Q (l.drop n) (q.put (some d) (.pointer (some ⟨gg, 0, none⟩))) w') (hsz : d < N) (k : Nat) :
    ∀ (done : Array Bool) (b q : Act) (w : World), Cb W w →
      (∀ W', Cb W W' → hdQ P .any (cutOut l ia ist).toArray (Cb W') n (fun done' q' => Region.seqB .any (cutOut l ia ist).toArray (l.length - n) n done' = true ∧ Lq q') k done q) →
      Rel W ia ist d ZR RV T N done b q w → wpAny P .any l.toArray Q (k + (l.length - n)) done b w := by
  induction k with
  | zero =>
    intro done b q w hw H hR
    obtain ⟨hB, hq⟩ := H W (Cb.refl W)
    rw [cutOut_seq] at hB
    obtain ⟨g', hg'⟩ : ∃ g', l.length - n = g' + 1 := ⟨l.length - n - 1, by omega⟩
    have hB' := hB
    rw [hg'] at hB'
    simp only [Region.seqB, Bool.and_eq_true, decide_eq_true_eq] at hB'
    have hrn : n ∈ Region.ready .any l.toArray done := by rw [hB'.1]; simp
    have h1 := ready_waits hrn F.w2
    have h2 := ready_waits hrn F.w3
    obtain ⟨gg, rfl, hgg, -, hA⟩ := hR.2.2.2 h1
    have key := (hL q hq).2 gg w hw hgg (hA h2)
    have t := wpAny_of_seq (md := .any) (Q' := Q) (l.drop n) n done _ w (fun j => by simp [List.getElem?_drop]) (by rw [List.length_drop]; exact hB) key
    rwa [List.length_drop, ← Nat.zero_add (l.length - n)] at t
  | succ k ih =>
    intro done b q w hw H hR
    rw [show k + 1 + (l.length - n) = (k + (l.length - n)) + 1 from by omega]
    have H0 := H w hw
    have hne := H0.1
    rw [cutOut_ready] at hne
    refine ⟨fun h0 => absurd h0 hne, fun i hi => ?_⟩
    have hi' : i ∈ Region.ready .any (cutOut l ia ist).toArray done := by rw [cutOut_ready]; exact hi
    have hin := (H0.2 i hi').1
    obtain ⟨hun, o, ho, hall⟩ := mem_ready.1 hi
    have hlo : l[i]? = some o := by simpa using ho
    have hunf := getD_both hun
    have hgd : o.guard = none := by
      have := List.all_eq_true.1 F.guards o (List.mem_of_getElem? hlo)
      simpa using this
    by_cases ci : i = ia
    · subst ci
      rw [F.ga] at hlo
      obtain rfl := Option.some.inj hlo
      obtain rfl := hR.2.2.1 hunf
      have hnis : done.getD ist false = false := by
        cases c : done.getD ist false
        · rfl
        · have := hR.2.1 c; rw [hunf] at this; cases this
      unfold wpOp
      simp only [ho, wanted_none hgd, if_true]
      refine .inl ?_
      unfold Oper.wp
      rw [halloc, Oper.upon_value, F.da]
      refine ih _ _ b _ (bnew hw _) (fun W' hW' => ?_) ⟨hR.1, fun _ => ?_, fun h => ?_, fun _ => ⟨w.heap.size, rfl, hw.size, fun _ => At.new w ZR T, fun h => ?_⟩⟩
      · obtain ⟨v, -, hK⟩ := yieldsIn_of_qOp (o := nop oa) (by rw [List.getElem?_toArray, cutOut_get, F.ga]; simp) ((H W' hW').2 i hi').2
        exact hK
      · exact set_self hun
      · rw [set_self hun] at h; cases h
      · rw [getD_set_ne _ (fun e => F.ne e)] at h; rw [hnis] at h; cases h
    · by_cases cs : i = ist
      · subst cs
        rw [F.gs] at hlo
        obtain rfl := Option.some.inj hlo
        have hia := ready_waits hi F.w1
        obtain ⟨gg, rfl, hgg, hA, -⟩ := hR.2.2.2 hia
        have hAt := hA hunf
        have hsv : q.eval (.tmp s) = .agg RV := by
          obtain ⟨done', q', ⟨-, hq'⟩, e⟩ := hdQ_slot (s := s) (k + 1) done q (fun j oj hj hjun hjn => by
            rw [List.getElem?_toArray, cutOut_get] at hj
            cases hlj : l[j]? with
            | none => rw [hlj] at hj; cases hj
            | some oj' =>
              rw [hlj] at hj
              obtain rfl := Option.some.inj hj
              split
              · exact fun h => by cases h
              · have := List.all_eq_true.1 F.src j (List.mem_range.2 hjn)
                rw [hlj, Bool.or_eq_true] at this
                rcases this with h | h
                · have := ready_waits hi h
                  rw [getD_both hjun] at this; cases this
                · simpa using h) (H W (Cb.refl W))
          rw [← (hL q' hq').1]
          show q.tmps.getD s undef = q'.tmps.getD s undef
          rw [Array.getD_eq_getD_getElem?, Array.getD_eq_getD_getElem?, e]
        have hdv : (q.put (some d) (.pointer (some ⟨gg, 0, none⟩))).eval (.tmp d) = .pointer (some ⟨gg, 0, none⟩) := by
          show (q.tmps.setIfInBounds d (.pointer (some ⟨gg, 0, none⟩))).getD d undef = _
          rw [Array.getD_eq_getD_getElem?, Array.getElem?_setIfInBounds_self_of_lt (by rw [hR.1]; exact hsz)]; rfl
        have hrun := hstore (q.put (some d) (.pointer (some ⟨gg, 0, none⟩))).eval w gg hdv (by rw [Act.eval_put (fun d' hd' h => F.sd (by cases hd'; cases h; rfl))]; exact hsv) hAt
        unfold wpOp
        simp only [ho, wanted_none hgd, if_true]
        refine .inl ?_
        unfold Oper.wp
        rw [hrun, Oper.upon_skip, F.ds]
        refine ih _ _ q _ (bset hw hgg RV) (fun W' hW' => ?_) ⟨hR.1, fun _ => ?_, fun h => ?_, fun _ => ⟨gg, rfl, hgg, fun h => ?_, fun _ => hAt.setRow RV⟩⟩
        · obtain ⟨v, -, hK⟩ := yieldsIn_of_qOp (o := nop ost) (by rw [List.getElem?_toArray, cutOut_get, F.gs]; simp) ((H W' hW').2 i hi').2
          exact hK
        · rw [getD_set_ne _ (fun e => ci e)]; exact hia
        · rw [getD_set_ne _ (fun e => ci e)] at h; rw [hia] at h; cases h
        · rw [set_self hun] at h; cases h
      · have ho' : (cutOut l ia ist).toArray[i]? = some o := by
          rw [List.getElem?_toArray, cutOut_get, hlo, Option.map_some, if_neg (by omega)]
        have haw := List.all_eq_true.1 F.away i (List.mem_range.2 hin)
        rw [hlo, Bool.or_eq_true, Bool.or_eq_true] at haw
        have haw2 : d ∉ o.looksAt l.toArray ∧ o.dst ≠ some d := by
          rcases haw with (h | h) | h
          · exact absurd (by simpa using h) ci
          · exact absurd (by simpa using h) cs
          · simpa using h
        obtain ⟨v, hyW, hKW⟩ := yieldsIn_of_qOp ho' ((H W (Cb.refl W)).2 i hi').2
        have hall2 : ∀ W', Cb W W' → YieldsIn P (cutOut l ia ist).toArray (Cb W') o v q ∧ hdQ P .any (cutOut l ia ist).toArray (Cb W') n (fun done' q' => Region.seqB .any (cutOut l ia ist).toArray (l.length - n) n done' = true ∧ Lq q') k (done.setIfInBounds i true) (q.put o.dst v) := fun W' hW' => by
          obtain ⟨v', hy', hK'⟩ := yieldsIn_of_qOp ho' ((H W' hW').2 i hi').2
          obtain rfl := yields_one W' hW' (Cb.refl W') hyW hy'
          exact ⟨hy', hK'⟩
        have hyw := (hall2 w hw).1
        have hsel' := Region.noSelect_spec hsel i o
        have hyb : YieldsIn P l.toArray (Cb w) o v b := by
          have hx : execOp b.eval o = execOp q.eval o := by
            cases c : done.getD ia false
            · rw [hR.2.2.1 c]
            · obtain ⟨gg, rfl, -⟩ := hR.2.2.2 c
              exact execOp_put (ops := l.toArray) o (fun x y => hsel' x y ho) q (some d) _ (fun d' hd' => by cases hd'; exact haw2.1)
          rcases hyw with ⟨-, hyw⟩ | ⟨hyw, -⟩
          · refine .inl ⟨wanted_none hgd _, fun w' hw' => ?_⟩
            have := hyw w' hw'
            unfold Oper.quietAt at this ⊢
            rw [hx]; exact this
          · rw [wanted_none hgd] at hyw; cases hyw
        refine wpOp_of_qOp (C := Cb w) (Cb.refl w) (fun a' w' hw' ha => ?_) (YieldsIn.qOp (K := fun a' => a' = b.put o.dst v) ho hyb rfl)
        subst ha
        refine ih _ _ (q.put o.dst v) w' (bthen hw hw') (fun W' hW' => (hall2 W' hW').2) ⟨by rw [put_size]; exact hR.1, ?_, ?_, ?_⟩
        · rw [getD_set_ne _ cs, getD_set_ne _ ci]; exact hR.2.1
        · rw [getD_set_ne _ ci]; intro c; rw [hR.2.2.1 c]
        · rw [getD_set_ne _ cs, getD_set_ne _ ci]
          intro c
          obtain ⟨gg, rfl, hgg, h1, h2⟩ := hR.2.2.2 c
          exact ⟨gg, Act.put_comm q _ _ (fun d' hd' h => by cases hd'; exact haw2.2 h), hgg, fun h => (h1 h).step hw', fun h => (h2 h).step hw'⟩

/-- the whole statement: all but the block's making and the store by one walk; behind them the rest in a world in which the new block holds the answer -/
theorem wp_region_new {id : Nat} {a : Act} {w : World} (hm : P.follows .mixedOrders = true) (hB : Region.lexTailB .any (cutOut l ia ist).toArray n = true) (hsel : Region.noSelect l.toArray = true) (F : Fresh l ia ist n oa ost d s) (hsz : d < a.tmps.size)
    (halloc : ∀ (ev : Operand → Value) (w : World), (execOp ev oa).run P w = .ok (.value (.pointer (some ⟨w.heap.size, 0, none⟩))) (w.alloc (.cells ZR T)))
    (hstore : ∀ (ev : Operand → Value) (w : World) (gg : Nat), ev (.tmp d) = .pointer (some ⟨gg, 0, none⟩) → ev (.tmp s) = .agg RV → At w gg ZR T → (execOp ev ost).run P w = .ok .skip (w.setRow gg RV))
    (h : ∀ W', Cb w W' → wpQuiet P (cutOut l ia ist).toArray (Cb W') (fun q => q.eval (.tmp s) = .agg RV ∧ ∀ (gg : Nat) (w' : World), Cb w w' → w.heap.size ≤ gg → At w' gg RV T → wpList P l.toArray Q (l.drop n) (q.put (some d) (.pointer (some ⟨gg, 0, none⟩))) w') ((cutOut l ia ist).take n) a) :
    (Code.region id l.toArray true).wp P Q a w := by
  simp only [Region.lexTailB, Bool.and_eq_true, decide_eq_true_eq] at hB
  obtain ⟨⟨⟨⟨hsel', hn⟩, hs⟩, hc⟩, hlex⟩ := hB
  have hlt : n < (cutOut l ia ist).length := by simpa using hn
  have hnl : n < l.length := by rwa [cutOut_len] at hlt
  have htl : ((cutOut l ia ist).take n).length = n := by simp; omega
  have inv0 : HeadInv .any (cutOut l ia ist).toArray n (Array.replicate (cutOut l ia ist).toArray.size false) := by
    refine ⟨by simp, fun j oj _ q => ?_, fun t _ ht => getD_in (by simpa using ht) (getD_replicate_false _ _)⟩
    rw [getD_replicate_false] at q; cases q
  have H : ∀ W', Cb w W' → _ := fun W' hW' => hdQ_lex (md := .any) (g := (cutOut l ia ist).toArray.size - n) hsel' hs hc hn ((cutOut l ia ist).take n) 0 _ a (fun j hj => by rw [htl] at hj; simp [hj]) (by simpa using htl) inv0 (by rw [htl]; exact hlex) (h W' hW')
  refine wp_region_any hm ?_
  have hlen : (cutOut l ia ist).toArray.size = l.toArray.size := by simp [cutOut_len]
  rw [htl, hlen, List.size_toArray] at H
  have key := new_walk (W := w) F hsel hnl halloc hstore (fun q hq => hq) hsz n (Array.replicate l.length false) a a { w with drawn := w.drawn + 1 } ⟨rfl, rfl, rfl, Nat.le_refl _, fun _ _ => rfl⟩ H
    ⟨rfl, fun h => by (rw [getD_replicate_false] at h; cases h), fun _ => rfl, fun h => by (rw [getD_replicate_false] at h; cases h)⟩
  rw [show n + (l.length - n) = l.length from by omega] at key
  exact key
end
/-- the store's run -/
theorem store_fresh {P : Program} {o : Oper} {ty : TypeId} {d s : Tmp} (ho : o.op = .store ty (.tmp d) (.tmp s)) {ZR RV : Array Value} {T : TypeId} (n : Nat) (hn : RV.size = n) (ho' : ZR.size = n) (hi : (P.info? ty).map (·.size) = some n) (h1 : RV.all (·.oneCell') = true)
    (ev : Operand → Value) (w : World) (gg : Nat) (hd : ev (.tmp d) = .pointer (some ⟨gg, 0, none⟩)) (hs : ev (.tmp s) = .agg RV) (hA : At w gg ZR T) : (execOp ev o).run P w = .ok .skip (w.setRow gg RV) := by
  have hrun : (Instr.storeAt ty (.pointer (some ⟨gg, 0, none⟩)) (.agg RV)).run P w = .ok () (w.setRow gg RV) := by
    have := run_storeAt_part (P := P) w gg 0 T ty ZR RV hA (by rw [hn]; exact hi) (by omega) h1
    rwa [splice_all (by omega)] at this
  unfold execOp
  simp only [ho, hd, hs, Sem.run_bind, hrun, Sem.run_pure, Result.andThen_ok]
end Go.Proofs.Ytldchcjnepnjnaa
