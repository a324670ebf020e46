/-
  SEVERAL TEXTS IN ONE.
-/
import Derived.OrdersHeld
import Derived.Test.YtiaflomabgnmaaaNew
import Derived.Test.YtiaflomabgnmaaaG12
import Derived.Test.YtiaflomabgnmaaaSums

/-
  A STATEMENT WHOSE ORDER IS OPEN, by hand: reads are taken first, calls come in their chain: the pieces.
  No Go text in it. Conditions: those of each theorem.
-/
namespace Go.Proofs.Ytiaflomabgnmaaa
open Go Go.RowKit
section
variable {P : Program} {ops : Array Oper} {Q : Exit → Act → World → Prop} {S : World → Prop} {o : Oper} {a : Act} {w : World} {v : Value} {i : Nat} {K : Act → World → Prop}
theorem yif (hg : o.guard = none) (h : ∀ w, S w → (execOp a.eval o).run P w = .ok (.value v) w) : YieldsIf P ops S o v a := by
  refine .inl ⟨wanted_none hg _, fun w hw => ?_⟩
  rw [h w hw]

theorem x_load (ty : TypeId) (x : Operand) (ho : o.op = .load ty x) (ad : Addr) (hx : a.eval x = .pointer (some ad)) (hrun : (Instr.loadAt ty (.pointer (some ad))).run P w = .ok v w) : (execOp a.eval o).run P w = .ok (.value v) w := by
  unfold execOp
  simp only [ho, hx, Sem.run_bind, hrun, Sem.run_pure, Result.andThen_ok]

theorem x_move (x : Operand) (ho : o.op = .move x) : (execOp a.eval o).run P w = .ok (.value (a.eval x)) w := by
  unfold execOp
  simp only [ho, Sem.run_pure]

theorem x_assign (x : Operand) (ho : o.op = .assign x) : (execOp a.eval o).run P w = .ok (.value (a.eval x)) w := by
  unfold execOp
  simp only [ho, Sem.run_pure]

theorem op_call {f : FuncId} {args : Array Value} (ho : ops[i]? = some o) (hg : o.guard = none) (hx : (execOp a.eval o).run P w = .ok (.enter f args) w) (hc : Calls P f args w fun e w' => ∃ v, e = .returned v ∧ K (a.put o.dst v) w') : wpOp P ops Q i K a w := by
  unfold wpOp
  simp only [ho, wanted_none hg, if_true]
  refine .inl ?_
  unfold Oper.wp
  rw [hx]
  exact hc.mono fun e w' ⟨v, h1, h2⟩ => by subst h1; exact h2

theorem op_value {w' : World} (ho : ops[i]? = some o) (hg : o.guard = none) (hx : (execOp a.eval o).run P w = .ok (.value v) w') (hK : K (a.put o.dst v) w') : wpOp P ops Q i K a w := by
  unfold wpOp
  simp only [ho, wanted_none hg, if_true]
  refine .inl ?_
  unfold Oper.wp
  rw [hx]
  exact hK

theorem op_skip {w' : World} (ho : ops[i]? = some o) (hg : o.guard = none) (hx : (execOp a.eval o).run P w = .ok .skip w') (hK : K (a.put o.dst undef) w') : wpOp P ops Q i K a w := by
  unfold wpOp
  simp only [ho, wanted_none hg, if_true]
  refine .inl ?_
  unfold Oper.wp
  rw [hx]
  exact hK

theorem one_of {i j : Nat} (h : i ∈ [j]) : i = j := by simpa using h
end
end Go.Proofs.Ytiaflomabgnmaaa

/-
  OPERATIONS IN A WALK WHOSE ORDER IS OPEN, by hand: what each yields, its operands by the kernel.
  No Go text in it. Conditions: those of each theorem.
-/
namespace Go.Proofs.Ytiaflomabgnmaaa
open Go Go.RowKit
section
variable {P : Program} {o : Oper} {a : Act} {w w' : World} {v : Value}
theorem hx_move (x : Operand) (ho : o.op = .move x) (hx : a.eval x = v) : (execOp a.eval o).run P w = .ok (.value v) w := by
  unfold execOp
  simp only [ho, hx, Sem.run_pure]
theorem hx_index (ty : TypeId) (x y : Operand) (ho : o.op = .indexAddr ty x y) (v1 v2 : Value) (h1 : a.eval x = v1) (h2 : a.eval y = v2) (hrun : (Instr.indexAt ty v1 v2).run P w = .ok v w) : (execOp a.eval o).run P w = .ok (.value v) w := by
  unfold execOp
  simp only [ho, h1, h2, Sem.run_bind, hrun, Sem.run_pure, Result.andThen_ok]
theorem hx_sub (ty : TypeId) (x y : Operand) {T : TypeId} (ho : o.op = .binOp .sub ty x y T) (v1 v2 : Value) (h1 : a.eval x = v1) (h2 : a.eval y = v2) (hrun : (binOp .sub ty v1 v2).run P w = .ok v w') : (execOp a.eval o).run P w = .ok (.value v) w' := by
  have hg : eqGuard .sub ty x y v1 v2 = pure () := rfl
  unfold execOp
  simp only [ho, h1, h2, hg, Sem.run_bind, hrun, Sem.run_pure, Result.andThen_ok]
theorem hx_store (ty : TypeId) (x y : Operand) (ho : o.op = .store ty x y) (v1 v2 : Value) (h1 : a.eval x = v1) (h2 : a.eval y = v2) (hrun : (Instr.storeAt ty v1 v2).run P w = .ok () w') : (execOp a.eval o).run P w = .ok .skip w' := by
  unfold execOp
  simp only [ho, h1, h2, Sem.run_bind, hrun, Sem.run_pure, Result.andThen_ok]
end
theorem run_sub_i64 {P : Program} (W : World) (t : TypeId) (a b : Int) : (binOp .sub t (.int .i64 a) (.int .i64 b)).run P W = .ok (.int .i64 (IntKind.i64.wrap (a - b))) W := by
  simp [binOp, Op.intArith]
end Go.Proofs.Ytiaflomabgnmaaa

/-
  CONTRACTS: the delay in a step.
-/
namespace Go.Proofs.Ytiaflomabgnmaaa
open Go Go.RowKit Go.Shelf
set_option maxRecDepth 100000

theorem hx_quo' {P : Program} {o : Oper} {a : Act} {w w' : World} {v : Value} (ty : TypeId) (x y : Operand) {T : TypeId} (ho : o.op = .binOp .quo ty x y T) (v1 v2 : Value) (h1 : a.eval x = v1) (h2 : a.eval y = v2) (hrun : (binOp .quo ty v1 v2).run P w = .ok v w') : (execOp a.eval o).run P w = .ok (.value v) w' := by
  have hg : eqGuard .quo ty x y v1 v2 = pure () := rfl
  unfold execOp
  simp only [ho, h1, h2, hg, Sem.run_bind, hrun, Sem.run_pure, Result.andThen_ok]

theorem hx_add {P : Program} {o : Oper} {a : Act} {w w' : World} {v : Value} (ty : TypeId) (x y : Operand) {T : TypeId} (ho : o.op = .binOp .add ty x y T) (v1 v2 : Value) (h1 : a.eval x = v1) (h2 : a.eval y = v2) (hrun : (binOp .add ty v1 v2).run P w = .ok v w') : (execOp a.eval o).run P w = .ok (.value v) w' := by
  have hg : eqGuard .add ty x y v1 v2 = pure () := rfl
  unfold execOp
  simp only [ho, h1, h2, hg, Sem.run_bind, hrun, Sem.run_pure, Result.andThen_ok]

theorem run_add_i64 {P : Program} (W : World) (t : TypeId) (a b : Int) : (binOp .add t (.int .i64 a) (.int .i64 b)).run P W = .ok (.int .i64 (IntKind.i64.wrap (a + b))) W := by
  simp [binOp, Op.intArith]

theorem run_indexA {P : Program} (w : World) (ty e : TypeId) (n k s : Nat) (g off : Nat) (hu : P.underlying ty = some (.array n e)) (he : (P.info? e).map (·.size) = some s) (hk : k < n) :
    (Instr.indexAt ty (.pointer (some ⟨g, off, none⟩)) (.int .i64 k)).run P w = .ok (.pointer (some ⟨g, off + k * s, none⟩)) w := by
  cases hq : P.info? e with
  | none => simp [hq] at he
  | some i =>
    have hs : i.size = s := by simpa [hq] using he
    by_cases h0 : k * s = 0
    · simp [Instr.indexAt, Instr.sureAddr, asIntOf, run_underlying hu, hk, sizeOf, typeInfo, hq, hs, Addr.add, h0]
    · simp [Instr.indexAt, Instr.sureAddr, asIntOf, run_underlying hu, hk, sizeOf, typeInfo, hq, hs, Addr.add, h0]

theorem stepRow_before {cs : List Nat} {p b l : Nat} (ok : OkR cs p b l) (oo mm : Nat → Nat) (k : Nat) {i : Nat} (hi : i < 19) : (stepRow p b l cs oo mm k)[i]? = (rd (itL p b cs oo mm k) p b l)[i]? := by
  unfold stepRow
  rw [Array.append_assoc, Array.getElem?_append_left (by rw [rd_size (itL_ok ok oo mm k).len]; exact hi)]

end Go.Proofs.Ytiaflomabgnmaaa

/-
  A STATEMENT WHOSE ORDER IS OPEN, THAT READS, CALLS, AND MAKES A BLOCK at any time ahead of its last operations: one walk of all else, in the order of the text; behind it the last operations, the block made.
  No Go text in it. Conditions: those of each theorem.
-/
namespace Go.Proofs.Ytiaflomabgnmaaa
open Go Go.RowKit

/-- the shape: operation ia makes a block (slot d), operation n waits for it -/
structure FreshA (l : List Oper) (ia n : Nat) (oa : Oper) (d : Tmp) : Prop where
  ga : l[ia]? = some oa
  da : oa.dst = some d
  ia_lt : ia < n
  guards : l.all (fun o => o.guard.isNone) = true
  away : (List.range n).all (fun j => j == ia || (match l[j]? with | some o => !(o.looksAt l.toArray).contains d && o.dst != some d | none => true)) = true
  w2 : Region.waitsFor .any l.toArray n ia = true

section
variable {P : Program} {l : List Oper} {ia n : Nat} {oa : Oper} {d : Tmp} {W : World} {T : TypeId} {ZR : Array Value} {Q : Exit → Act → World → Prop} {Lq : Act → Prop} {N : Nat}
def RelA (W : World) (ia : Nat) (d : Tmp) (ZR : Array Value) (T : TypeId) (N : Nat) (done : Array Bool) (b q : Act) (w : World) : Prop :=
  q.tmps.size = N ∧ (done.getD ia false = false → b = q) ∧
  (done.getD ia false = true → ∃ gg : Nat, b = q.put (some d) (.pointer (some ⟨gg, 0, none⟩)) ∧ W.heap.size ≤ gg ∧ At w gg ZR T)

theorem alloc_walk (F : FreshA l ia n oa d) (hsel : Region.noSelect l.toArray = true) (hnl : n < l.length)
    (halloc : ∀ (ev : Operand → Value) (w : World), (execOp ev oa).run P w = .ok (.value (.pointer (some ⟨w.heap.size, 0, none⟩))) (w.alloc (.cells ZR T)))
    (hL : ∀ q, Lq q → ∀ (gg : Nat) (w' : World), Cb W w' → W.heap.size ≤ gg → At w' gg ZR T → wpList P l.toArray Q (l.drop n) (q.put (some d) (.pointer (some ⟨gg, 0, none⟩))) w') (k : Nat) :
    ∀ (done : Array Bool) (b q : Act) (w : World), Cb W w →
      (∀ W', Cb W W' → hdQ P .any (cutOut l ia ia).toArray (Cb W') n (fun done' q' => Region.seqB .any (cutOut l ia ia).toArray (l.length - n) n done' = true ∧ Lq q') k done q) →
      RelA W ia d ZR T N done b q w → wpAny P .any l.toArray Q (k + (l.length - n)) done b w := by
  induction k with
  | zero =>
    intro done b q w hw H hR
    obtain ⟨hB, hq⟩ := H W (Cb.refl W)
    rw [cutOut_seq] at hB
    obtain ⟨g', hg'⟩ : ∃ g', l.length - n = g' + 1 := ⟨l.length - n - 1, by omega⟩
    have hB' := hB
    rw [hg'] at hB'
    simp only [Region.seqB, Bool.and_eq_true, decide_eq_true_eq] at hB'
    have hrn : n ∈ Region.ready .any l.toArray done := by rw [hB'.1]; simp
    have h1 := ready_waits hrn F.w2
    obtain ⟨gg, rfl, hgg, hA⟩ := hR.2.2 h1
    have key := hL q hq gg w hw hgg hA
    have t := wpAny_of_seq (md := .any) (Q' := Q) (l.drop n) n done _ w (fun j => by simp [List.getElem?_drop]) (by rw [List.length_drop]; exact hB) key
    rwa [List.length_drop, ← Nat.zero_add (l.length - n)] at t
  | succ k ih =>
    intro done b q w hw H hR
    rw [show k + 1 + (l.length - n) = (k + (l.length - n)) + 1 from by omega]
    have H0 := H w hw
    have hne := H0.1
    rw [cutOut_ready] at hne
    refine ⟨fun h0 => absurd h0 hne, fun i hi => ?_⟩
    have hi' : i ∈ Region.ready .any (cutOut l ia ia).toArray done := by rw [cutOut_ready]; exact hi
    have hin := (H0.2 i hi').1
    obtain ⟨hun, o, ho, hall⟩ := mem_ready.1 hi
    have hlo : l[i]? = some o := by simpa using ho
    have hunf := getD_both hun
    have hgd : o.guard = none := by
      have := List.all_eq_true.1 F.guards o (List.mem_of_getElem? hlo)
      simpa using this
    by_cases ci : i = ia
    · subst ci
      rw [F.ga] at hlo
      obtain rfl := Option.some.inj hlo
      obtain rfl := hR.2.1 hunf
      unfold wpOp
      simp only [ho, wanted_none hgd, if_true]
      refine .inl ?_
      unfold Oper.wp
      rw [halloc, Oper.upon_value, F.da]
      refine ih _ _ b _ (bnew hw _) (fun W' hW' => ?_) ⟨hR.1, fun h => ?_, fun _ => ⟨w.heap.size, rfl, hw.size, At.new w ZR T⟩⟩
      · obtain ⟨v, -, hK⟩ := yieldsIn_of_qOp (o := nop oa) (by rw [List.getElem?_toArray, cutOut_get, F.ga]; simp) ((H W' hW').2 i hi').2
        exact hK
      · rw [set_self hun] at h; cases h
    · have ho' : (cutOut l ia ia).toArray[i]? = some o := by
        rw [List.getElem?_toArray, cutOut_get, hlo, Option.map_some, if_neg (by omega)]
      have haw := List.all_eq_true.1 F.away i (List.mem_range.2 hin)
      rw [hlo, Bool.or_eq_true] at haw
      have haw2 : d ∉ o.looksAt l.toArray ∧ o.dst ≠ some d := by
        rcases haw with h | h
        · exact absurd (by simpa using h) ci
        · simpa using h
      obtain ⟨v, hyW, hKW⟩ := yieldsIn_of_qOp ho' ((H W (Cb.refl W)).2 i hi').2
      have hall2 : ∀ W', Cb W W' → YieldsIn P (cutOut l ia ia).toArray (Cb W') o v q ∧ hdQ P .any (cutOut l ia ia).toArray (Cb W') n (fun done' q' => Region.seqB .any (cutOut l ia ia).toArray (l.length - n) n done' = true ∧ Lq q') k (done.setIfInBounds i true) (q.put o.dst v) := fun W' hW' => by
        obtain ⟨v', hy', hK'⟩ := yieldsIn_of_qOp ho' ((H W' hW').2 i hi').2
        obtain rfl := yields_one W' hW' (Cb.refl W') hyW hy'
        exact ⟨hy', hK'⟩
      have hyw := (hall2 w hw).1
      have hsel' := Region.noSelect_spec hsel i o
      have hyb : YieldsIn P l.toArray (Cb w) o v b := by
        have hx : execOp b.eval o = execOp q.eval o := by
          cases c : done.getD ia false
          · rw [hR.2.1 c]
          · obtain ⟨gg, rfl, -⟩ := hR.2.2 c
            exact execOp_put (ops := l.toArray) o (fun x y => hsel' x y ho) q (some d) _ (fun d' hd' => by cases hd'; exact haw2.1)
        rcases hyw with ⟨-, hyw⟩ | ⟨hyw, -⟩
        · refine .inl ⟨wanted_none hgd _, fun w' hw' => ?_⟩
          have := hyw w' hw'
          unfold Oper.quietAt at this ⊢
          rw [hx]; exact this
        · rw [wanted_none hgd] at hyw; cases hyw
      refine wpOp_of_qOp (C := Cb w) (Cb.refl w) (fun a' w' hw' ha => ?_) (YieldsIn.qOp (K := fun a' => a' = b.put o.dst v) ho hyb rfl)
      subst ha
      refine ih _ _ (q.put o.dst v) w' (bthen hw hw') (fun W' hW' => (hall2 W' hW').2) ⟨by rw [put_size]; exact hR.1, ?_, ?_⟩
      · rw [getD_set_ne _ ci]; intro c; rw [hR.2.1 c]
      · rw [getD_set_ne _ ci]
        intro c
        obtain ⟨gg, rfl, hgg, h1⟩ := hR.2.2 c
        exact ⟨gg, Act.put_comm q _ _ (fun d' hd' h => by cases hd'; exact haw2.2 h), hgg, h1.step hw'⟩

/-- the whole statement -/
theorem wp_region_alloc {id : Nat} {a : Act} {w : World} (hm : P.follows .mixedOrders = true) (hB : Region.lexTailB .any (cutOut l ia ia).toArray n = true) (hsel : Region.noSelect l.toArray = true) (F : FreshA l ia n oa d)
    (halloc : ∀ (ev : Operand → Value) (w : World), (execOp ev oa).run P w = .ok (.value (.pointer (some ⟨w.heap.size, 0, none⟩))) (w.alloc (.cells ZR T)))
    (h : ∀ W', Cb w W' → wpQuiet P (cutOut l ia ia).toArray (Cb W') (fun q => ∀ (gg : Nat) (w' : World), Cb w w' → w.heap.size ≤ gg → At w' gg ZR T → wpList P l.toArray Q (l.drop n) (q.put (some d) (.pointer (some ⟨gg, 0, none⟩))) w') ((cutOut l ia ia).take n) a) :
    (Code.region id l.toArray true).wp P Q a w := by
  simp only [Region.lexTailB, Bool.and_eq_true, decide_eq_true_eq] at hB
  obtain ⟨⟨⟨⟨hsel', hn⟩, hs⟩, hc⟩, hlex⟩ := hB
  have hlt : n < (cutOut l ia ia).length := by simpa using hn
  have hnl : n < l.length := by rwa [cutOut_len] at hlt
  have htl : ((cutOut l ia ia).take n).length = n := by simp; omega
  have inv0 : HeadInv .any (cutOut l ia ia).toArray n (Array.replicate (cutOut l ia ia).toArray.size false) := by
    refine ⟨by simp, fun j oj _ q => ?_, fun t _ ht => getD_in (by simpa using ht) (getD_replicate_false _ _)⟩
    rw [getD_replicate_false] at q; cases q
  have H : ∀ W', Cb w W' → _ := fun W' hW' => hdQ_lex (md := .any) (g := (cutOut l ia ia).toArray.size - n) hsel' hs hc hn ((cutOut l ia ia).take n) 0 _ a (fun j hj => by rw [htl] at hj; simp [hj]) (by simpa using htl) inv0 (by rw [htl]; exact hlex) (h W' hW')
  refine wp_region_any hm ?_
  have hlen : (cutOut l ia ia).toArray.size = l.toArray.size := by simp [cutOut_len]
  rw [htl, hlen, List.size_toArray] at H
  have key := alloc_walk (W := w) (N := a.tmps.size) F hsel hnl halloc (fun q hq => hq) n (Array.replicate l.length false) a a { w with drawn := w.drawn + 1 } ⟨rfl, rfl, rfl, Nat.le_refl _, fun _ _ => rfl⟩ H
    ⟨rfl, fun _ => rfl, fun h => by (rw [getD_replicate_false] at h; cases h)⟩
  rw [show n + (l.length - n) = l.length from by omega] at key
  exact key
end
end Go.Proofs.Ytiaflomabgnmaaa
