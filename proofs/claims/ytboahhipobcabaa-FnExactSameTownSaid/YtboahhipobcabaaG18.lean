/-
  SEVERAL TEXTS IN ONE.
-/
import Derived.Test.YtboahhipobcabaaToPlan
import Derived.Test.YtboahhipobcabaaG14
import Derived.Laws.StructEq
import Derived.Test.YtboahhipobcabaaG4
import Derived.Test.YtboahhipobcabaaG7

/-
  CONTRACTS: slots held against each other by ==.
-/
namespace Go.Proofs.Ytboahhipobcabaa
open Go Go.ChangeShapes Go.WideShapes Go.ChangeAt Go.RowKit
set_option maxRecDepth 100000

variable {P : Program}
theorem run_part_bool (w : World) (e : TypeId) (xs : List Bool) (k : Nat) (hue : P.underlying e = some .bool) (hk : k < xs.length) : (part e (bl xs) k).run P w = .ok (.bool (bn xs k)) w := by
  have hagg : (isAgg e).run P w = .ok false w := by
    unfold isAgg
    rw [Sem.run_bind, run_underlying hue w]
    rfl
  simp [part, Sem.run_bind, hagg, bl_get hk]
theorem forInB_run (w : World) (f : Nat → (Option Bool × Unit) → Sem (ForInStep (Option Bool × Unit))) (p : Nat → Bool) (L : List Nat)
    (h : ∀ i ∈ L, ∀ s, (f i s).run P w = .ok (if p i then .yield (none, ()) else .done (some false, ())) w) :
    (forIn L (none, ()) f).run P w = .ok (if L.all p then (none, ()) else (some false, ())) w := by
  induction L with
  | nil => rfl
  | cons i L ih =>
    have h0 := h i (by simp) (none, ())
    have ih' := ih (fun j hj s => h j (by simp [hj]) s)
    rw [List.forIn_cons, Sem.run_bind, h0]
    cases hp : p i
    · simp [hp]
    · simp [hp, ih']
theorem all_eqB {xs ys : List Bool} (h : xs.length = ys.length) : ((List.range' 0 xs.length).all fun i => decide (bn xs i = bn ys i)) = decide (xs = ys) := by
  rw [Bool.eq_iff_iff]
  simp only [List.all_eq_true, decide_eq_true_eq]
  constructor
  · intro q
    apply List.ext_getElem h
    intro i h1 h2
    have := q i (by simp [List.mem_range'_1]; exact h1)
    simpa [bn, List.getD, List.getElem?_eq_getElem h1, List.getElem?_eq_getElem h2] using this
  · intro e i _; rw [e]
/-- two arrays of words yes and no -/
theorem run_eq_bools (w : World) (d : Nat) (t e : TypeId) (n : Nat) (xs ys : List Bool) (hu : P.underlying t = some (.array n e)) (hue : P.underlying e = some .bool) (he : (P.info? e).map (·.size) = some 1) (hx : xs.length = n) (hy : ys.length = n) :
    (Op.equalIn (d + 2) t (.agg (bl xs)) (.agg (bl ys))).run P w = .ok (decide (xs = ys)) w := by
  cases hq : P.info? e with
  | none => simp [hq] at he
  | some i =>
    have hs : i.size = 1 := by simpa [hq] using he
    unfold Op.equalIn
    simp only [Sem.run_bind, run_underlying hu w, Result.andThen_ok, sizeOf, typeInfo]
    simp [hq, hs]
    rw [forInB_run w _ (fun i => decide (bn xs i = bn ys i)) _ ?_]
    · subst hx
      rw [all_eqB hy.symm]
      by_cases c : xs = ys <;> simp [c]
    · intro k hk s
      have hk' : k < n := by simpa [List.mem_range'_1] using hk
      rw [Sem.run_bind, run_part_bool w e xs k hue (by omega)]
      simp only [Result.andThen_ok]
      rw [Sem.run_bind, run_part_bool w e ys k hue (by omega)]
      simp only [Result.andThen_ok]
      rw [Sem.run_bind, run_equalIn_bool' w d e _ _ hue]
      simp only [Result.andThen_ok]
      by_cases c : bn xs k = bn ys k
      · simp [c]
      · simp [c]
theorem run_part_ph (w : World) (b : List Bool) (hb : b.length = 8) (t : Int) : (part 141 (sl1 b t) 0).run Try.prog w = .ok (.agg (bl b)) w := by
  have hagg : (isAgg 141).run Try.prog w = .ok true w := by
    unfold isAgg
    rw [Sem.run_bind, run_underlying Try.underlying141 w]
    rfl
  have hi : (Try.prog.info? 141).map (·.size) = some 8 := by kernel_rfl
  have hx := sl1_phase hb t
  have hs := sl1_size hb t
  rw [Nat.zero_add] at hx
  cases hq : Try.prog.info? 141 with
  | none => simp [hq] at hi
  | some i =>
    have hsz : i.size = 8 := by simpa [hq] using hi
    simp [part, Sem.run_bind, hagg, sizeOf, typeInfo, hq, hsz, hx, hs]
theorem run_part_tk (w : World) (b : List Bool) (hb : b.length = 8) (t : Int) : (part 2 (sl1 b t) 8).run Try.prog w = .ok (.int .i64 t) w := by
  have hagg : (isAgg 2).run Try.prog w = .ok false w := by
    unfold isAgg
    rw [Sem.run_bind, run_underlying Try.underlying2 w]
    rfl
  simp [part, Sem.run_bind, hagg, sl1_ticks hb t]
/-- two slots -/
theorem run_eq_slot (w : World) (b b' : List Bool) (t t' : Int) (hb : b.length = 8) (hb' : b'.length = 8) : (Op.equalIn 10000 143 (.agg (sl1 b t)) (.agg (sl1 b' t'))).run Try.prog w = .ok (decide (b = b' ∧ t = t')) w := by
  have ht : Try.prog.underlying 143 = some (.struct (Try.prog.fieldsOf 143)) := by kernel_rfl
  have hp : Try.prog.stoodInHeld 143 = false := by kernel_rfl
  rw [show (10000 : Nat) = 9999 + 1 from rfl, run_equalIn_struct w 9999 143 _ _ ht hp]
  have hf : (Try.prog.fieldsOf 143).toList.map (fun f => (f.name, f.type, f.offset)) = [("Green", 141, 0), ("Ticks", 2, 8)] := by kernel_rfl
  generalize (Try.prog.fieldsOf 143).toList = L at hf ⊢
  obtain _ | ⟨f1, _ | ⟨f2, _ | ⟨f3, L⟩⟩⟩ := L
  · simp at hf
  · simp at hf
  rotate_left
  · simp at hf
  simp only [List.map_cons, List.map_nil, List.cons.injEq, Prod.mk.injEq, and_true] at hf
  obtain ⟨⟨n1', t1, o1⟩, n2', t2, o2⟩ := hf
  have n1 : f1.name ≠ "_" := by rw [n1']; decide
  have n2 : f2.name ≠ "_" := by rw [n2']; decide
  have E1 := run_eq_bools w 9997 141 4 8 b b' Try.underlying141 Try.underlying4 (by kernel_rfl) hb hb'
  have E2 : (Op.equalIn 9999 2 (.int .i64 t) (.int .i64 t')).run Try.prog w = .ok (t == t') w := run_equalIn_int w 9998 2 .i64 .i64 t t' Try.underlying2
  have p1 := run_part_tk w b hb t
  have p2 := run_part_tk w b' hb' t'
  simp only [Op.eqFields, n1, n2, ne_eq, not_false_eq_true, if_true, t1, t2, o1, o2, Sem.run_bind, Sem.run_ite, run_part_ph w b hb, run_part_ph w b' hb', Result.andThen_ok]
  have E1' : (Op.equalIn 9999 141 (.agg (bl b)) (.agg (bl b'))).run Try.prog w = .ok (decide (b = b')) w := E1
  rw [E1']
  simp only [Result.andThen_ok]
  by_cases c1 : b = b'
  · rw [decide_eq_true c1]
    simp only [Bool.not_true, Bool.false_eq_true, if_false]
    rw [p1]
    simp only [Result.andThen_ok]
    rw [p2]
    simp only [Result.andThen_ok]
    rw [E2]
    by_cases c2 : t = t' <;> simp [c1, c2]
  · rw [decide_eq_false c1]
    simp [c1]
theorem run_neq_slot (w : World) (b b' : List Bool) (t t' : Int) (hb : b.length = 8) (hb' : b'.length = 8) : (binOp .neq 143 (.agg (sl1 b t)) (.agg (sl1 b' t'))).run Try.prog w = .ok (.bool (!decide (b = b' ∧ t = t'))) w := by
  rw [run_neq_struct, run_eq_slot w b b' t t' hb hb']; rfl
theorem slots_ext {xs ys : Slots} (h : xs.length = ys.length) (hq : ∀ j, j < xs.length → sb xs j = sb ys j ∧ st xs j = st ys j) : xs = ys := by
  apply List.ext_getElem h
  intro i h1 h2
  have := hq i h1
  unfold sb st at this
  rw [List.getD_eq_getElem?_getD, List.getElem?_eq_getElem h1, List.getD_eq_getElem?_getD, List.getElem?_eq_getElem h2] at this
  exact Prod.ext this.1 this.2

end Go.Proofs.Ytboahhipobcabaa

/-
  CONTRACTS: plans held against each other, as the program does it.
-/
namespace Go.Proofs.Ytboahhipobcabaa
open Go Go.ChangeShapes Go.WideShapes Go.ChangeAt Go.RowKit
set_option maxRecDepth 100000

section
variable {P : Program} {W : World} {o : Oper} {a : Act} {K : Act → Prop} {g : Nat} {c : Array Value} {T : TypeId}
theorem q_one (ty : TypeId) (x : Operand) (ho : o.op = .load ty x) (d : TypeDesc) (hu : P.underlying ty = some d) (hd : (match d with | .struct _ | .array _ _ => true | _ => false) = false) (k : Nat) (hx : a.eval x = .pointer (some ⟨g, k, none⟩)) (hA : At W g c T) (v : Value) (hk : c[k]? = some v) (hK : K (a.put o.dst v)) : o.quiet P a (Cb W) K :=
  q_load ty x ho _ hx v (fun w hw => run_load_one w ty d hu hd _ v (At.cell (At.step hA hw) hk)) hK

theorem q_neq {C : World → Prop} (ty : TypeId) (x y : Operand) {T : TypeId} (ho : o.op = .binOp .neq ty x y T) (c1 c2 : Array Value) (h1 : a.eval x = .agg c1) (h2 : a.eval y = .agg c2) (hm : P.eqGuardType P.depth ty = false) (v : Value) (hrun : ∀ w, (binOp .neq ty (.agg c1) (.agg c2)).run P w = .ok v w) (hK : K (a.put o.dst v)) : o.quiet P a C K := by
  refine ⟨v, fun w hw => ?_, hK⟩
  have hg := run_eqGuard_agg w .neq ty x y c1 c2 hm
  unfold Oper.quietAt execOp
  simp only [ho, h1, h2, Sem.run_bind, hg, hrun w, Sem.run_pure, Result.andThen_ok]
  exact ⟨rfl, rfl⟩
end

theorem Equal_any (G1 G2 : Nat) (xs ys : Slots) (hx : SlW xs) (hy : SlW ys) (h1 : xs.length ≤ 1048576) (T1 T2 : TypeId) (w : World) (A1 : At w G1 (slC xs) T1) (A2 : At w G2 (slC ys) T2) :
    Calls Try.prog 73 #[(.slice (some ⟨G1, 0, none⟩) xs.length xs.length), (.slice (some ⟨G2, 0, none⟩) ys.length ys.length)] w fun e w' => e = .returned (.bool (decide (xs = ys))) ∧ Below w.heap.size w w' := by
  have B0 := Lib.hid (Below.refl w.heap.size w)
  by_cases hl : xs.length = ys.length
  · have HX := Lib.hid (And.intro hx hy)
    obtain ⟨n, hnn⟩ : ∃ n, n = xs.length := ⟨_, rfl⟩
    have HN := Lib.hid (And.intro hnn (hnn.trans hl))
    rw [← hl, ← hnn]
    rw [← hnn] at h1
    clear hnn hl hx hy
    go_enter Try.func73, Try.ntmps73
    go_wp2
    go_loopw [13] (fun i wr => ∃ k : Nat, k ≤ n ∧ i = .int .i64 (k : Int) ∧ Hid (∀ j, j < k → sb xs j = sb ys j ∧ st xs j = st ys j) ∧ At wr G1 (slC xs) T1 ∧ At wr G2 (slC ys) T2 ∧ Hid (Below w.heap.size w wr)) (fun i _ => n - (intOf i).toNat)
    case atStart => exact ⟨0, by omega, rfl, Lib.hid (fun j hj => by omega), A1, A2, B0⟩
    case round =>
      clear A1 A2 B0
      obtain ⟨k, hk, rfl, hall, A1, A2, B1⟩ := hrel
      by_cases hlt : k < n
      · have s2 : IntKind.i64.wrap ((k : Int) + 1) = (k : Int) + 1 := IntWalk.i64_in _ (by omega)
        have kd : (k : Int) < (n : Int) := by omega
        have hkx : k < xs.length := by rw [← HN.out.1]; exact hlt
        have hky : k < ys.length := by rw [← HN.out.2]; exact hlt
        have bx := (HX.out.1.at hkx).1
        have by_ := (HX.out.2.at hky).1
        have SS1 := slC_size HX.out.1
        have SS2 := slC_size HX.out.2
        have hle1 : k * 9 + 9 ≤ (slC xs).size := by rw [SS1]; omega
        have hle2 : k * 9 + 9 ≤ (slC ys).size := by rw [SS2]; omega
        have hsl1 := slC_slot HX.out.1 hkx (k := k * 9) rfl
        have hsl2 := slC_slot HX.out.2 hky (k := k * 9) rfl
        have hneq := fun W => run_neq_slot W (sb xs k) (sb ys k) (st xs k) (st ys k) bx by_
        clear SS1 SS2
        have hC := Cb.const wr
        by_cases he : sb xs k = sb ys k ∧ st xs k = st ys k
        · simp only [decide_eq_true he, Bool.not_true] at hneq
          have HE := Lib.hid he
          clear he
          go_wp2
          refine wp_region_cb (by kernel_rfl) (by kernel_rfl) ?_
          repeat (first
            | go_big_quiet_skip
            | (go_big_quiet_want; first
              | (refine q_part 143 _ rfl (k * 9) rfl A1 9 hle1 _ Try.underlying143 rfl (by kernel_rfl) (sl1 (sb xs k) (st xs k)) hsl1 ?_; go_simp; go_big_quiet_on)
              | (refine q_part 143 _ rfl (k * 9) rfl A2 9 hle2 _ Try.underlying143 rfl (by kernel_rfl) (sl1 (sb ys k) (st ys k)) hsl2 ?_; go_simp; go_big_quiet_on)
              | (refine q_neq 143 _ _ rfl (sl1 (sb xs k) (st xs k)) (sl1 (sb ys k) (st ys k)) rfl rfl (by kernel_rfl) _ hneq ?_; go_simp; go_big_quiet_on)
              | (go_big_quiet_op; go_big_quiet_on)))
          refine wpQuiet_nil ?_
          intro w2 hw2
          have A3 := A1.step hw2
          have A4 := A2.step hw2
          have B2 := Lib.hid (bthen B1.out hw2)
          clear A1 A2 B1 hw2 hC
          go_wp2
          exact ⟨⟨k + 1, by omega, by go_num, Lib.hid (fun j hj => by
            by_cases c : j = k
            · subst c; exact HE.out
            · exact hall.out j (by omega)), A3, A4, B2⟩, by simp [intOf]; omega⟩
        · simp only [decide_eq_false he, Bool.not_false] at hneq
          have hno : decide (xs = ys) = false := decide_eq_false (fun e => he (by rw [e]; exact ⟨rfl, rfl⟩))
          go_wp2
          refine wp_region_cb (by kernel_rfl) (by kernel_rfl) ?_
          repeat (first
            | go_big_quiet_skip
            | (go_big_quiet_want; first
              | (refine q_part 143 _ rfl (k * 9) rfl A1 9 hle1 _ Try.underlying143 rfl (by kernel_rfl) (sl1 (sb xs k) (st xs k)) hsl1 ?_; go_simp; go_big_quiet_on)
              | (refine q_part 143 _ rfl (k * 9) rfl A2 9 hle2 _ Try.underlying143 rfl (by kernel_rfl) (sl1 (sb ys k) (st ys k)) hsl2 ?_; go_simp; go_big_quiet_on)
              | (refine q_neq 143 _ _ rfl (sl1 (sb xs k) (st xs k)) (sl1 (sb ys k) (st ys k)) rfl rfl (by kernel_rfl) _ hneq ?_; go_simp; go_big_quiet_on)
              | (go_big_quiet_op; go_big_quiet_on)))
          refine wpQuiet_nil ?_
          intro w2 hw2
          go_wp2
          go_ret
          exact ⟨by rw [hno]; rfl, bthen B1.out hw2⟩
      · obtain rfl : n = k := by omega
        have hyes : decide (xs = ys) = true := decide_eq_true (slots_ext (HN.out.1.symm.trans HN.out.2) (fun j hj => hall.out j (by rw [HN.out.1]; exact hj)))
        go_wp2
        go_ret
        exact ⟨by rw [hyes]; rfl, B1.out⟩
  · have hno : decide (xs = ys) = false := decide_eq_false (fun e => hl (by rw [e]))
    generalize xs.length = n at hl
    generalize ys.length = m at hl
    have hne : ¬ (n : Int) = (m : Int) := by omega
    rw [hno]
    go_enter Try.func73, Try.ntmps73
    go_wp2
    go_ret
    exact ⟨rfl, B0.out⟩

def vSame (xs ys : Slots) (b o b' o' : Int) : Bool := decide (b = b') && (decide (o = o') && decide (xs = ys))

set_option maxHeartbeats 400000 in
theorem SamePlan_any (G1 G2 : Nat) (xs ys : Slots) (b o b' o' : Int) (hx : SlW xs) (hy : SlW ys) (h1 : xs.length ≤ 1048576) (T1 T2 : TypeId) (w : World) (A1 : At w G1 (slC xs) T1) (A2 : At w G2 (slC ys) T2) :
    Calls Try.prog 34 #[.agg (plC (.slice (some ⟨G1, 0, none⟩) xs.length xs.length) b o), .agg (plC (.slice (some ⟨G2, 0, none⟩) ys.length ys.length) b' o')] w fun e w' => e = .returned ((.bool (vSame xs ys b o b' o'))) ∧ Below w.heap.size w w' := by
  have X1 : At ((w.alloc (.cells (plC (.slice (some ⟨G1, 0, none⟩) xs.length xs.length) b o) 80)).alloc (.cells (plC (.slice (some ⟨G2, 0, none⟩) ys.length ys.length) b' o') 80)) w.heap.size (plC (.slice (some ⟨G1, 0, none⟩) xs.length xs.length) b o) 80 := (At.new w _ _).alloc _
  have X2 : At ((w.alloc (.cells (plC (.slice (some ⟨G1, 0, none⟩) xs.length xs.length) b o) 80)).alloc (.cells (plC (.slice (some ⟨G2, 0, none⟩) ys.length ys.length) b' o') 80)) (w.heap.size + 1) (plC (.slice (some ⟨G2, 0, none⟩) ys.length ys.length) b' o') 80 := At.last1 w _ _ _
  have KE := Equal_any G1 G2 xs ys hx hy h1 T1 T2 ((w.alloc (.cells (plC (.slice (some ⟨G1, 0, none⟩) xs.length xs.length) b o) 80)).alloc (.cells (plC (.slice (some ⟨G2, 0, none⟩) ys.length ys.length) b' o') 80)) ((A1.alloc _).alloc _) ((A2.alloc _).alloc _)
  have B0 := Lib.hid (bnew (b0 w (.cells (plC (.slice (some ⟨G1, 0, none⟩) xs.length xs.length) b o) 80)) (.cells (plC (.slice (some ⟨G2, 0, none⟩) ys.length ys.length) b' o') 80))
  have c10 := X1.cell (plC_0 _ _ _)
  have c11 := X1.cell (plC_1 _ _ _)
  have c12 := X1.cell (plC_2 _ _ _)
  have c20 := X2.cell (plC_0 _ _ _)
  have c21 := X2.cell (plC_1 _ _ _)
  have c22 := X2.cell (plC_2 _ _ _)
  clear X1 X2 A1 A2
  by_cases hb : b = b'
  · by_cases ho : o = o'
    · have ev : vSame xs ys b o b' o' = decide (xs = ys) := by unfold vSame; rw [decide_eq_true hb, decide_eq_true ho]; rfl
      rw [ev]
      subst hb ho
      go_enter Try.func34, Try.ntmps34
      go_wp2_with fail
      refine KE.mono ?_
      rintro e w1 ⟨rfl, hb1⟩
      go_wp2_with fail
      go_ret
      exact ⟨rfl, bthen B0.out hb1⟩
    · have ev : vSame xs ys b o b' o' = false := by unfold vSame; rw [decide_eq_false ho]; simp
      have hd : (o == o') = false := by simpa using ho
      rw [ev]
      subst hb
      go_enter Try.func34, Try.ntmps34
      go_wp2_with fail
      go_ret
      exact ⟨rfl, B0.out⟩
  · have ev : vSame xs ys b o b' o' = false := by unfold vSame; rw [decide_eq_false hb]; rfl
    have hd : (b == b') = false := by simpa using hb
    rw [ev]
    go_enter Try.func34, Try.ntmps34
    go_wp2_with fail
    go_ret
    exact ⟨rfl, B0.out⟩

end Go.Proofs.Ytboahhipobcabaa
