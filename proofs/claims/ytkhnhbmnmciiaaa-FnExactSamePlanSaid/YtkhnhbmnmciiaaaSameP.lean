/-
  CONTRACTS: plans held against each other, as the program does it.
-/
import Derived.Test.YtkhnhbmnmciiaaaSlEq
import Derived.Test.YtkhnhbmnmciiaaaPiece
import Derived.Test.YtkhnhbmnmciiaaaOneCell
namespace Go.Proofs.Ytkhnhbmnmciiaaa
open Go Go.ChangeShapes Go.WideShapes Go.ChangeAt Go.RowKit
set_option maxRecDepth 100000

section
variable {P : Program} {W : World} {o : Oper} {a : Act} {K : Act → Prop} {g : Nat} {c : Array Value} {T : TypeId}
theorem q_one (ty : TypeId) (x : Operand) (ho : o.op = .load ty x) (d : TypeDesc) (hu : P.underlying ty = some d) (hd : (match d with | .struct _ | .array _ _ => true | _ => false) = false) (k : Nat) (hx : a.eval x = .pointer (some ⟨g, k, none⟩)) (hA : At W g c T) (v : Value) (hk : c[k]? = some v) (hK : K (a.put o.dst v)) : o.quiet P a (Cb W) K :=
  q_load ty x ho _ hx v (fun w hw => run_load_one w ty d hu hd _ v (At.cell (At.step hA hw) hk)) hK
theorem q_neq {C : World → Prop} (ty : TypeId) (x y : Operand) {T : TypeId} (ho : o.op = .binOp .neq ty x y T) (c1 c2 : Array Value) (h1 : a.eval x = .agg c1) (h2 : a.eval y = .agg c2) (hm : P.eqGuardType P.depth ty = false) (v : Value) (hrun : ∀ w, (binOp .neq ty (.agg c1) (.agg c2)).run P w = .ok v w) (hK : K (a.put o.dst v)) : o.quiet P a C K := by
  refine ⟨v, fun w hw => ?_, hK⟩
  have hg := run_eqGuard_agg w .neq ty x y c1 c2 hm
  unfold Oper.quietAt execOp
  simp only [ho, h1, h2, Sem.run_bind, hg, hrun w, Sem.run_pure, Result.andThen_ok]
  exact ⟨rfl, rfl⟩
end

theorem Equal_any (G1 G2 : Nat) (xs ys : Slots) (hx : SlW xs) (hy : SlW ys) (h1 : xs.length ≤ 1048576) (T1 T2 : TypeId) (w : World) (A1 : At w G1 (slC xs) T1) (A2 : At w G2 (slC ys) T2) :
    Calls Try.prog 83 #[(.slice (some ⟨G1, 0, none⟩) xs.length xs.length), (.slice (some ⟨G2, 0, none⟩) ys.length ys.length)] w fun e w' => e = .returned (.bool (decide (xs = ys))) ∧ Below w.heap.size w w' := by
  have B0 := Lib.hid (Below.refl w.heap.size w)
  by_cases hl : xs.length = ys.length
  · have HX := Lib.hid (And.intro hx hy)
    obtain ⟨n, hnn⟩ : ∃ n, n = xs.length := ⟨_, rfl⟩
    have HN := Lib.hid (And.intro hnn (hnn.trans hl))
    rw [← hl, ← hnn]
    rw [← hnn] at h1
    clear hnn hl hx hy
    go_enter Try.func83, Try.ntmps83
    go_wp2
    go_loopw [13] (fun i wr => ∃ k : Nat, k ≤ n ∧ i = .int .i64 (k : Int) ∧ Hid (∀ j, j < k → sb xs j = sb ys j ∧ st xs j = st ys j) ∧ At wr G1 (slC xs) T1 ∧ At wr G2 (slC ys) T2 ∧ Hid (Below w.heap.size w wr)) (fun i _ => n - (intOf i).toNat)
    case atStart => exact ⟨0, by omega, rfl, Lib.hid (fun j hj => by omega), A1, A2, B0⟩
    case round =>
      clear A1 A2 B0
      obtain ⟨k, hk, rfl, hall, A1, A2, B1⟩ := hrel
      by_cases hlt : k < n
      · have s2 : IntKind.i64.wrap ((k : Int) + 1) = (k : Int) + 1 := IntWalk.i64_in _ (by omega)
        have kd : (k : Int) < (n : Int) := by omega
        have hkx : k < xs.length := by rw [← HN.out.1]; exact hlt
        have hky : k < ys.length := by rw [← HN.out.2]; exact hlt
        have bx := (HX.out.1.at hkx).1
        have by_ := (HX.out.2.at hky).1
        have SS1 := slC_size HX.out.1
        have SS2 := slC_size HX.out.2
        have hle1 : k * 9 + 9 ≤ (slC xs).size := by rw [SS1]; omega
        have hle2 : k * 9 + 9 ≤ (slC ys).size := by rw [SS2]; omega
        have hsl1 := slC_slot HX.out.1 hkx (k := k * 9) rfl
        have hsl2 := slC_slot HX.out.2 hky (k := k * 9) rfl
        have hneq := fun W => run_neq_slot W (sb xs k) (sb ys k) (st xs k) (st ys k) bx by_
        clear SS1 SS2
        have hC := Cb.const wr
        by_cases he : sb xs k = sb ys k ∧ st xs k = st ys k
        · simp only [decide_eq_true he, Bool.not_true] at hneq
          have HE := Lib.hid he
          clear he
          go_wp2
          refine wp_region_cb (by kernel_rfl) (by kernel_rfl) ?_
          repeat (first
            | go_big_quiet_skip
            | (go_big_quiet_want; first
              | (refine q_part 101 _ rfl (k * 9) rfl A1 9 hle1 _ Try.underlying101 rfl (by kernel_rfl) (sl1 (sb xs k) (st xs k)) hsl1 ?_; go_simp; go_big_quiet_on)
              | (refine q_part 101 _ rfl (k * 9) rfl A2 9 hle2 _ Try.underlying101 rfl (by kernel_rfl) (sl1 (sb ys k) (st ys k)) hsl2 ?_; go_simp; go_big_quiet_on)
              | (refine q_neq 101 _ _ rfl (sl1 (sb xs k) (st xs k)) (sl1 (sb ys k) (st ys k)) rfl rfl (by kernel_rfl) _ hneq ?_; go_simp; go_big_quiet_on)
              | (go_big_quiet_op; go_big_quiet_on)))
          refine wpQuiet_nil ?_
          intro w2 hw2
          have A3 := A1.step hw2
          have A4 := A2.step hw2
          have B2 := Lib.hid (bthen B1.out hw2)
          clear A1 A2 B1 hw2 hC
          go_wp2
          exact ⟨⟨k + 1, by omega, by go_num, Lib.hid (fun j hj => by
            by_cases c : j = k
            · subst c; exact HE.out
            · exact hall.out j (by omega)), A3, A4, B2⟩, by simp [intOf]; omega⟩
        · simp only [decide_eq_false he, Bool.not_false] at hneq
          have hno : decide (xs = ys) = false := decide_eq_false (fun e => he (by rw [e]; exact ⟨rfl, rfl⟩))
          go_wp2
          refine wp_region_cb (by kernel_rfl) (by kernel_rfl) ?_
          repeat (first
            | go_big_quiet_skip
            | (go_big_quiet_want; first
              | (refine q_part 101 _ rfl (k * 9) rfl A1 9 hle1 _ Try.underlying101 rfl (by kernel_rfl) (sl1 (sb xs k) (st xs k)) hsl1 ?_; go_simp; go_big_quiet_on)
              | (refine q_part 101 _ rfl (k * 9) rfl A2 9 hle2 _ Try.underlying101 rfl (by kernel_rfl) (sl1 (sb ys k) (st ys k)) hsl2 ?_; go_simp; go_big_quiet_on)
              | (refine q_neq 101 _ _ rfl (sl1 (sb xs k) (st xs k)) (sl1 (sb ys k) (st ys k)) rfl rfl (by kernel_rfl) _ hneq ?_; go_simp; go_big_quiet_on)
              | (go_big_quiet_op; go_big_quiet_on)))
          refine wpQuiet_nil ?_
          intro w2 hw2
          go_wp2
          go_ret
          exact ⟨by rw [hno]; rfl, bthen B1.out hw2⟩
      · obtain rfl : n = k := by omega
        have hyes : decide (xs = ys) = true := decide_eq_true (slots_ext (HN.out.1.symm.trans HN.out.2) (fun j hj => hall.out j (by rw [HN.out.1]; exact hj)))
        go_wp2
        go_ret
        exact ⟨by rw [hyes]; rfl, B1.out⟩
  · have hno : decide (xs = ys) = false := decide_eq_false (fun e => hl (by rw [e]))
    generalize xs.length = n at hl
    generalize ys.length = m at hl
    have hne : ¬ (n : Int) = (m : Int) := by omega
    rw [hno]
    go_enter Try.func83, Try.ntmps83
    go_wp2
    go_ret
    exact ⟨rfl, B0.out⟩

def vSame (xs ys : Slots) (b o b' o' : Int) : Bool := decide (b = b') && (decide (o = o') && decide (xs = ys))
set_option maxHeartbeats 400000 in
theorem SamePlan_any (G1 G2 : Nat) (xs ys : Slots) (b o b' o' : Int) (hx : SlW xs) (hy : SlW ys) (h1 : xs.length ≤ 1048576) (T1 T2 : TypeId) (w : World) (A1 : At w G1 (slC xs) T1) (A2 : At w G2 (slC ys) T2) :
    Calls Try.prog 51 #[.agg (plC (.slice (some ⟨G1, 0, none⟩) xs.length xs.length) b o), .agg (plC (.slice (some ⟨G2, 0, none⟩) ys.length ys.length) b' o')] w fun e w' => e = .returned ((.bool (vSame xs ys b o b' o'))) ∧ Below w.heap.size w w' := by
  have X1 : At ((w.alloc (.cells (plC (.slice (some ⟨G1, 0, none⟩) xs.length xs.length) b o) 61)).alloc (.cells (plC (.slice (some ⟨G2, 0, none⟩) ys.length ys.length) b' o') 61)) w.heap.size (plC (.slice (some ⟨G1, 0, none⟩) xs.length xs.length) b o) 61 := (At.new w _ _).alloc _
  have X2 : At ((w.alloc (.cells (plC (.slice (some ⟨G1, 0, none⟩) xs.length xs.length) b o) 61)).alloc (.cells (plC (.slice (some ⟨G2, 0, none⟩) ys.length ys.length) b' o') 61)) (w.heap.size + 1) (plC (.slice (some ⟨G2, 0, none⟩) ys.length ys.length) b' o') 61 := At.last1 w _ _ _
  have KE := Equal_any G1 G2 xs ys hx hy h1 T1 T2 ((w.alloc (.cells (plC (.slice (some ⟨G1, 0, none⟩) xs.length xs.length) b o) 61)).alloc (.cells (plC (.slice (some ⟨G2, 0, none⟩) ys.length ys.length) b' o') 61)) ((A1.alloc _).alloc _) ((A2.alloc _).alloc _)
  have B0 := Lib.hid (bnew (b0 w (.cells (plC (.slice (some ⟨G1, 0, none⟩) xs.length xs.length) b o) 61)) (.cells (plC (.slice (some ⟨G2, 0, none⟩) ys.length ys.length) b' o') 61))
  have c10 := X1.cell (plC_0 _ _ _)
  have c11 := X1.cell (plC_1 _ _ _)
  have c12 := X1.cell (plC_2 _ _ _)
  have c20 := X2.cell (plC_0 _ _ _)
  have c21 := X2.cell (plC_1 _ _ _)
  have c22 := X2.cell (plC_2 _ _ _)
  clear X1 X2 A1 A2
  by_cases hb : b = b'
  · by_cases ho : o = o'
    · have ev : vSame xs ys b o b' o' = decide (xs = ys) := by unfold vSame; rw [decide_eq_true hb, decide_eq_true ho]; rfl
      rw [ev]
      subst hb ho
      go_enter Try.func51, Try.ntmps51
      go_wp2_with fail
      refine KE.mono ?_
      rintro e w1 ⟨rfl, hb1⟩
      go_wp2_with fail
      go_ret
      exact ⟨rfl, bthen B0.out hb1⟩
    · have ev : vSame xs ys b o b' o' = false := by unfold vSame; rw [decide_eq_false ho]; simp
      have hd : (o == o') = false := by simpa using ho
      rw [ev]
      subst hb
      go_enter Try.func51, Try.ntmps51
      go_wp2_with fail
      go_ret
      exact ⟨rfl, B0.out⟩
  · have ev : vSame xs ys b o b' o' = false := by unfold vSame; rw [decide_eq_false hb]; rfl
    have hd : (b == b') = false := by simpa using hb
    rw [ev]
    go_enter Try.func51, Try.ntmps51
    go_wp2_with fail
    go_ret
    exact ⟨rfl, B0.out⟩

end Go.Proofs.Ytkhnhbmnmciiaaa
