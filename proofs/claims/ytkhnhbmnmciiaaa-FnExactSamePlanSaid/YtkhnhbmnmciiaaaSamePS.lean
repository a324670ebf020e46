/-
  CONTRACTS: plans held against each other, as the model does it.
-/
import Derived.Test.YtkhnhbmnmciiaaaSameP
namespace Go.Proofs.Ytkhnhbmnmciiaaa
open Go Go.ChangeShapes Go.WideShapes Go.ChangeAt Go.RowKit
set_option maxRecDepth 100000

set_option maxHeartbeats 1000000 in
theorem l04Same_any (g1 g2 : Nat) (T3 T4 : TypeId) (G1 G2 : Nat) (xs ys : Slots) (b o b' o' : Int) (hx : SlW xs) (hy : SlW ys) (h1 : xs.length ≤ 1048576) (T1 T2 : TypeId) (w : World) (X1 : At w g1 (plC (.slice (some ⟨G1, 0, none⟩) xs.length xs.length) b o) T3) (X2 : At w g2 (plC (.slice (some ⟨G2, 0, none⟩) ys.length ys.length) b' o') T4) (A1 : At w G1 (slC xs) T1) (A2 : At w G2 (slC ys) T2) :
    Calls Try.prog 82 #[.pointer (some ⟨g1, 0, none⟩), .pointer (some ⟨g2, 0, none⟩)] w fun e w' => e = .returned ((.bool (vSame xs ys b o b' o'))) ∧ Below w.heap.size w w' := by
  have B0 := Lib.hid (Below.refl w.heap.size w)
  by_cases hl : xs.length = ys.length
  · have HX := Lib.hid (And.intro hx hy)
    obtain ⟨n, hnn⟩ : ∃ n, n = xs.length := ⟨_, rfl⟩
    have HN := Lib.hid (And.intro hnn (hnn.trans hl))
    rw [← hnn] at h1 X1
    rw [← hl, ← hnn] at X2
    clear hnn hl hx hy
    have c1 : w.cell? ⟨g1, 0, none⟩ = some (.slice (some ⟨G1, 0, none⟩) n n) := X1.cell (plC_0 _ _ _)
    have c2 : w.cell? ⟨g2, 0, none⟩ = some (.slice (some ⟨G2, 0, none⟩) n n) := X2.cell (plC_0 _ _ _)
    go_enter Try.func82, Try.ntmps82
    go_wp2
    go_quiet (fail)
    have X3 := X1.drewN nq
    have X4 := X2.drewN nq
    have A3 := A1.drewN nq
    have A4 := A2.drewN nq
    have B1 := Lib.hid (bdrew B0.out nq)
    generalize hw1 : w.drewN nq = w1 at X3 X4 A3 A4 B1 ⊢
    clear hw1 X1 X2 A1 A2 B0 c1 c2
    go_wp2
    go_loopw [5] (fun i wr => ∃ k : Nat, k ≤ n ∧ i = .int .i64 (k : Int) ∧ Hid (∀ j, j < k → sb xs j = sb ys j ∧ st xs j = st ys j) ∧ At wr g1 (plC (.slice (some ⟨G1, 0, none⟩) n n) b o) T3 ∧ At wr g2 (plC (.slice (some ⟨G2, 0, none⟩) n n) b' o') T4 ∧ At wr G1 (slC xs) T1 ∧ At wr G2 (slC ys) T2 ∧ Hid (Below w.heap.size w wr)) (fun i _ => n - (intOf i).toNat)
    case atStart => exact ⟨0, by omega, rfl, Lib.hid (fun j hj => by omega), X3, X4, A3, A4, B1⟩
    case round =>
      clear X3 X4 A3 A4 B1
      obtain ⟨k, hk, rfl, hall, X1, X2, A1, A2, B1⟩ := hrel
      have c1 : wr.cell? ⟨g1, 0, none⟩ = some (.slice (some ⟨G1, 0, none⟩) n n) := X1.cell (plC_0 _ _ _)
      by_cases hlt : k < n
      · have s2 : IntKind.i64.wrap ((k : Int) + 1) = (k : Int) + 1 := IntWalk.i64_in _ (by omega)
        have kd : (k : Int) < (n : Int) := by omega
        have hkx : k < xs.length := by rw [← HN.out.1]; exact hlt
        have hky : k < ys.length := by rw [← HN.out.2]; exact hlt
        have bx := (HX.out.1.at hkx).1
        have by_ := (HX.out.2.at hky).1
        have SS1 := slC_size HX.out.1
        have SS2 := slC_size HX.out.2
        have hle1 : k * 9 + 9 ≤ (slC xs).size := by rw [SS1]; omega
        have hle2 : k * 9 + 9 ≤ (slC ys).size := by rw [SS2]; omega
        have hsl1 := slC_slot HX.out.1 hkx (k := k * 9) rfl
        have hsl2 := slC_slot HX.out.2 hky (k := k * 9) rfl
        have hneq := fun W => run_neq_slot W (sb xs k) (sb ys k) (st xs k) (st ys k) bx by_
        clear SS1 SS2
        have hC := Cb.const wr
        by_cases he : sb xs k = sb ys k ∧ st xs k = st ys k
        · simp only [decide_eq_true he, Bool.not_true] at hneq
          have HE := Lib.hid he
          clear he
          go_wp2
          refine wp_region_cb (by kernel_rfl) (by kernel_rfl) ?_
          repeat (first
            | go_big_quiet_skip
            | (go_big_quiet_want; first
              | (refine q_one 59 _ rfl _ Try.underlying59 rfl 0 rfl X1 _ (plC_0 _ _ _) ?_; go_simp; go_big_quiet_on)
              | (refine q_one 59 _ rfl _ Try.underlying59 rfl 0 rfl X2 _ (plC_0 _ _ _) ?_; go_simp; go_big_quiet_on)
              | (refine q_part 101 _ rfl (k * 9) rfl A1 9 hle1 _ Try.underlying101 rfl (by kernel_rfl) (sl1 (sb xs k) (st xs k)) hsl1 ?_; go_simp; go_big_quiet_on)
              | (refine q_part 101 _ rfl (k * 9) rfl A2 9 hle2 _ Try.underlying101 rfl (by kernel_rfl) (sl1 (sb ys k) (st ys k)) hsl2 ?_; go_simp; go_big_quiet_on)
              | (refine q_neq 101 _ _ rfl (sl1 (sb xs k) (st xs k)) (sl1 (sb ys k) (st ys k)) rfl rfl (by kernel_rfl) _ hneq ?_; go_simp; go_big_quiet_on)
              | (go_big_quiet_op; go_big_quiet_on)))
          refine wpQuiet_nil ?_
          intro w2 hw2
          have X3 := X1.step hw2
          have X4 := X2.step hw2
          have A3 := A1.step hw2
          have A4 := A2.step hw2
          have B2 := Lib.hid (bthen B1.out hw2)
          clear A1 A2 B1 hw2 hC X1 X2 c1
          go_wp2
          exact ⟨⟨k + 1, by omega, by go_num, Lib.hid (fun j hj => by
            by_cases c : j = k
            · subst c; exact HE.out
            · exact hall.out j (by omega)), X3, X4, A3, A4, B2⟩, by simp [intOf]; omega⟩
        · simp only [decide_eq_false he, Bool.not_false] at hneq
          have hno : vSame xs ys b o b' o' = false := by unfold vSame; rw [decide_eq_false (fun e => he (by rw [e]; exact ⟨rfl, rfl⟩) : ¬ xs = ys)]; simp
          go_wp2
          refine wp_region_cb (by kernel_rfl) (by kernel_rfl) ?_
          repeat (first
            | go_big_quiet_skip
            | (go_big_quiet_want; first
              | (refine q_one 59 _ rfl _ Try.underlying59 rfl 0 rfl X1 _ (plC_0 _ _ _) ?_; go_simp; go_big_quiet_on)
              | (refine q_one 59 _ rfl _ Try.underlying59 rfl 0 rfl X2 _ (plC_0 _ _ _) ?_; go_simp; go_big_quiet_on)
              | (refine q_part 101 _ rfl (k * 9) rfl A1 9 hle1 _ Try.underlying101 rfl (by kernel_rfl) (sl1 (sb xs k) (st xs k)) hsl1 ?_; go_simp; go_big_quiet_on)
              | (refine q_part 101 _ rfl (k * 9) rfl A2 9 hle2 _ Try.underlying101 rfl (by kernel_rfl) (sl1 (sb ys k) (st ys k)) hsl2 ?_; go_simp; go_big_quiet_on)
              | (refine q_neq 101 _ _ rfl (sl1 (sb xs k) (st xs k)) (sl1 (sb ys k) (st ys k)) rfl rfl (by kernel_rfl) _ hneq ?_; go_simp; go_big_quiet_on)
              | (go_big_quiet_op; go_big_quiet_on)))
          refine wpQuiet_nil ?_
          intro w2 hw2
          go_wp2
          go_ret
          exact ⟨by rw [hno]; rfl, bthen B1.out hw2⟩
      · obtain rfl : n = k := by omega
        have hyes : decide (xs = ys) = true := decide_eq_true (slots_ext (HN.out.1.symm.trans HN.out.2) (fun j hj => hall.out j (by rw [HN.out.1]; exact hj)))
        have c11 : wr.cell? ⟨g1, 1, none⟩ = some (.int .i64 b) := X1.cell (plC_1 _ _ _)
        have c12 : wr.cell? ⟨g1, 2, none⟩ = some (.int .i64 o) := X1.cell (plC_2 _ _ _)
        have c21 : wr.cell? ⟨g2, 1, none⟩ = some (.int .i64 b') := X2.cell (plC_1 _ _ _)
        have c22 : wr.cell? ⟨g2, 2, none⟩ = some (.int .i64 o') := X2.cell (plC_2 _ _ _)
        by_cases hb : b = b'
        · have ev : vSame xs ys b o b' o' = (o == o') := by
            unfold vSame; rw [decide_eq_true hb, hyes]
            by_cases c : o = o' <;> simp [c]
          subst hb
          generalize hoo : (o == o') = oo at ev
          go_wp2
          go_quiet (fail)
          go_wp2
          go_ret
          exact ⟨by rw [ev]; rfl, bdrew B1.out _⟩
        · have ev : vSame xs ys b o b' o' = false := by unfold vSame; rw [decide_eq_false hb]; rfl
          have hd : (b == b') = false := by simpa using hb
          go_wp2
          go_quiet (fail)
          go_wp2
          go_ret
          exact ⟨by rw [ev]; rfl, bdrew B1.out _⟩
  · have ev : vSame xs ys b o b' o' = false := by unfold vSame; rw [decide_eq_false (fun e => hl (by rw [e]) : ¬ xs = ys)]; simp
    generalize xs.length = n at hl X1
    generalize ys.length = m at hl X2
    have hne : ¬ (n : Int) = (m : Int) := by omega
    have c1 : w.cell? ⟨g1, 0, none⟩ = some (.slice (some ⟨G1, 0, none⟩) n n) := X1.cell (plC_0 _ _ _)
    have c2 : w.cell? ⟨g2, 0, none⟩ = some (.slice (some ⟨G2, 0, none⟩) m m) := X2.cell (plC_0 _ _ _)
    rw [ev]
    go_enter Try.func82, Try.ntmps82
    go_wp2
    go_quiet (fail)
    go_wp2
    go_ret
    exact ⟨rfl, bdrew B0.out _⟩
theorem sSamePlan_any (G1 G2 : Nat) (xs ys : Slots) (b o b' o' : Int) (hx : SlW xs) (hy : SlW ys) (h1 : xs.length ≤ 1048576) (T1 T2 : TypeId) (w : World) (A1 : At w G1 (slC xs) T1) (A2 : At w G2 (slC ys) T2) :
    Calls Try.prog 50 #[.agg (plC (.slice (some ⟨G1, 0, none⟩) xs.length xs.length) b o), .agg (plC (.slice (some ⟨G2, 0, none⟩) ys.length ys.length) b' o')] w fun e w' => e = .returned ((.bool (vSame xs ys b o b' o'))) ∧ Below w.heap.size w w' := by
  have X1 : At ((w.alloc (.cells (plC (.slice (some ⟨G1, 0, none⟩) xs.length xs.length) b o) 61)).alloc (.cells (plC (.slice (some ⟨G2, 0, none⟩) ys.length ys.length) b' o') 61)) w.heap.size (plC (.slice (some ⟨G1, 0, none⟩) xs.length xs.length) b o) 61 := (At.new w _ _).alloc _
  have X2 : At ((w.alloc (.cells (plC (.slice (some ⟨G1, 0, none⟩) xs.length xs.length) b o) 61)).alloc (.cells (plC (.slice (some ⟨G2, 0, none⟩) ys.length ys.length) b' o') 61)) (w.heap.size + 1) (plC (.slice (some ⟨G2, 0, none⟩) ys.length ys.length) b' o') 61 := At.last1 w _ _ _
  have KE := l04Same_any w.heap.size (w.heap.size + 1) 61 61 G1 G2 xs ys b o b' o' hx hy h1 T1 T2 ((w.alloc (.cells (plC (.slice (some ⟨G1, 0, none⟩) xs.length xs.length) b o) 61)).alloc (.cells (plC (.slice (some ⟨G2, 0, none⟩) ys.length ys.length) b' o') 61)) X1 X2 ((A1.alloc _).alloc _) ((A2.alloc _).alloc _)
  go_enter Try.func50, Try.ntmps50
  go_wp2_with fail
  refine KE.mono ?_
  rintro e w1 ⟨rfl, hb1⟩
  go_wp2_with fail
  go_ret
  exact ⟨rfl, bthen (bnew (b0 _ _) _) hb1⟩

end Go.Proofs.Ytkhnhbmnmciiaaa
