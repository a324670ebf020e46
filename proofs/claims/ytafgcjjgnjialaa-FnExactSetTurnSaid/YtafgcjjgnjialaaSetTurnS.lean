/-
  CONTRACTS: SetTurn, the model's.
-/
import Derived.Test.YtafgcjjgnjialaaSetTurn
namespace Go.Proofs.Ytafgcjjgnjialaa
open Go Go.RowKit
set_option maxRecDepth 100000

theorem hx_mul {P : Program} {o : Oper} {a : Act} {w w' : World} {v : Value} (ty : TypeId) (x y : Operand) {T : TypeId} (ho : o.op = .binOp .mul ty x y T) (v1 v2 : Value) (h1 : a.eval x = v1) (h2 : a.eval y = v2) (hrun : (binOp .mul ty v1 v2).run P w = .ok v w') : (execOp a.eval o).run P w = .ok (.value v) w' := by
  have hg : eqGuard .mul ty x y v1 v2 = pure () := rfl
  unfold execOp
  simp only [ho, h1, h2, hg, Sem.run_bind, hrun, Sem.run_pure, Result.andThen_ok]
theorem hx_quo {P : Program} {o : Oper} {a : Act} {w w' : World} {v : Value} (ty : TypeId) (x y : Operand) {T : TypeId} (ho : o.op = .binOp .quo ty x y T) (v1 v2 : Value) (h1 : a.eval x = v1) (h2 : a.eval y = v2) (hrun : (binOp .quo ty v1 v2).run P w = .ok v w') : (execOp a.eval o).run P w = .ok (.value v) w' := by
  have hg : eqGuard .quo ty x y v1 v2 = pure () := rfl
  unfold execOp
  simp only [ho, h1, h2, hg, Sem.run_bind, hrun, Sem.run_pure, Result.andThen_ok]
theorem hx_conv {P : Program} {o : Oper} {a : Act} {w w' : World} {v : Value} (s t : TypeId) (x : Operand) (ho : o.op = .convert s t x) (v1 : Value) (h1 : a.eval x = v1) (hrun : (convert s t v1).run P w = .ok v w') : (execOp a.eval o).run P w = .ok (.value v) w' := by
  unfold execOp
  simp only [ho, h1, Sem.run_bind, hrun, Sem.run_pure, Result.andThen_ok]
/-- turns of which the first j of in q are set -/
def TurnR (c m x : Nat) (ts : List Nat) (q j : Nat) (tn : List Nat) : Prop := tn.length = 16 ∧ (∀ a, a < j → Agr (nth tn (4 * q + a)) (tgC c m x (row4 ts q) a)) ∧ ∀ p, p < 16 → (p / 4 ≠ q ∨ j ≤ p % 4) → nth tn p = nth ts p
theorem TurnR.put {c m x q j v : Nat} {ts tn : List Nat} (h : TurnR c m x ts q j tn) (hq : q < 4) (_hm : m < c) (hj : j < 4) (hv : Agr v (tgC c m x (row4 ts q) j)) : TurnR c m x ts q (j + 1) (tn.set (4 * q + j) v) := by
  have hl := h.1
  refine ⟨by simp [hl], fun a ha => ?_, fun p hp hh => ?_⟩ <;> rw [nth_put (by omega)]
  · by_cases e : a = j
    · subst e; rw [if_pos rfl]; exact hv
    · rw [if_neg (by omega)]; exact h.2.1 a (by omega)
  · rw [if_neg (by omega)]; exact h.2.2 p hp (by omega)
theorem TurnR.agr {c m x q : Nat} {ts tn : List Nat} (h : TurnR c m x ts q c tn) (hct : ∀ x ∈ ts, x < 4294967296) : AgrL tn (tgT c q m x ts) := by
  refine ⟨h.1, tgT_len _ _ _ _ _, fun p hp => ?_⟩
  rw [tgT_nth _ _ _ _ _ hp]
  by_cases hh : p / 4 = q ∧ p % 4 < c
  · rw [if_pos hh]
    have := h.2.1 (p % 4) hh.2
    rwa [show 4 * q + p % 4 = p from by omega] at this
  · rw [if_neg hh, h.2.2 p hp (by omega)]
    exact Agr.refl (u32_lt hct p)

set_option maxHeartbeats 4000000 in
theorem sSetTurn_b (i o : Int) (ts ps : List Nat) (hi : -9223372036854775808 ≤ i ∧ i ≤ 9223372036854775807) (ho : -9223372036854775808 ≤ o ∧ o ≤ 9223372036854775807) (hlt : ts.length = 16) (hlp : ps.length = 4) (hct : ∀ x ∈ ts, x < 4294967296) (hcp : ∀ x ∈ ps, x < 4294967296) (k : Int) (hk : -9223372036854775808 ≤ k ∧ k ≤ 9223372036854775807) (n : Int) (hn : -9223372036854775808 ≤ n ∧ n ≤ 9223372036854775807) (x : Nat) (hx : x < 4294967296) (w : World) :
    Calls Try.prog 15 #[.agg (jn i o ts ps), .int .i64 k, .int .i64 n, .float .f32 x] w fun e w' => e = .returned (.tuple #[.agg (jn (vSetTurn i o ts ps k n x).1 (vSetTurn i o ts ps k n x).2.1 (vSetTurn i o ts ps k n x).2.2.1 (vSetTurn i o ts ps k n x).2.2.2.1), .int .i64 (vSetTurn i o ts ps k n x).2.2.2.2]) ∧ Below w.heap.size w w' := by
  have A0 : At ((w.alloc (.cells (jn i o ts ps) 30)).alloc (.cells (#[.int .i64 0, .int .i64 0, .float .f32 0, .float .f32 0, .float .f32 0, .float .f32 0, .float .f32 0, .float .f32 0, .float .f32 0, .float .f32 0, .float .f32 0, .float .f32 0, .float .f32 0, .float .f32 0, .float .f32 0, .float .f32 0, .float .f32 0, .float .f32 0, .float .f32 0, .float .f32 0, .float .f32 0, .float .f32 0]) 30)) w.heap.size (jn i o ts ps) 30 := (At.new w _ _).alloc _
  have R0 : At ((w.alloc (.cells (jn i o ts ps) 30)).alloc (.cells (#[.int .i64 0, .int .i64 0, .float .f32 0, .float .f32 0, .float .f32 0, .float .f32 0, .float .f32 0, .float .f32 0, .float .f32 0, .float .f32 0, .float .f32 0, .float .f32 0, .float .f32 0, .float .f32 0, .float .f32 0, .float .f32 0, .float .f32 0, .float .f32 0, .float .f32 0, .float .f32 0, .float .f32 0, .float .f32 0]) 30)) (w.heap.size + 1) (#[.int .i64 0, .int .i64 0, .float .f32 0, .float .f32 0, .float .f32 0, .float .f32 0, .float .f32 0, .float .f32 0, .float .f32 0, .float .f32 0, .float .f32 0, .float .f32 0, .float .f32 0, .float .f32 0, .float .f32 0, .float .f32 0, .float .f32 0, .float .f32 0, .float .f32 0, .float .f32 0, .float .f32 0, .float .f32 0]) 30 := At.last1 w _ _ _
  have B0 := Lib.hid (bnew (b0 w (.cells (jn i o ts ps) 30)) (.cells (#[.int .i64 0, .int .i64 0, .float .f32 0, .float .f32 0, .float .f32 0, .float .f32 0, .float .f32 0, .float .f32 0, .float .f32 0, .float .f32 0, .float .f32 0, .float .f32 0, .float .f32 0, .float .f32 0, .float .f32 0, .float .f32 0, .float .f32 0, .float .f32 0, .float .f32 0, .float .f32 0, .float .f32 0, .float .f32 0]) 30))
  have SZ := jn_size hlt hlp i o
  cases h : okJ i o ts ps
  · have ev : (vSetTurn i o ts ps k n x) = (0, 0, zeros 16, zeros 4, 1) := by unfold vSetTurn; rw [h]; rfl
    rw [ev]
    clear ev
    go_enter Try.func15, Try.ntmps15
    go_wp2_with fail
    refine (l03Ok_b _ i o ts ps hi ho hlt hlp hct hcp _ _ A0).mono ?_
    rw [h]
    rintro e w1 ⟨rfl, n1, rfl⟩
    have A1 := A0.drewN n1
    have R1 := R0.drewN n1
    have B1 := Lib.hid (bdrew B0.out n1)
    generalize hw1 : World.drewN _ _ = w1 at A1 R1 B1 ⊢
    clear A0 R0 B0 hw1
    have R9 := R1.setRow (#[.int .i64 0, .int .i64 0, .float .f32 0, .float .f32 0, .float .f32 0, .float .f32 0, .float .f32 0, .float .f32 0, .float .f32 0, .float .f32 0, .float .f32 0, .float .f32 0, .float .f32 0, .float .f32 0, .float .f32 0, .float .f32 0, .float .f32 0, .float .f32 0, .float .f32 0, .float .f32 0, .float .f32 0, .float .f32 0])
    have B9 := Lib.hid (bset B1.out (g := w.heap.size + 1) (by omega) (#[.int .i64 0, .int .i64 0, .float .f32 0, .float .f32 0, .float .f32 0, .float .f32 0, .float .f32 0, .float .f32 0, .float .f32 0, .float .f32 0, .float .f32 0, .float .f32 0, .float .f32 0, .float .f32 0, .float .f32 0, .float .f32 0, .float .f32 0, .float .f32 0, .float .f32 0, .float .f32 0, .float .f32 0, .float .f32 0]))
    go_wp2_with (((with_reducible refine is_store 30 (.tmp 8) (.tmp 15) rfl ?_); refine wpList_store_at rfl 30 (.tmp 8) (.tmp 15) rfl _ rfl (#[.int .i64 0, .int .i64 0, .float .f32 0, .float .f32 0, .float .f32 0, .float .f32 0, .float .f32 0, .float .f32 0, .float .f32 0, .float .f32 0, .float .f32 0, .float .f32 0, .float .f32 0, .float .f32 0, .float .f32 0, .float .f32 0, .float .f32 0, .float .f32 0, .float .f32 0, .float .f32 0, .float .f32 0, .float .f32 0]) rfl (#[.int .i64 0, .int .i64 0, .float .f32 0, .float .f32 0, .float .f32 0, .float .f32 0, .float .f32 0, .float .f32 0, .float .f32 0, .float .f32 0, .float .f32 0, .float .f32 0, .float .f32 0, .float .f32 0, .float .f32 0, .float .f32 0, .float .f32 0, .float .f32 0, .float .f32 0, .float .f32 0, .float .f32 0, .float .f32 0]) _ (by assumption) 22 ((by rw [zlit]; exact jn_size (zeros_len 16) (zeros_len 4) _ _)) ((by rw [zlit]; exact jn_size (zeros_len 16) (zeros_len 4) _ _)) (by kernel_rfl) ((by rw [zlit]; exact jn_one _ _ _ _)) ?_))
    rw [← zlit]
    exact bodyPost_ret (v := .tuple #[.agg (#[.int .i64 0, .int .i64 0, .float .f32 0, .float .f32 0, .float .f32 0, .float .f32 0, .float .f32 0, .float .f32 0, .float .f32 0, .float .f32 0, .float .f32 0, .float .f32 0, .float .f32 0, .float .f32 0, .float .f32 0, .float .f32 0, .float .f32 0, .float .f32 0, .float .f32 0, .float .f32 0, .float .f32 0, .float .f32 0]), .int .i64 1]) (results_at_tmp (p := 8) (ty := 30) rfl _ _ _ (#[.int .i64 0, .int .i64 0, .float .f32 0, .float .f32 0, .float .f32 0, .float .f32 0, .float .f32 0, .float .f32 0, .float .f32 0, .float .f32 0, .float .f32 0, .float .f32 0, .float .f32 0, .float .f32 0, .float .f32 0, .float .f32 0, .float .f32 0, .float .f32 0, .float .f32 0, .float .f32 0, .float .f32 0, .float .f32 0]) _ (.int .i64 1) rfl rfl R9 _ Try.underlying30 rfl 22 ((by rw [zlit]; exact jn_size (zeros_len 16) (zeros_len 4) _ _)) (by kernel_rfl)) rfl ⟨rfl, B9.out⟩
  have hb := okJ_arms h
  have hs1 : IntKind.i64.wrap (i - 1) = i - 1 := IntWalk.i64_in _ (by omega)
  have hs2 : IntKind.i64.wrap (o - 1) = o - 1 := IntWalk.i64_in _ (by omega)
  by_cases hki : 0 ≤ k ∧ k < i
  · obtain ⟨q, rfl⟩ := Int.eq_ofNat_of_zero_le hki.1
    have hq : q < 4 := by omega
    have hin' : decide (0 ≤ (q : Int) ∧ (q : Int) < i) = true := decide_eq_true (by omega)
    have hin : inB 0 (i - 1) (q : Int) = true := decide_eq_true (by omega)
    by_cases hno : 0 ≤ n ∧ n < o
    · obtain ⟨m, rfl⟩ := Int.eq_ofNat_of_zero_le hno.1
      obtain ⟨c, rfl⟩ := Int.eq_ofNat_of_zero_le (show 0 ≤ o by omega)
      have hm : m < c := by omega
      have hc : 1 ≤ c ∧ c ≤ 4 := by omega
      have hon' : decide (0 ≤ (m : Int) ∧ (m : Int) < (c : Int)) = true := decide_eq_true (by omega)
      have hon : inB 0 ((c : Int) - 1) (m : Int) = true := decide_eq_true (by omega)
      clear hki hno hb
      cases hshr : shrB x
      · have hst : shareTurn (c : Int) x = false := by unfold shareTurn; rw [hshr]; rfl
        have ev : (vSetTurn i c ts ps q m x) = (0, 0, zeros 16, zeros 4, 2) := by unfold vSetTurn; rw [h, hin', hon', hst]; rfl
        rw [ev]
        clear ev
        go_enter Try.func15, Try.ntmps15
        go_wp2_with fail
        refine (l03Ok_b _ i c ts ps hi ho hlt hlp hct hcp _ _ A0).mono ?_
        rw [h]
        rintro e w1 ⟨rfl, n1, rfl⟩
        have A1 := A0.drewN n1
        have R1 := R0.drewN n1
        have B1 := Lib.hid (bdrew B0.out n1)
        generalize hw1 : World.drewN _ _ = w1 at A1 R1 B1 ⊢
        clear A0 R0 B0 hw1
        go_wp2_with (((with_reducible refine is_load 2 _ rfl ?_); refine wpList_load_cell rfl 2 _ rfl _ 0 rfl (jn i c ts ps) _ A1 _ Try.underlying2 rfl (.int .i64 i) (jn_ins i c ts ps) ?_))
        refine (l00In_b q 0 (i - 1) _).mono ?_
        rw [hin]
        rintro e w2 ⟨rfl, n2, rfl⟩
        have A2 := A1.drewN n2
        have R2 := R1.drewN n2
        have B2 := Lib.hid (bdrew B1.out n2)
        generalize hw2 : World.drewN _ _ = w2 at A2 R2 B2 ⊢
        clear A1 R1 B1 hw2
        go_wp2_with (((with_reducible refine is_load 2 _ rfl ?_); refine wpList_load_cell_g rfl 2 _ rfl _ 1 rfl (jn i c ts ps) _ A2 _ Try.underlying2 rfl (.int .i64 (c : Int)) (jn_outs i c ts ps) ?_))
        refine (l00In_b m 0 ((c : Int) - 1) _).mono ?_
        rw [hon]
        rintro e w3 ⟨rfl, n3, rfl⟩
        have A3 := A2.drewN n3
        have R3 := R2.drewN n3
        have B3 := Lib.hid (bdrew B2.out n3)
        generalize hw3 : World.drewN _ _ = w3 at A3 R3 B3 ⊢
        clear A2 R2 B2 hw3
        go_wp2_with fail
        refine (l01Share_any x hx _).mono ?_
        rw [hshr]
        rintro e w4 ⟨rfl, n4, rfl⟩
        have A4 := A3.drewN n4
        have R4 := R3.drewN n4
        have B4 := Lib.hid (bdrew B3.out n4)
        generalize hw4 : World.drewN _ _ = w4 at A4 R4 B4 ⊢
        clear A3 R3 B3 hw4
        have R9 := R4.setRow (#[.int .i64 0, .int .i64 0, .float .f32 0, .float .f32 0, .float .f32 0, .float .f32 0, .float .f32 0, .float .f32 0, .float .f32 0, .float .f32 0, .float .f32 0, .float .f32 0, .float .f32 0, .float .f32 0, .float .f32 0, .float .f32 0, .float .f32 0, .float .f32 0, .float .f32 0, .float .f32 0, .float .f32 0, .float .f32 0])
        have B9 := Lib.hid (bset B4.out (g := w.heap.size + 1) (by omega) (#[.int .i64 0, .int .i64 0, .float .f32 0, .float .f32 0, .float .f32 0, .float .f32 0, .float .f32 0, .float .f32 0, .float .f32 0, .float .f32 0, .float .f32 0, .float .f32 0, .float .f32 0, .float .f32 0, .float .f32 0, .float .f32 0, .float .f32 0, .float .f32 0, .float .f32 0, .float .f32 0, .float .f32 0, .float .f32 0]))
        go_wp2_with (((with_reducible refine is_store 30 (.tmp 8) (.tmp 44) rfl ?_); refine wpList_store_at rfl 30 (.tmp 8) (.tmp 44) rfl _ rfl (#[.int .i64 0, .int .i64 0, .float .f32 0, .float .f32 0, .float .f32 0, .float .f32 0, .float .f32 0, .float .f32 0, .float .f32 0, .float .f32 0, .float .f32 0, .float .f32 0, .float .f32 0, .float .f32 0, .float .f32 0, .float .f32 0, .float .f32 0, .float .f32 0, .float .f32 0, .float .f32 0, .float .f32 0, .float .f32 0]) rfl (#[.int .i64 0, .int .i64 0, .float .f32 0, .float .f32 0, .float .f32 0, .float .f32 0, .float .f32 0, .float .f32 0, .float .f32 0, .float .f32 0, .float .f32 0, .float .f32 0, .float .f32 0, .float .f32 0, .float .f32 0, .float .f32 0, .float .f32 0, .float .f32 0, .float .f32 0, .float .f32 0, .float .f32 0, .float .f32 0]) _ (by assumption) 22 ((by rw [zlit]; exact jn_size (zeros_len 16) (zeros_len 4) _ _)) ((by rw [zlit]; exact jn_size (zeros_len 16) (zeros_len 4) _ _)) (by kernel_rfl) ((by rw [zlit]; exact jn_one _ _ _ _)) ?_))
        rw [← zlit]
        exact bodyPost_ret (v := .tuple #[.agg (#[.int .i64 0, .int .i64 0, .float .f32 0, .float .f32 0, .float .f32 0, .float .f32 0, .float .f32 0, .float .f32 0, .float .f32 0, .float .f32 0, .float .f32 0, .float .f32 0, .float .f32 0, .float .f32 0, .float .f32 0, .float .f32 0, .float .f32 0, .float .f32 0, .float .f32 0, .float .f32 0, .float .f32 0, .float .f32 0]), .int .i64 2]) (results_at_tmp (p := 8) (ty := 30) rfl _ _ _ (#[.int .i64 0, .int .i64 0, .float .f32 0, .float .f32 0, .float .f32 0, .float .f32 0, .float .f32 0, .float .f32 0, .float .f32 0, .float .f32 0, .float .f32 0, .float .f32 0, .float .f32 0, .float .f32 0, .float .f32 0, .float .f32 0, .float .f32 0, .float .f32 0, .float .f32 0, .float .f32 0, .float .f32 0, .float .f32 0]) _ (.int .i64 2) rfl rfl R9 _ Try.underlying30 rfl 22 ((by rw [zlit]; exact jn_size (zeros_len 16) (zeros_len 4) _ _)) (by kernel_rfl)) rfl ⟨rfl, B9.out⟩
      have hx1 : x ≤ 1065353216 := by unfold shrB at hshr; simpa using hshr
      cases hst : shareTurn (c : Int) x
      · have hcx : c = 1 ∧ x ≠ 1065353216 := by unfold shareTurn at hst; rw [hshr] at hst; simp at hst; omega
        have oc' : ((c : Int) == 1) = true := by simp; omega
        have nx : (FloatKind.f32.format.order x 1065353216 != some .eq) = true := by rw [ne_amt (by omega) (by omega), decide_eq_false hcx.2]; rfl
        clear hcx
        have ev : (vSetTurn i c ts ps q m x) = (0, 0, zeros 16, zeros 4, 2) := by unfold vSetTurn; rw [h, hin', hon', hst]; rfl
        rw [ev]
        clear ev
        go_enter Try.func15, Try.ntmps15
        go_wp2_with fail
        refine (l03Ok_b _ i c ts ps hi ho hlt hlp hct hcp _ _ A0).mono ?_
        rw [h]
        rintro e w1 ⟨rfl, n1, rfl⟩
        have A1 := A0.drewN n1
        have R1 := R0.drewN n1
        have B1 := Lib.hid (bdrew B0.out n1)
        generalize hw1 : World.drewN _ _ = w1 at A1 R1 B1 ⊢
        clear A0 R0 B0 hw1
        go_wp2_with (((with_reducible refine is_load 2 _ rfl ?_); refine wpList_load_cell rfl 2 _ rfl _ 0 rfl (jn i c ts ps) _ A1 _ Try.underlying2 rfl (.int .i64 i) (jn_ins i c ts ps) ?_))
        refine (l00In_b q 0 (i - 1) _).mono ?_
        rw [hin]
        rintro e w2 ⟨rfl, n2, rfl⟩
        have A2 := A1.drewN n2
        have R2 := R1.drewN n2
        have B2 := Lib.hid (bdrew B1.out n2)
        generalize hw2 : World.drewN _ _ = w2 at A2 R2 B2 ⊢
        clear A1 R1 B1 hw2
        go_wp2_with (((with_reducible refine is_load 2 _ rfl ?_); refine wpList_load_cell_g rfl 2 _ rfl _ 1 rfl (jn i c ts ps) _ A2 _ Try.underlying2 rfl (.int .i64 (c : Int)) (jn_outs i c ts ps) ?_))
        refine (l00In_b m 0 ((c : Int) - 1) _).mono ?_
        rw [hon]
        rintro e w3 ⟨rfl, n3, rfl⟩
        have A3 := A2.drewN n3
        have R3 := R2.drewN n3
        have B3 := Lib.hid (bdrew B2.out n3)
        generalize hw3 : World.drewN _ _ = w3 at A3 R3 B3 ⊢
        clear A2 R2 B2 hw3
        go_wp2_with fail
        refine (l01Share_any x hx _).mono ?_
        rw [hshr]
        rintro e w4 ⟨rfl, n4, rfl⟩
        have A4 := A3.drewN n4
        have R4 := R3.drewN n4
        have B4 := Lib.hid (bdrew B3.out n4)
        generalize hw4 : World.drewN _ _ = w4 at A4 R4 B4 ⊢
        clear A3 R3 B3 hw4
        have R9 := R4.setRow (#[.int .i64 0, .int .i64 0, .float .f32 0, .float .f32 0, .float .f32 0, .float .f32 0, .float .f32 0, .float .f32 0, .float .f32 0, .float .f32 0, .float .f32 0, .float .f32 0, .float .f32 0, .float .f32 0, .float .f32 0, .float .f32 0, .float .f32 0, .float .f32 0, .float .f32 0, .float .f32 0, .float .f32 0, .float .f32 0])
        have B9 := Lib.hid (bset B4.out (g := w.heap.size + 1) (by omega) (#[.int .i64 0, .int .i64 0, .float .f32 0, .float .f32 0, .float .f32 0, .float .f32 0, .float .f32 0, .float .f32 0, .float .f32 0, .float .f32 0, .float .f32 0, .float .f32 0, .float .f32 0, .float .f32 0, .float .f32 0, .float .f32 0, .float .f32 0, .float .f32 0, .float .f32 0, .float .f32 0, .float .f32 0, .float .f32 0]))
        go_wp2_with (first | ((with_reducible refine is_load 2 _ rfl ?_); refine wpList_load_cell_g rfl 2 _ rfl _ 1 rfl (jn i c ts ps) _ A4 _ Try.underlying2 rfl (.int .i64 (c : Int)) (jn_outs i c ts ps) ?_) | ((with_reducible refine is_store 30 (.tmp 8) (.tmp 44) rfl ?_); refine wpList_store_at rfl 30 (.tmp 8) (.tmp 44) rfl _ rfl (#[.int .i64 0, .int .i64 0, .float .f32 0, .float .f32 0, .float .f32 0, .float .f32 0, .float .f32 0, .float .f32 0, .float .f32 0, .float .f32 0, .float .f32 0, .float .f32 0, .float .f32 0, .float .f32 0, .float .f32 0, .float .f32 0, .float .f32 0, .float .f32 0, .float .f32 0, .float .f32 0, .float .f32 0, .float .f32 0]) rfl (#[.int .i64 0, .int .i64 0, .float .f32 0, .float .f32 0, .float .f32 0, .float .f32 0, .float .f32 0, .float .f32 0, .float .f32 0, .float .f32 0, .float .f32 0, .float .f32 0, .float .f32 0, .float .f32 0, .float .f32 0, .float .f32 0, .float .f32 0, .float .f32 0, .float .f32 0, .float .f32 0, .float .f32 0, .float .f32 0]) _ (by assumption) 22 ((by rw [zlit]; exact jn_size (zeros_len 16) (zeros_len 4) _ _)) ((by rw [zlit]; exact jn_size (zeros_len 16) (zeros_len 4) _ _)) (by kernel_rfl) ((by rw [zlit]; exact jn_one _ _ _ _)) ?_))
        rw [← zlit]
        exact bodyPost_ret (v := .tuple #[.agg (#[.int .i64 0, .int .i64 0, .float .f32 0, .float .f32 0, .float .f32 0, .float .f32 0, .float .f32 0, .float .f32 0, .float .f32 0, .float .f32 0, .float .f32 0, .float .f32 0, .float .f32 0, .float .f32 0, .float .f32 0, .float .f32 0, .float .f32 0, .float .f32 0, .float .f32 0, .float .f32 0, .float .f32 0, .float .f32 0]), .int .i64 2]) (results_at_tmp (p := 8) (ty := 30) rfl _ _ _ (#[.int .i64 0, .int .i64 0, .float .f32 0, .float .f32 0, .float .f32 0, .float .f32 0, .float .f32 0, .float .f32 0, .float .f32 0, .float .f32 0, .float .f32 0, .float .f32 0, .float .f32 0, .float .f32 0, .float .f32 0, .float .f32 0, .float .f32 0, .float .f32 0, .float .f32 0, .float .f32 0, .float .f32 0, .float .f32 0]) _ (.int .i64 2) rfl rfl R9 _ Try.underlying30 rfl 22 ((by rw [zlit]; exact jn_size (zeros_len 16) (zeros_len 4) _ _)) (by kernel_rfl)) rfl ⟨rfl, B9.out⟩
      have hcond : (decide (0 ≤ (q : Int) ∧ (q : Int) < i) && decide (0 ≤ (m : Int) ∧ (m : Int) < (c : Int)) && shareTurn (c : Int) x) = true := by rw [hin', hon', hst]; rfl
      have hrow := okJ_rowTo hlt h hq
      have HL := Lib.hid (lessT_le (row4_len hlt hq) hrow.1 (n := m) (by omega))
      have HZ : Hid (nth (lessT (row4 ts q) m) m = 0 ∧ ∀ k, c ≤ k → k < 4 → nth (lessT (row4 ts q) m) k = 0) := Lib.hid ⟨by rw [lessT_nth (row4_len hlt hq) (by omega), if_pos rfl], fun k h1 h2 => by rw [lessT_nth (row4_len hlt hq) (by omega)]; split; rfl; exact hrow.2 k (by omega) h2⟩
      have hoth : othT (row4 ts q) m < 2139095040 := sumZ_fin HL.out 4 (by omega)
      have hsub : ∀ t w, (binOp .sub t (.float .f32 1065353216) (.float .f32 x)).run Try.prog w = .ok (.float .f32 (subB 1065353216 x)) w := fun t w => run_float_arith w .sub t .f32 _ _ _ (one_sub hx1).1
      clear hrow
      by_cases hc1 : c = 1
      · have hx2 : x = 1065353216 := by unfold shareTurn at hst; rw [hshr] at hst; simp at hst; omega
        have oc' : ((c : Int) == 1) = true := by simp; omega
        have nx : (FloatKind.f32.format.order x 1065353216 != some .eq) = false := by rw [ne_amt (by omega) (by omega), decide_eq_true hx2]; rfl
        clear hc1 hx2
        go_enter Try.func15, Try.ntmps15
        go_wp2_with fail
        refine (l03Ok_b _ i c ts ps hi ho hlt hlp hct hcp _ _ A0).mono ?_
        rw [h]
        rintro e w1 ⟨rfl, n1, rfl⟩
        have A1 := A0.drewN n1
        have R1 := R0.drewN n1
        have B1 := Lib.hid (bdrew B0.out n1)
        generalize hw1 : World.drewN _ _ = w1 at A1 R1 B1 ⊢
        clear A0 R0 B0 hw1
        go_wp2_with (((with_reducible refine is_load 2 _ rfl ?_); refine wpList_load_cell rfl 2 _ rfl _ 0 rfl (jn i c ts ps) _ A1 _ Try.underlying2 rfl (.int .i64 i) (jn_ins i c ts ps) ?_))
        refine (l00In_b q 0 (i - 1) _).mono ?_
        rw [hin]
        rintro e w2 ⟨rfl, n2, rfl⟩
        have A2 := A1.drewN n2
        have R2 := R1.drewN n2
        have B2 := Lib.hid (bdrew B1.out n2)
        generalize hw2 : World.drewN _ _ = w2 at A2 R2 B2 ⊢
        clear A1 R1 B1 hw2
        go_wp2_with (((with_reducible refine is_load 2 _ rfl ?_); refine wpList_load_cell_g rfl 2 _ rfl _ 1 rfl (jn i c ts ps) _ A2 _ Try.underlying2 rfl (.int .i64 (c : Int)) (jn_outs i c ts ps) ?_))
        refine (l00In_b m 0 ((c : Int) - 1) _).mono ?_
        rw [hon]
        rintro e w3 ⟨rfl, n3, rfl⟩
        have A3 := A2.drewN n3
        have R3 := R2.drewN n3
        have B3 := Lib.hid (bdrew B2.out n3)
        generalize hw3 : World.drewN _ _ = w3 at A3 R3 B3 ⊢
        clear A2 R2 B2 hw3
        go_wp2_with fail
        refine (l01Share_any x hx _).mono ?_
        rw [hshr]
        rintro e w4 ⟨rfl, n4, rfl⟩
        have A4 := A3.drewN n4
        have R4 := R3.drewN n4
        have B4 := Lib.hid (bdrew B3.out n4)
        generalize hw4 : World.drewN _ _ = w4 at A4 R4 B4 ⊢
        clear A3 R3 B3 hw4
        go_wp2_with (first | ((with_reducible refine is_load 2 _ rfl ?_); refine wpList_load_cell_g rfl 2 _ rfl _ 1 rfl (jn i c ts ps) _ A4 _ Try.underlying2 rfl (.int .i64 (c : Int)) (jn_outs i c ts ps) ?_) | ((with_reducible refine is_load 2 _ rfl ?_); refine wpList_load_cell rfl 2 _ rfl _ 1 rfl (jn i c ts ps) _ A4 _ Try.underlying2 rfl (.int .i64 (c : Int)) (jn_outs i c ts ps) ?_))
        go_loopw [10, 11] (fun s kk wr => ∃ j : Nat, j ≤ c ∧ s = .float .f32 (sumZ (lessT (row4 ts q) m) j) ∧ kk = .int .i64 (j : Int) ∧ wr = w4) (fun _ kk _ => 4 - (intOf kk).toNat)
        case atStart => exact ⟨0, by omega, rfl, rfl, rfl⟩
        case round =>
          obtain ⟨j, hj, rfl, rfl, rfl⟩ := hrel
          by_cases hjc : j < c
          · have s2 : IntKind.i64.wrap ((j : Int) + 1) = (j : Int) + 1 := IntWalk.i64_in _ (by omega)
            have jd : decide ((j : Int) < (c : Int)) = true := decide_eq_true (by omega)
            have j4 : decide ((j : Int) < 4) = true := decide_eq_true (by omega)
            by_cases hjm : j = m
            · have cm : decide ((j : Int) = (m : Int)) = true := decide_eq_true (by omega)
              have cm' : ((j : Int) == (m : Int)) = true := by simp [hjm]
              have cn' : ((j : Int) != (m : Int)) = false := by simp [hjm]
              have hsk : Hid (sumZ (lessT (row4 ts q) m) (j + 1) = sumZ (lessT (row4 ts q) m) j) := Lib.hid (sumZ_skip HL.out (by omega) (by rw [hjm]; exact HZ.out.1))
              clear hjm
              go_wp2_with (((with_reducible refine is_load 2 _ rfl ?_); refine wpList_load_cell rfl 2 _ rfl _ 1 rfl (jn i c ts ps) _ A4 _ Try.underlying2 rfl (.int .i64 (c : Int)) (jn_outs i c ts ps) ?_))
              exact ⟨⟨j + 1, by omega, by rw [hsk.out], by go_num, trivial⟩, by simp [intOf]; omega⟩
            · have cm : decide ((j : Int) = (m : Int)) = false := decide_eq_false (by omega)
              have cm' : ((j : Int) == (m : Int)) = false := by simp; omega
              have cn' : ((j : Int) != (m : Int)) = true := by simp; omega
              have ad := sumZ_run HL.out j (by omega)
              rw [show nth (lessT (row4 ts q) m) j = nth ts (4 * q + j) from by rw [lessT_nth (row4_len hlt hq) (by omega), if_neg hjm, row4_nth hlt q (by omega)]] at ad
              have ha : ∀ t w, (binOp .add t (.float .f32 (sumZ (lessT (row4 ts q) m) j)) (.float .f32 (nth ts (4 * q + j)))).run Try.prog w = .ok (.float .f32 (sumZ (lessT (row4 ts q) m) (j + 1))) w := fun t w => run_float_arith w .add t .f32 _ _ _ ad
              clear ad hjm
              go_wp2_with (first | ((with_reducible refine is_load 2 _ rfl ?_); refine wpList_load_cell rfl 2 _ rfl _ 1 rfl (jn i c ts ps) _ A4 _ Try.underlying2 rfl (.int .i64 (c : Int)) (jn_outs i c ts ps) ?_) | ((with_reducible refine is_load 22 _ rfl ?_); refine wpList_load_cell rfl 22 _ rfl _ _ rfl (jn i c ts ps) _ A4 _ Try.underlying22 rfl (.float .f32 (nth ts (4 * q + j))) (jn_turn hlt hlp i c (k := 4 * q + j) (by omega) (by omega)) ?_))
              exact ⟨⟨j + 1, by omega, rfl, by go_num, trivial⟩, by simp [intOf]; omega⟩
          · obtain rfl : c = j := by omega
            have hso : sumZ (lessT (row4 ts q) m) c = othT (row4 ts q) m := by
              have := sumZ_rest HL.out (o := c) (fun k h1 h2 => HZ.out.2 k h1 h2) (4 - c) (by omega)
              rw [← this, show c + (4 - c) = 4 from by omega]; rfl
            rw [hso]
            clear hso
            go_wp2_with (((with_reducible refine is_load 2 _ rfl ?_); refine wpList_load_cell rfl 2 _ rfl _ 1 rfl (jn i c ts ps) _ A4 _ Try.underlying2 rfl (.int .i64 (c : Int)) (jn_outs i c ts ps) ?_))
            go_loopw [12] (fun kk wr => ∃ (a : Nat) (tn : List Nat), a ≤ c ∧ kk = .int .i64 (a : Int) ∧ Hid (TurnR c m x ts q a tn) ∧ At wr w.heap.size (jn i c tn ps) 30 ∧ At wr (w.heap.size + 1) (#[.int .i64 0, .int .i64 0, .float .f32 0, .float .f32 0, .float .f32 0, .float .f32 0, .float .f32 0, .float .f32 0, .float .f32 0, .float .f32 0, .float .f32 0, .float .f32 0, .float .f32 0, .float .f32 0, .float .f32 0, .float .f32 0, .float .f32 0, .float .f32 0, .float .f32 0, .float .f32 0, .float .f32 0, .float .f32 0]) 30 ∧ Hid (Below w.heap.size w wr)) (fun kk _ => 4 - (intOf kk).toNat)
            case atStart => exact ⟨0, ts, by omega, rfl, Lib.hid ⟨hlt, fun _ h => by omega, fun _ _ _ => rfl⟩, A4, R4, B4⟩
            case round =>
              clear A4 R4 B4
              obtain ⟨a, tn, ha, rfl, hT, A5, R5, B5⟩ := hrel
              have SN := jn_size hT.out.1 hlp i (c : Int)
              by_cases hac : a < c
              · have s2 : IntKind.i64.wrap ((a : Int) + 1) = (a : Int) + 1 := IntWalk.i64_in _ (by omega)
                have jd : decide ((a : Int) < (c : Int)) = true := decide_eq_true (by omega)
                have j4 : decide ((a : Int) < 4) = true := decide_eq_true (by omega)
                by_cases ham : a = m
                · have cm : decide ((a : Int) = (m : Int)) = true := decide_eq_true (by omega)
                  have cm' : ((a : Int) == (m : Int)) = true := by simp [ham]
                  have hagx : Agr x (tgC c m x (row4 ts q) a) := by rw [ham, tgC_at]; exact Agr.refl (by omega)
                  have HR2 : Hid (TurnR c m x ts q (a + 1) (tn.set (4 * q + a) x)) := Lib.hid (hT.out.put hq hm (by omega) (hagx))
                  have A9 := A5.setRow (jn i c (tn.set (4 * q + a) x) ps)
                  have R9 := R5.setRow_other (k := w.heap.size) (by omega) (jn i c (tn.set (4 * q + a) x) ps)
                  have B9 := Lib.hid (bset B5.out (g := w.heap.size) (Nat.le_refl _) (jn i c (tn.set (4 * q + a) x) ps))
                  clear ham hagx
                  go_wp2_with (first | ((with_reducible refine is_load 2 _ rfl ?_); refine wpList_load_cell rfl 2 _ rfl _ 1 rfl (jn i c tn ps) _ A5 _ Try.underlying2 rfl (.int .i64 (c : Int)) (jn_outs i c tn ps) ?_) | ((with_reducible refine is_store 22 (.tmp 93) (.tmp 90) rfl ?_); refine wpList_store_cell rfl 22 (.tmp 93) (.tmp 90) rfl _ _ rfl (.float .f32 x) rfl (jn i c tn ps) _ A5 (by rw [jn_size hT.out.1 hlp]; omega) (by kernel_rfl) rfl (jn i c (tn.set (4 * q + a) x) ps) (jn_setTurn hT.out.1 i c (k := 4 * q + a) (by omega) (by omega) x) ?_))
                  exact ⟨⟨a + 1, tn.set (4 * q + a) x, by omega, by go_num, HR2, A9, R9, B9⟩, by simp [intOf]; omega⟩
                · have cm : decide ((a : Int) = (m : Int)) = false := decide_eq_false (by omega)
                  have cm' : ((a : Int) == (m : Int)) = false := by simp; omega
                  have oe := eq_amt (x := othT (row4 ts q) m) (y := 0) (by omega) (by omega)
                  have hrest := (one_sub hx1).2
                  by_cases hz : othT (row4 ts q) m = 0
                  · rw [decide_eq_true hz] at oe
                    have ff := fo_facts c (by omega)
                    have hcv := ff.1
                    have hq2 : ∀ t w, (binOp .quo t (.float .f32 (subB 1065353216 x)) (.float .f32 (foB c))).run Try.prog w = .ok (.float .f32 (divB (subB 1065353216 x) (foB c))) w := fun t w => run_float_arith w .quo t .f32 _ _ _ (div_some (by omega) ff.2.2 ff.2.1).1
                    have hdl := (div_some (show subB 1065353216 x < 2139095040 by omega) ff.2.2 ff.2.1).2
                    have sw : IntKind.i64.wrap ((c : Int) - 1) = (c : Int) - 1 := IntWalk.i64_in _ (by omega)
                    have hag : Agr (divB (subB 1065353216 x) (foB c)) (tgC c m x (row4 ts q) a) := by rw [tgC_zero ham hz]; exact Agr.refl (by omega)
                    clear ff hrest hdl hz ham
                    generalize divB (subB 1065353216 x) (foB c) = qu at hq2 hag
                    go_wp2_with (((with_reducible refine is_load 2 _ rfl ?_); refine wpList_load_cell rfl 2 _ rfl _ 1 rfl (jn i c tn ps) _ A5 _ Try.underlying2 rfl (.int .i64 (c : Int)) (jn_outs i c tn ps) ?_))
                    refine wp_region_held (S := fun _ => True) (by kernel_rfl) ?_
                    show wpAnyH _ _ _ _ _ 13 (Array.replicate 13 false) _ _
                    have A6 : At { wr with drawn := wr.drawn + 1 } w.heap.size (jn i c tn ps) 30 := A5
                    have R6 : At { wr with drawn := wr.drawn + 1 } (w.heap.size + 1) (#[.int .i64 0, .int .i64 0, .float .f32 0, .float .f32 0, .float .f32 0, .float .f32 0, .float .f32 0, .float .f32 0, .float .f32 0, .float .f32 0, .float .f32 0, .float .f32 0, .float .f32 0, .float .f32 0, .float .f32 0, .float .f32 0, .float .f32 0, .float .f32 0, .float .f32 0, .float .f32 0, .float .f32 0, .float .f32 0]) 30 := R5
                    have B6 : Hid (Below w.heap.size w { wr with drawn := wr.drawn + 1 }) := Lib.hid (bdrew B5.out 1)
                    generalize ({ wr with drawn := wr.drawn + 1 } : World) = w6 at A6 R6 B6 ⊢
                    clear A5 R5 B5
                    refine wpAnyH_take (i := 0) (v := .int .i64 (q : Int)) rfl (by kernel_rfl) (by kernel_rfl) (by kernel_rfl) (fun _ _ _ h => h) (yif rfl fun w' hw' => hx_move (.tmp 1) rfl (by kernel_rfl)) trivial ?_
                    refine wpAnyH_take (i := 1) (v := .int .i64 (a : Int)) rfl (by kernel_rfl) (by kernel_rfl) (by kernel_rfl) (fun _ _ _ h => h) (yif rfl fun w' hw' => hx_move (.tmp 12) rfl (by kernel_rfl)) trivial ?_
                    refine wpAnyH_take (i := 2) (v := .float .f32 x) rfl (by kernel_rfl) (by kernel_rfl) (by kernel_rfl) (fun _ _ _ h => h) (yif rfl fun w' hw' => hx_move (.tmp 3) rfl (by kernel_rfl)) trivial ?_
                    refine wpAnyH_take (i := 3) (v := .float .f32 (subB 1065353216 x)) rfl (by kernel_rfl) (by kernel_rfl) (by kernel_rfl) (fun _ _ _ h => h) (yif rfl fun w' hw' => hx_sub 22 (.const (.float .f32 1065353216)) (.tmp 99) rfl (.float .f32 1065353216) (.float .f32 x) (by kernel_rfl) (by kernel_rfl) (hsub 22 w')) trivial ?_
                    refine wpAnyH_take (i := 4) (v := .pointer (some ⟨w.heap.size, 1, none⟩)) rfl (by kernel_rfl) (by kernel_rfl) (by kernel_rfl) (fun _ _ _ h => h) (yif rfl fun w' hw' => by kernel_rfl) trivial ?_
                    refine wpAnyH_take (i := 9) (v := .pointer (some ⟨w.heap.size, 2, none⟩)) rfl (by kernel_rfl) (by kernel_rfl) (by kernel_rfl) (fun _ _ _ h => h) (yif rfl fun w' hw' => by kernel_rfl) trivial ?_
                    refine wpAnyH_take (i := 10) (v := .pointer (some ⟨w.heap.size, 2 + q * 4, none⟩)) rfl (by kernel_rfl) (by kernel_rfl) (by kernel_rfl) (fun _ _ _ h => h) (yif rfl fun w' hw' => hx_index 27 (.tmp 106) (.tmp 97) rfl (.pointer (some ⟨w.heap.size, 2, none⟩)) (.int .i64 (q : Int)) (by kernel_rfl) (by kernel_rfl) (run_indexA w' 27 23 4 q 4 _ _ Try.underlying27 (by kernel_rfl) (by omega))) trivial ?_
                    refine wpAnyH_all (rs := [5]) (by kernel_rfl) (by simp) fun i' hi'' => ?_
                    obtain rfl := one_of hi''
                    refine op_value (v := .int .i64 (c : Int)) rfl rfl (x_load 2 (.tmp 101) rfl ⟨w.heap.size, 1, none⟩ (by kernel_rfl) (run_load_one w6 2 _ Try.underlying2 rfl _ _ (A6.cell (jn_outs i c tn ps)))) ⟨trivial, ?_⟩
                    refine wpAnyH_take (i := 6) (v := .int .i64 ((c : Int) - 1)) rfl (by kernel_rfl) (by kernel_rfl) (by kernel_rfl) (fun _ _ _ h => h) (yif rfl fun w' hw' => hx_sub 2 (.tmp 102) (.const (.int .i64 1)) rfl (.int .i64 (c : Int)) (.int .i64 1) (by kernel_rfl) (by kernel_rfl) (by rw [run_sub_i64, sw])) trivial ?_
                    refine wpAnyH_take (i := 7) (v := .float .f32 (foB c)) rfl (by kernel_rfl) (by kernel_rfl) (by kernel_rfl) (fun _ _ _ h => h) (yif rfl fun w' hw' => hx_conv 2 22 (.tmp 103) rfl (.int .i64 ((c : Int) - 1)) (by kernel_rfl) (hcv w')) trivial ?_
                    refine wpAnyH_take (i := 8) (v := .float .f32 qu) rfl (by kernel_rfl) (by kernel_rfl) (by kernel_rfl) (fun _ _ _ h => h) (yif rfl fun w' hw' => hx_quo 22 (.tmp 100) (.tmp 104) rfl (.float .f32 (subB 1065353216 x)) (.float .f32 (foB c)) (by kernel_rfl) (by kernel_rfl) (hq2 22 w')) trivial ?_
                    refine wpAnyH_all (rs := [11]) (by kernel_rfl) (by simp) fun i' hi'' => ?_
                    obtain rfl := one_of hi''
                    refine op_value (v := .pointer (some ⟨w.heap.size, 2 + q * 4 + a * 1, none⟩)) rfl rfl (hx_index 23 (.tmp 107) (.tmp 98) rfl (.pointer (some ⟨w.heap.size, 2 + q * 4, none⟩)) (.int .i64 (a : Int)) (by kernel_rfl) (by kernel_rfl) (run_indexA _ 23 22 4 a 1 _ _ Try.underlying23 (by kernel_rfl) (by omega))) ⟨trivial, ?_⟩
                    have hst := run_storeAt_one (P := Try.prog) (w6) w.heap.size (2 + q * 4 + a * 1) 30 22 (jn i c tn ps) (.float .f32 qu) A6 (by kernel_rfl) (by rw [SN]; omega) rfl
                    rw [show (jn i c tn ps).setIfInBounds (2 + q * 4 + a * 1) (.float .f32 qu) = jn i c (tn.set (4 * q + a) qu) ps from jn_setTurn hT.out.1 i c (k := 4 * q + a) (by omega) (by omega) qu] at hst
                    refine wpAnyH_all (rs := [12]) (by kernel_rfl) (by simp) fun i' hi'' => ?_
                    obtain rfl := one_of hi''
                    refine op_skip rfl rfl (hx_store 22 (.tmp 108) (.tmp 105) rfl (.pointer (some ⟨w.heap.size, 2 + q * 4 + a * 1, none⟩)) (.float .f32 qu) (by kernel_rfl) (by kernel_rfl) hst) ⟨trivial, ?_⟩
                    refine wpAnyH_done (by kernel_rfl) ?_ _
                    have HR2 : Hid (TurnR c m x ts q (a + 1) (tn.set (4 * q + a) qu)) := Lib.hid (hT.out.put hq hm (by omega) (hag))
                    have A9 := A6.setRow (jn i c (tn.set (4 * q + a) qu) ps)
                    have R9 := R6.setRow_other (k := w.heap.size) (by omega) (jn i c (tn.set (4 * q + a) qu) ps)
                    have B9 := Lib.hid (bset B6.out (g := w.heap.size) (Nat.le_refl _) (jn i c (tn.set (4 * q + a) qu) ps))
                    clear hst hag hT A6 R6 B6
                    generalize ((w6).setRow w.heap.size (jn i c (tn.set (4 * q + a) qu) ps) : World) = w9 at A9 R9 B9 ⊢
                    generalize hA : Act.put _ _ _ = A
                    have eA : A = { tmps := #[.agg (jn i c ts ps), .int .i64 (q : Int), .int .i64 (m : Int), .float .f32 x, .pointer (some ⟨w.heap.size, 0, none⟩), undef, undef, undef, .pointer (some ⟨w.heap.size + 1, 0, none⟩), .int .i64 0, .float .f32 (othT (row4 ts q) m), .int .i64 (c : Int), .int .i64 (a : Int), .bool true, .bool false, undef, .int .i64 (q : Int), .pointer (some ⟨w.heap.size, 0, none⟩), .int .i64 i, .int .i64 (i - 1), .bool true, .bool false, .bool false, .int .i64 (m : Int), .pointer (some ⟨w.heap.size, 1, none⟩), .int .i64 (c : Int), .int .i64 ((c : Int) - 1), .bool true, .bool false, .bool false, .bool false, .float .f32 x, .bool true, .bool false, .bool false, .bool false, .pointer (some ⟨w.heap.size, 1, none⟩), .int .i64 (c : Int), .bool true, .bool true, .float .f32 x, .bool false, .bool false, .bool false, undef, .int .i64 (c : Int), .pointer (some ⟨w.heap.size, 1, none⟩), .int .i64 (c : Int), .bool false, u49, u50, u51, u52, u53, u54, u55, u56, u57, u58, u59, u60, u61, .int .i64 (a : Int), .pointer (some ⟨w.heap.size, 1, none⟩), .int .i64 (c : Int), .bool true, u66, u67, u68, u69, u70, u71, u72, u73, u74, u75, u76, u77, u78, u79, u80, u81, u82, u83, .bool false, .int .i64 (a : Int), .int .i64 (m : Int), .bool false, u88, u89, u90, u91, u92, u93, .bool true, .float .f32 (othT (row4 ts q) m), .bool true, .int .i64 (q : Int), .int .i64 (a : Int), .float .f32 x, .float .f32 (subB 1065353216 x), .pointer (some ⟨w.heap.size, 1, none⟩), .int .i64 (c : Int), .int .i64 ((c : Int) - 1), .float .f32 (foB c), .float .f32 qu, .pointer (some ⟨w.heap.size, 2, none⟩), .pointer (some ⟨w.heap.size, 2 + q * 4, none⟩), .pointer (some ⟨w.heap.size, 2 + q * 4 + a * 1, none⟩), undef, undef, undef, undef], defers := [] } := by rw [← hA]; kernel_rfl
                    clear hA
                    subst eA
                    go_wp2
                    exact ⟨⟨a + 1, tn.set (4 * q + a) qu, by omega, by go_num, HR2, A9, R9, B9⟩, by simp [intOf]; omega⟩
                  · rw [decide_eq_false hz] at oe
                    have hd := div_some (show subB 1065353216 x < 2139095040 by omega) hoth (by omega)
                    have hq2 : ∀ t w, (binOp .quo t (.float .f32 (subB 1065353216 x)) (.float .f32 (othT (row4 ts q) m))).run Try.prog w = .ok (.float .f32 (divB (subB 1065353216 x) (othT (row4 ts q) m))) w := fun t w => run_float_arith w .quo t .f32 _ _ _ hd.1
                    have htg := tgC_part (o := c) (x := x) ham hz
                    rw [row4_nth hlt q (by omega)] at htg
                    have hcl : (jn i c tn ps)[2 + q * 4 + a * 1]? = some (.float .f32 (nth ts (4 * q + a))) := by
                      rw [← hT.out.2.2 (4 * q + a) (by omega) (by omega)]; exact jn_turn hT.out.1 hlp i c (k := 4 * q + a) (by omega) (by omega)
                    clear hd hrest hz ham
                    generalize divB (subB 1065353216 x) (othT (row4 ts q) m) = qu at hq2 htg
                    go_wp2_with (((with_reducible refine is_load 2 _ rfl ?_); refine wpList_load_cell rfl 2 _ rfl _ 1 rfl (jn i c tn ps) _ A5 _ Try.underlying2 rfl (.int .i64 (c : Int)) (jn_outs i c tn ps) ?_))
                    refine wp_region_held (S := fun _ => True) (by kernel_rfl) ?_
                    show wpAnyH _ _ _ _ _ 17 (Array.replicate 17 false) _ _
                    have A6 : At { wr with drawn := wr.drawn + 1 } w.heap.size (jn i c tn ps) 30 := A5
                    have R6 : At { wr with drawn := wr.drawn + 1 } (w.heap.size + 1) (#[.int .i64 0, .int .i64 0, .float .f32 0, .float .f32 0, .float .f32 0, .float .f32 0, .float .f32 0, .float .f32 0, .float .f32 0, .float .f32 0, .float .f32 0, .float .f32 0, .float .f32 0, .float .f32 0, .float .f32 0, .float .f32 0, .float .f32 0, .float .f32 0, .float .f32 0, .float .f32 0, .float .f32 0, .float .f32 0]) 30 := R5
                    have B6 : Hid (Below w.heap.size w { wr with drawn := wr.drawn + 1 }) := Lib.hid (bdrew B5.out 1)
                    generalize ({ wr with drawn := wr.drawn + 1 } : World) = w6 at A6 R6 B6 ⊢
                    clear A5 R5 B5
                    refine wpAnyH_take (i := 0) (v := .int .i64 (q : Int)) rfl (by kernel_rfl) (by kernel_rfl) (by kernel_rfl) (fun _ _ _ h => h) (yif rfl fun w' hw' => hx_move (.tmp 1) rfl (by kernel_rfl)) trivial ?_
                    refine wpAnyH_take (i := 1) (v := .int .i64 (a : Int)) rfl (by kernel_rfl) (by kernel_rfl) (by kernel_rfl) (fun _ _ _ h => h) (yif rfl fun w' hw' => hx_move (.tmp 12) rfl (by kernel_rfl)) trivial ?_
                    refine wpAnyH_take (i := 2) (v := .int .i64 (q : Int)) rfl (by kernel_rfl) (by kernel_rfl) (by kernel_rfl) (fun _ _ _ h => h) (yif rfl fun w' hw' => hx_move (.tmp 1) rfl (by kernel_rfl)) trivial ?_
                    refine wpAnyH_take (i := 3) (v := .int .i64 (a : Int)) rfl (by kernel_rfl) (by kernel_rfl) (by kernel_rfl) (fun _ _ _ h => h) (yif rfl fun w' hw' => hx_move (.tmp 12) rfl (by kernel_rfl)) trivial ?_
                    refine wpAnyH_take (i := 4) (v := .pointer (some ⟨w.heap.size, 2, none⟩)) rfl (by kernel_rfl) (by kernel_rfl) (by kernel_rfl) (fun _ _ _ h => h) (yif rfl fun w' hw' => by kernel_rfl) trivial ?_
                    refine wpAnyH_take (i := 5) (v := .pointer (some ⟨w.heap.size, 2 + q * 4, none⟩)) rfl (by kernel_rfl) (by kernel_rfl) (by kernel_rfl) (fun _ _ _ h => h) (yif rfl fun w' hw' => hx_index 27 (.tmp 72) (.tmp 70) rfl (.pointer (some ⟨w.heap.size, 2, none⟩)) (.int .i64 (q : Int)) (by kernel_rfl) (by kernel_rfl) (run_indexA w' 27 23 4 q 4 _ _ Try.underlying27 (by kernel_rfl) (by omega))) trivial ?_
                    refine wpAnyH_take (i := 6) (v := .pointer (some ⟨w.heap.size, 2 + q * 4 + a * 1, none⟩)) rfl (by kernel_rfl) (by kernel_rfl) (by kernel_rfl) (fun _ _ _ h => h) (yif rfl fun w' hw' => hx_index 23 (.tmp 73) (.tmp 71) rfl (.pointer (some ⟨w.heap.size, 2 + q * 4, none⟩)) (.int .i64 (a : Int)) (by kernel_rfl) (by kernel_rfl) (run_indexA w' 23 22 4 a 1 _ _ Try.underlying23 (by kernel_rfl) (by omega))) trivial ?_
                    refine wpAnyH_take (i := 8) (v := .float .f32 x) rfl (by kernel_rfl) (by kernel_rfl) (by kernel_rfl) (fun _ _ _ h => h) (yif rfl fun w' hw' => hx_move (.tmp 3) rfl (by kernel_rfl)) trivial ?_
                    refine wpAnyH_take (i := 9) (v := .float .f32 (subB 1065353216 x)) rfl (by kernel_rfl) (by kernel_rfl) (by kernel_rfl) (fun _ _ _ h => h) (yif rfl fun w' hw' => hx_sub 22 (.const (.float .f32 1065353216)) (.tmp 76) rfl (.float .f32 1065353216) (.float .f32 x) (by kernel_rfl) (by kernel_rfl) (hsub 22 w')) trivial ?_
                    refine wpAnyH_take (i := 10) (v := .float .f32 (othT (row4 ts q) m)) rfl (by kernel_rfl) (by kernel_rfl) (by kernel_rfl) (fun _ _ _ h => h) (yif rfl fun w' hw' => hx_move (.tmp 10) rfl (by kernel_rfl)) trivial ?_
                    refine wpAnyH_take (i := 11) (v := .float .f32 qu) rfl (by kernel_rfl) (by kernel_rfl) (by kernel_rfl) (fun _ _ _ h => h) (yif rfl fun w' hw' => hx_quo 22 (.tmp 77) (.tmp 78) rfl (.float .f32 (subB 1065353216 x)) (.float .f32 (othT (row4 ts q) m)) (by kernel_rfl) (by kernel_rfl) (hq2 22 w')) trivial ?_
                    refine wpAnyH_take (i := 13) (v := .pointer (some ⟨w.heap.size, 2, none⟩)) rfl (by kernel_rfl) (by kernel_rfl) (by kernel_rfl) (fun _ _ _ h => h) (yif rfl fun w' hw' => by kernel_rfl) trivial ?_
                    refine wpAnyH_take (i := 14) (v := .pointer (some ⟨w.heap.size, 2 + q * 4, none⟩)) rfl (by kernel_rfl) (by kernel_rfl) (by kernel_rfl) (fun _ _ _ h => h) (yif rfl fun w' hw' => hx_index 27 (.tmp 81) (.tmp 68) rfl (.pointer (some ⟨w.heap.size, 2, none⟩)) (.int .i64 (q : Int)) (by kernel_rfl) (by kernel_rfl) (run_indexA w' 27 23 4 q 4 _ _ Try.underlying27 (by kernel_rfl) (by omega))) trivial ?_
                    refine wpAnyH_all (rs := [7]) (by kernel_rfl) (by simp) fun i' hi'' => ?_
                    obtain rfl := one_of hi''
                    refine op_value (v := .float .f32 (nth ts (4 * q + a))) rfl rfl (x_load 22 (.tmp 74) rfl ⟨w.heap.size, 2 + q * 4 + a * 1, none⟩ (by kernel_rfl) (run_load_cell w6 22 _ Try.underlying22 _ _ (A6.cell hcl))) ⟨trivial, ?_⟩
                    obtain ⟨z, n1, e1, r1⟩ := run_mul_any (P := Try.prog) 22 (nth ts (4 * q + a)) qu w6
                    have hag : Agr z (tgC c m x (row4 ts q) a) := by rw [htg]; exact r1.agr
                    refine wpAnyH_all (rs := [12]) (by kernel_rfl) (by simp) fun i' hi'' => ?_
                    obtain rfl := one_of hi''
                    refine op_value (v := .float .f32 z) rfl rfl (hx_mul 22 (.tmp 75) (.tmp 79) rfl (.float .f32 (nth ts (4 * q + a))) (.float .f32 qu) (by kernel_rfl) (by kernel_rfl) e1) ⟨trivial, ?_⟩
                    refine wpAnyH_all (rs := [15]) (by kernel_rfl) (by simp) fun i' hi'' => ?_
                    obtain rfl := one_of hi''
                    refine op_value (v := .pointer (some ⟨w.heap.size, 2 + q * 4 + a * 1, none⟩)) rfl rfl (hx_index 23 (.tmp 82) (.tmp 69) rfl (.pointer (some ⟨w.heap.size, 2 + q * 4, none⟩)) (.int .i64 (a : Int)) (by kernel_rfl) (by kernel_rfl) (run_indexA _ 23 22 4 a 1 _ _ Try.underlying23 (by kernel_rfl) (by omega))) ⟨trivial, ?_⟩
                    have hst := run_storeAt_one (P := Try.prog) (w6.drewN n1) w.heap.size (2 + q * 4 + a * 1) 30 22 (jn i c tn ps) (.float .f32 z) (A6.drewN n1) (by kernel_rfl) (by rw [SN]; omega) rfl
                    rw [show (jn i c tn ps).setIfInBounds (2 + q * 4 + a * 1) (.float .f32 z) = jn i c (tn.set (4 * q + a) z) ps from jn_setTurn hT.out.1 i c (k := 4 * q + a) (by omega) (by omega) z] at hst
                    refine wpAnyH_all (rs := [16]) (by kernel_rfl) (by simp) fun i' hi'' => ?_
                    obtain rfl := one_of hi''
                    refine op_skip rfl rfl (hx_store 22 (.tmp 83) (.tmp 80) rfl (.pointer (some ⟨w.heap.size, 2 + q * 4 + a * 1, none⟩)) (.float .f32 z) (by kernel_rfl) (by kernel_rfl) hst) ⟨trivial, ?_⟩
                    refine wpAnyH_done (by kernel_rfl) ?_ _
                    have HR2 : Hid (TurnR c m x ts q (a + 1) (tn.set (4 * q + a) z)) := Lib.hid (hT.out.put hq hm (by omega) (hag))
                    have A9 := (A6.drewN n1).setRow (jn i c (tn.set (4 * q + a) z) ps)
                    have R9 := (R6.drewN n1).setRow_other (k := w.heap.size) (by omega) (jn i c (tn.set (4 * q + a) z) ps)
                    have B9 := Lib.hid (bset (Lib.hid (bdrew B6.out n1)).out (g := w.heap.size) (Nat.le_refl _) (jn i c (tn.set (4 * q + a) z) ps))
                    clear hst hag hT A6 R6 B6 e1 r1 htg
                    generalize ((w6.drewN n1).setRow w.heap.size (jn i c (tn.set (4 * q + a) z) ps) : World) = w9 at A9 R9 B9 ⊢
                    generalize hA : Act.put _ _ _ = A
                    have eA : A = { tmps := #[.agg (jn i c ts ps), .int .i64 (q : Int), .int .i64 (m : Int), .float .f32 x, .pointer (some ⟨w.heap.size, 0, none⟩), undef, undef, undef, .pointer (some ⟨w.heap.size + 1, 0, none⟩), .int .i64 0, .float .f32 (othT (row4 ts q) m), .int .i64 (c : Int), .int .i64 (a : Int), .bool true, .bool false, undef, .int .i64 (q : Int), .pointer (some ⟨w.heap.size, 0, none⟩), .int .i64 i, .int .i64 (i - 1), .bool true, .bool false, .bool false, .int .i64 (m : Int), .pointer (some ⟨w.heap.size, 1, none⟩), .int .i64 (c : Int), .int .i64 ((c : Int) - 1), .bool true, .bool false, .bool false, .bool false, .float .f32 x, .bool true, .bool false, .bool false, .bool false, .pointer (some ⟨w.heap.size, 1, none⟩), .int .i64 (c : Int), .bool true, .bool true, .float .f32 x, .bool false, .bool false, .bool false, undef, .int .i64 (c : Int), .pointer (some ⟨w.heap.size, 1, none⟩), .int .i64 (c : Int), .bool false, u49, u50, u51, u52, u53, u54, u55, u56, u57, u58, u59, u60, u61, .int .i64 (a : Int), .pointer (some ⟨w.heap.size, 1, none⟩), .int .i64 (c : Int), .bool true, u66, u67, .int .i64 (q : Int), .int .i64 (a : Int), .int .i64 (q : Int), .int .i64 (a : Int), .pointer (some ⟨w.heap.size, 2, none⟩), .pointer (some ⟨w.heap.size, 2 + q * 4, none⟩), .pointer (some ⟨w.heap.size, 2 + q * 4 + a * 1, none⟩), .float .f32 (nth ts (4 * q + a)), .float .f32 x, .float .f32 (subB 1065353216 x), .float .f32 (othT (row4 ts q) m), .float .f32 qu, .float .f32 z, .pointer (some ⟨w.heap.size, 2, none⟩), .pointer (some ⟨w.heap.size, 2 + q * 4, none⟩), .pointer (some ⟨w.heap.size, 2 + q * 4 + a * 1, none⟩), .bool false, .int .i64 (a : Int), .int .i64 (m : Int), .bool false, u88, u89, u90, u91, u92, u93, .bool false, .float .f32 (othT (row4 ts q) m), .bool false, u97, u98, u99, u100, u101, u102, u103, u104, u105, u106, u107, u108, undef, undef, undef, undef], defers := [] } := by rw [← hA]; kernel_rfl
                    clear hA
                    subst eA
                    go_wp2
                    exact ⟨⟨a + 1, tn.set (4 * q + a) z, by omega, by go_num, HR2, A9, R9, B9⟩, by simp [intOf]; omega⟩
              · obtain rfl : c = a := by omega
                have hAL := hT.out.agr hct
                have hpl := hT.out.1
                clear hT
                have CT := hAL.lt
                have OK := hAL.ok (i := i) (o := (c : Int)) (ps := ps)
                cases ht : okJ i c tn ps
                · have ev : (vSetTurn i c ts ps q m x) = (0, 0, zeros 16, zeros 4, 4) := by unfold vSetTurn; simp only [Int.toNat_natCast]; rw [h, if_pos rfl, hcond, if_pos rfl, if_neg (by rw [← OK, ht]; decide)]
                  go_wp2_with (((with_reducible refine is_load 2 _ rfl ?_); refine wpList_load_cell rfl 2 _ rfl _ 1 rfl (jn i c tn ps) _ A5 _ Try.underlying2 rfl (.int .i64 (c : Int)) (jn_outs i c tn ps) ?_))
                  refine (l03Ok_b _ i c tn ps hi ho hpl hlp CT hcp _ _ A5).mono ?_
                  rw [ht]
                  rintro e w8 ⟨rfl, n8, rfl⟩
                  have R8 := R5.drewN n8
                  have B8 := Lib.hid (bdrew B5.out n8)
                  generalize hw8 : World.drewN _ _ = w8 at R8 B8 ⊢
                  clear R5 B5 A5 hw8
                  have R9 := R8.setRow (#[.int .i64 0, .int .i64 0, .float .f32 0, .float .f32 0, .float .f32 0, .float .f32 0, .float .f32 0, .float .f32 0, .float .f32 0, .float .f32 0, .float .f32 0, .float .f32 0, .float .f32 0, .float .f32 0, .float .f32 0, .float .f32 0, .float .f32 0, .float .f32 0, .float .f32 0, .float .f32 0, .float .f32 0, .float .f32 0])
                  have B9 := Lib.hid (bset B8.out (g := w.heap.size + 1) (by omega) (#[.int .i64 0, .int .i64 0, .float .f32 0, .float .f32 0, .float .f32 0, .float .f32 0, .float .f32 0, .float .f32 0, .float .f32 0, .float .f32 0, .float .f32 0, .float .f32 0, .float .f32 0, .float .f32 0, .float .f32 0, .float .f32 0, .float .f32 0, .float .f32 0, .float .f32 0, .float .f32 0, .float .f32 0, .float .f32 0]))
                  go_wp2_with (((with_reducible refine is_store 30 (.tmp 8) (.tmp 111) rfl ?_); refine wpList_store_at rfl 30 (.tmp 8) (.tmp 111) rfl _ rfl (#[.int .i64 0, .int .i64 0, .float .f32 0, .float .f32 0, .float .f32 0, .float .f32 0, .float .f32 0, .float .f32 0, .float .f32 0, .float .f32 0, .float .f32 0, .float .f32 0, .float .f32 0, .float .f32 0, .float .f32 0, .float .f32 0, .float .f32 0, .float .f32 0, .float .f32 0, .float .f32 0, .float .f32 0, .float .f32 0]) rfl (#[.int .i64 0, .int .i64 0, .float .f32 0, .float .f32 0, .float .f32 0, .float .f32 0, .float .f32 0, .float .f32 0, .float .f32 0, .float .f32 0, .float .f32 0, .float .f32 0, .float .f32 0, .float .f32 0, .float .f32 0, .float .f32 0, .float .f32 0, .float .f32 0, .float .f32 0, .float .f32 0, .float .f32 0, .float .f32 0]) _ (by assumption) 22 ((by rw [zlit]; exact jn_size (zeros_len 16) (zeros_len 4) _ _)) ((by rw [zlit]; exact jn_size (zeros_len 16) (zeros_len 4) _ _)) (by kernel_rfl) ((by rw [zlit]; exact jn_one _ _ _ _)) ?_))
                  exact bodyPost_ret (v := .tuple #[.agg (#[.int .i64 0, .int .i64 0, .float .f32 0, .float .f32 0, .float .f32 0, .float .f32 0, .float .f32 0, .float .f32 0, .float .f32 0, .float .f32 0, .float .f32 0, .float .f32 0, .float .f32 0, .float .f32 0, .float .f32 0, .float .f32 0, .float .f32 0, .float .f32 0, .float .f32 0, .float .f32 0, .float .f32 0, .float .f32 0]), .int .i64 4]) (results_at_tmp (p := 8) (ty := 30) rfl _ _ _ (#[.int .i64 0, .int .i64 0, .float .f32 0, .float .f32 0, .float .f32 0, .float .f32 0, .float .f32 0, .float .f32 0, .float .f32 0, .float .f32 0, .float .f32 0, .float .f32 0, .float .f32 0, .float .f32 0, .float .f32 0, .float .f32 0, .float .f32 0, .float .f32 0, .float .f32 0, .float .f32 0, .float .f32 0, .float .f32 0]) _ (.int .i64 4) rfl rfl R9 _ Try.underlying30 rfl 22 ((by rw [zlit]; exact jn_size (zeros_len 16) (zeros_len 4) _ _)) (by kernel_rfl)) rfl ⟨by rw [ev, ← zlit], B9.out⟩
                · have eq := AgrL.eq hAL ht
                  subst eq
                  have ev : (vSetTurn i c ts ps q m x) = (i, (c : Int), tgT c q m x ts, ps, 0) := by unfold vSetTurn; simp only [Int.toNat_natCast]; rw [h, if_pos rfl, hcond, if_pos rfl, if_pos ht]
                  go_wp2_with (((with_reducible refine is_load 2 _ rfl ?_); refine wpList_load_cell rfl 2 _ rfl _ 1 rfl (jn i c (tgT c q m x ts) ps) _ A5 _ Try.underlying2 rfl (.int .i64 (c : Int)) (jn_outs i c (tgT c q m x ts) ps) ?_))
                  refine (l03Ok_b _ i c (tgT c q m x ts) ps hi ho hpl hlp CT hcp _ _ A5).mono ?_
                  rw [ht]
                  rintro e w8 ⟨rfl, n8, rfl⟩
                  have A8 := A5.drewN n8
                  have R8 := R5.drewN n8
                  have B8 := Lib.hid (bdrew B5.out n8)
                  generalize hw8 : World.drewN _ _ = w8 at A8 R8 B8 ⊢
                  clear R5 B5 A5 hw8
                  have R9 := R8.setRow (jn i c (tgT c q m x ts) ps)
                  have B9 := Lib.hid (bset B8.out (g := w.heap.size + 1) (by omega) (jn i c (tgT c q m x ts) ps))
                  go_wp2_with (first | ((with_reducible refine is_load 30 _ rfl ?_); refine wpList_load_at rfl 30 _ rfl _ rfl (jn i c (tgT c q m x ts) ps) _ A8 22 (SN) _ Try.underlying30 rfl (by kernel_rfl) ?_) | ((with_reducible refine is_store 30 (.tmp 8) (.tmp 112) rfl ?_); refine wpList_store_at rfl 30 (.tmp 8) (.tmp 112) rfl _ rfl (jn i c (tgT c q m x ts) ps) rfl (#[.int .i64 0, .int .i64 0, .float .f32 0, .float .f32 0, .float .f32 0, .float .f32 0, .float .f32 0, .float .f32 0, .float .f32 0, .float .f32 0, .float .f32 0, .float .f32 0, .float .f32 0, .float .f32 0, .float .f32 0, .float .f32 0, .float .f32 0, .float .f32 0, .float .f32 0, .float .f32 0, .float .f32 0, .float .f32 0]) _ R8 22 (SN) ((by rw [zlit]; exact jn_size (zeros_len 16) (zeros_len 4) _ _)) (by kernel_rfl) (jn_one _ _ _ _) ?_))
                  exact bodyPost_ret (v := .tuple #[.agg (jn i c (tgT c q m x ts) ps), .int .i64 0]) (results_at_tmp (p := 8) (ty := 30) rfl _ _ _ (jn i c (tgT c q m x ts) ps) _ (.int .i64 0) rfl rfl R9 _ Try.underlying30 rfl 22 (SN) (by kernel_rfl)) rfl ⟨by rw [ev], B9.out⟩
      · skip
        have oc' : ((c : Int) == 1) = false := by simp; omega
        clear hc1
        go_enter Try.func15, Try.ntmps15
        go_wp2_with fail
        refine (l03Ok_b _ i c ts ps hi ho hlt hlp hct hcp _ _ A0).mono ?_
        rw [h]
        rintro e w1 ⟨rfl, n1, rfl⟩
        have A1 := A0.drewN n1
        have R1 := R0.drewN n1
        have B1 := Lib.hid (bdrew B0.out n1)
        generalize hw1 : World.drewN _ _ = w1 at A1 R1 B1 ⊢
        clear A0 R0 B0 hw1
        go_wp2_with (((with_reducible refine is_load 2 _ rfl ?_); refine wpList_load_cell rfl 2 _ rfl _ 0 rfl (jn i c ts ps) _ A1 _ Try.underlying2 rfl (.int .i64 i) (jn_ins i c ts ps) ?_))
        refine (l00In_b q 0 (i - 1) _).mono ?_
        rw [hin]
        rintro e w2 ⟨rfl, n2, rfl⟩
        have A2 := A1.drewN n2
        have R2 := R1.drewN n2
        have B2 := Lib.hid (bdrew B1.out n2)
        generalize hw2 : World.drewN _ _ = w2 at A2 R2 B2 ⊢
        clear A1 R1 B1 hw2
        go_wp2_with (((with_reducible refine is_load 2 _ rfl ?_); refine wpList_load_cell_g rfl 2 _ rfl _ 1 rfl (jn i c ts ps) _ A2 _ Try.underlying2 rfl (.int .i64 (c : Int)) (jn_outs i c ts ps) ?_))
        refine (l00In_b m 0 ((c : Int) - 1) _).mono ?_
        rw [hon]
        rintro e w3 ⟨rfl, n3, rfl⟩
        have A3 := A2.drewN n3
        have R3 := R2.drewN n3
        have B3 := Lib.hid (bdrew B2.out n3)
        generalize hw3 : World.drewN _ _ = w3 at A3 R3 B3 ⊢
        clear A2 R2 B2 hw3
        go_wp2_with fail
        refine (l01Share_any x hx _).mono ?_
        rw [hshr]
        rintro e w4 ⟨rfl, n4, rfl⟩
        have A4 := A3.drewN n4
        have R4 := R3.drewN n4
        have B4 := Lib.hid (bdrew B3.out n4)
        generalize hw4 : World.drewN _ _ = w4 at A4 R4 B4 ⊢
        clear A3 R3 B3 hw4
        go_wp2_with (first | ((with_reducible refine is_load 2 _ rfl ?_); refine wpList_load_cell_g rfl 2 _ rfl _ 1 rfl (jn i c ts ps) _ A4 _ Try.underlying2 rfl (.int .i64 (c : Int)) (jn_outs i c ts ps) ?_) | ((with_reducible refine is_load 2 _ rfl ?_); refine wpList_load_cell rfl 2 _ rfl _ 1 rfl (jn i c ts ps) _ A4 _ Try.underlying2 rfl (.int .i64 (c : Int)) (jn_outs i c ts ps) ?_))
        go_loopw [10, 11] (fun s kk wr => ∃ j : Nat, j ≤ c ∧ s = .float .f32 (sumZ (lessT (row4 ts q) m) j) ∧ kk = .int .i64 (j : Int) ∧ wr = w4) (fun _ kk _ => 4 - (intOf kk).toNat)
        case atStart => exact ⟨0, by omega, rfl, rfl, rfl⟩
        case round =>
          obtain ⟨j, hj, rfl, rfl, rfl⟩ := hrel
          by_cases hjc : j < c
          · have s2 : IntKind.i64.wrap ((j : Int) + 1) = (j : Int) + 1 := IntWalk.i64_in _ (by omega)
            have jd : decide ((j : Int) < (c : Int)) = true := decide_eq_true (by omega)
            have j4 : decide ((j : Int) < 4) = true := decide_eq_true (by omega)
            by_cases hjm : j = m
            · have cm : decide ((j : Int) = (m : Int)) = true := decide_eq_true (by omega)
              have cm' : ((j : Int) == (m : Int)) = true := by simp [hjm]
              have cn' : ((j : Int) != (m : Int)) = false := by simp [hjm]
              have hsk : Hid (sumZ (lessT (row4 ts q) m) (j + 1) = sumZ (lessT (row4 ts q) m) j) := Lib.hid (sumZ_skip HL.out (by omega) (by rw [hjm]; exact HZ.out.1))
              clear hjm
              go_wp2_with (((with_reducible refine is_load 2 _ rfl ?_); refine wpList_load_cell rfl 2 _ rfl _ 1 rfl (jn i c ts ps) _ A4 _ Try.underlying2 rfl (.int .i64 (c : Int)) (jn_outs i c ts ps) ?_))
              exact ⟨⟨j + 1, by omega, by rw [hsk.out], by go_num, trivial⟩, by simp [intOf]; omega⟩
            · have cm : decide ((j : Int) = (m : Int)) = false := decide_eq_false (by omega)
              have cm' : ((j : Int) == (m : Int)) = false := by simp; omega
              have cn' : ((j : Int) != (m : Int)) = true := by simp; omega
              have ad := sumZ_run HL.out j (by omega)
              rw [show nth (lessT (row4 ts q) m) j = nth ts (4 * q + j) from by rw [lessT_nth (row4_len hlt hq) (by omega), if_neg hjm, row4_nth hlt q (by omega)]] at ad
              have ha : ∀ t w, (binOp .add t (.float .f32 (sumZ (lessT (row4 ts q) m) j)) (.float .f32 (nth ts (4 * q + j)))).run Try.prog w = .ok (.float .f32 (sumZ (lessT (row4 ts q) m) (j + 1))) w := fun t w => run_float_arith w .add t .f32 _ _ _ ad
              clear ad hjm
              go_wp2_with (first | ((with_reducible refine is_load 2 _ rfl ?_); refine wpList_load_cell rfl 2 _ rfl _ 1 rfl (jn i c ts ps) _ A4 _ Try.underlying2 rfl (.int .i64 (c : Int)) (jn_outs i c ts ps) ?_) | ((with_reducible refine is_load 22 _ rfl ?_); refine wpList_load_cell rfl 22 _ rfl _ _ rfl (jn i c ts ps) _ A4 _ Try.underlying22 rfl (.float .f32 (nth ts (4 * q + j))) (jn_turn hlt hlp i c (k := 4 * q + j) (by omega) (by omega)) ?_))
              exact ⟨⟨j + 1, by omega, rfl, by go_num, trivial⟩, by simp [intOf]; omega⟩
          · obtain rfl : c = j := by omega
            have hso : sumZ (lessT (row4 ts q) m) c = othT (row4 ts q) m := by
              have := sumZ_rest HL.out (o := c) (fun k h1 h2 => HZ.out.2 k h1 h2) (4 - c) (by omega)
              rw [← this, show c + (4 - c) = 4 from by omega]; rfl
            rw [hso]
            clear hso
            go_wp2_with (((with_reducible refine is_load 2 _ rfl ?_); refine wpList_load_cell rfl 2 _ rfl _ 1 rfl (jn i c ts ps) _ A4 _ Try.underlying2 rfl (.int .i64 (c : Int)) (jn_outs i c ts ps) ?_))
            go_loopw [12] (fun kk wr => ∃ (a : Nat) (tn : List Nat), a ≤ c ∧ kk = .int .i64 (a : Int) ∧ Hid (TurnR c m x ts q a tn) ∧ At wr w.heap.size (jn i c tn ps) 30 ∧ At wr (w.heap.size + 1) (#[.int .i64 0, .int .i64 0, .float .f32 0, .float .f32 0, .float .f32 0, .float .f32 0, .float .f32 0, .float .f32 0, .float .f32 0, .float .f32 0, .float .f32 0, .float .f32 0, .float .f32 0, .float .f32 0, .float .f32 0, .float .f32 0, .float .f32 0, .float .f32 0, .float .f32 0, .float .f32 0, .float .f32 0, .float .f32 0]) 30 ∧ Hid (Below w.heap.size w wr)) (fun kk _ => 4 - (intOf kk).toNat)
            case atStart => exact ⟨0, ts, by omega, rfl, Lib.hid ⟨hlt, fun _ h => by omega, fun _ _ _ => rfl⟩, A4, R4, B4⟩
            case round =>
              clear A4 R4 B4
              obtain ⟨a, tn, ha, rfl, hT, A5, R5, B5⟩ := hrel
              have SN := jn_size hT.out.1 hlp i (c : Int)
              by_cases hac : a < c
              · have s2 : IntKind.i64.wrap ((a : Int) + 1) = (a : Int) + 1 := IntWalk.i64_in _ (by omega)
                have jd : decide ((a : Int) < (c : Int)) = true := decide_eq_true (by omega)
                have j4 : decide ((a : Int) < 4) = true := decide_eq_true (by omega)
                by_cases ham : a = m
                · have cm : decide ((a : Int) = (m : Int)) = true := decide_eq_true (by omega)
                  have cm' : ((a : Int) == (m : Int)) = true := by simp [ham]
                  have hagx : Agr x (tgC c m x (row4 ts q) a) := by rw [ham, tgC_at]; exact Agr.refl (by omega)
                  have HR2 : Hid (TurnR c m x ts q (a + 1) (tn.set (4 * q + a) x)) := Lib.hid (hT.out.put hq hm (by omega) (hagx))
                  have A9 := A5.setRow (jn i c (tn.set (4 * q + a) x) ps)
                  have R9 := R5.setRow_other (k := w.heap.size) (by omega) (jn i c (tn.set (4 * q + a) x) ps)
                  have B9 := Lib.hid (bset B5.out (g := w.heap.size) (Nat.le_refl _) (jn i c (tn.set (4 * q + a) x) ps))
                  clear ham hagx
                  go_wp2_with (first | ((with_reducible refine is_load 2 _ rfl ?_); refine wpList_load_cell rfl 2 _ rfl _ 1 rfl (jn i c tn ps) _ A5 _ Try.underlying2 rfl (.int .i64 (c : Int)) (jn_outs i c tn ps) ?_) | ((with_reducible refine is_store 22 (.tmp 93) (.tmp 90) rfl ?_); refine wpList_store_cell rfl 22 (.tmp 93) (.tmp 90) rfl _ _ rfl (.float .f32 x) rfl (jn i c tn ps) _ A5 (by rw [jn_size hT.out.1 hlp]; omega) (by kernel_rfl) rfl (jn i c (tn.set (4 * q + a) x) ps) (jn_setTurn hT.out.1 i c (k := 4 * q + a) (by omega) (by omega) x) ?_))
                  exact ⟨⟨a + 1, tn.set (4 * q + a) x, by omega, by go_num, HR2, A9, R9, B9⟩, by simp [intOf]; omega⟩
                · have cm : decide ((a : Int) = (m : Int)) = false := decide_eq_false (by omega)
                  have cm' : ((a : Int) == (m : Int)) = false := by simp; omega
                  have oe := eq_amt (x := othT (row4 ts q) m) (y := 0) (by omega) (by omega)
                  have hrest := (one_sub hx1).2
                  by_cases hz : othT (row4 ts q) m = 0
                  · rw [decide_eq_true hz] at oe
                    have ff := fo_facts c (by omega)
                    have hcv := ff.1
                    have hq2 : ∀ t w, (binOp .quo t (.float .f32 (subB 1065353216 x)) (.float .f32 (foB c))).run Try.prog w = .ok (.float .f32 (divB (subB 1065353216 x) (foB c))) w := fun t w => run_float_arith w .quo t .f32 _ _ _ (div_some (by omega) ff.2.2 ff.2.1).1
                    have hdl := (div_some (show subB 1065353216 x < 2139095040 by omega) ff.2.2 ff.2.1).2
                    have sw : IntKind.i64.wrap ((c : Int) - 1) = (c : Int) - 1 := IntWalk.i64_in _ (by omega)
                    have hag : Agr (divB (subB 1065353216 x) (foB c)) (tgC c m x (row4 ts q) a) := by rw [tgC_zero ham hz]; exact Agr.refl (by omega)
                    clear ff hrest hdl hz ham
                    generalize divB (subB 1065353216 x) (foB c) = qu at hq2 hag
                    go_wp2_with (((with_reducible refine is_load 2 _ rfl ?_); refine wpList_load_cell rfl 2 _ rfl _ 1 rfl (jn i c tn ps) _ A5 _ Try.underlying2 rfl (.int .i64 (c : Int)) (jn_outs i c tn ps) ?_))
                    refine wp_region_held (S := fun _ => True) (by kernel_rfl) ?_
                    show wpAnyH _ _ _ _ _ 13 (Array.replicate 13 false) _ _
                    have A6 : At { wr with drawn := wr.drawn + 1 } w.heap.size (jn i c tn ps) 30 := A5
                    have R6 : At { wr with drawn := wr.drawn + 1 } (w.heap.size + 1) (#[.int .i64 0, .int .i64 0, .float .f32 0, .float .f32 0, .float .f32 0, .float .f32 0, .float .f32 0, .float .f32 0, .float .f32 0, .float .f32 0, .float .f32 0, .float .f32 0, .float .f32 0, .float .f32 0, .float .f32 0, .float .f32 0, .float .f32 0, .float .f32 0, .float .f32 0, .float .f32 0, .float .f32 0, .float .f32 0]) 30 := R5
                    have B6 : Hid (Below w.heap.size w { wr with drawn := wr.drawn + 1 }) := Lib.hid (bdrew B5.out 1)
                    generalize ({ wr with drawn := wr.drawn + 1 } : World) = w6 at A6 R6 B6 ⊢
                    clear A5 R5 B5
                    refine wpAnyH_take (i := 0) (v := .int .i64 (q : Int)) rfl (by kernel_rfl) (by kernel_rfl) (by kernel_rfl) (fun _ _ _ h => h) (yif rfl fun w' hw' => hx_move (.tmp 1) rfl (by kernel_rfl)) trivial ?_
                    refine wpAnyH_take (i := 1) (v := .int .i64 (a : Int)) rfl (by kernel_rfl) (by kernel_rfl) (by kernel_rfl) (fun _ _ _ h => h) (yif rfl fun w' hw' => hx_move (.tmp 12) rfl (by kernel_rfl)) trivial ?_
                    refine wpAnyH_take (i := 2) (v := .float .f32 x) rfl (by kernel_rfl) (by kernel_rfl) (by kernel_rfl) (fun _ _ _ h => h) (yif rfl fun w' hw' => hx_move (.tmp 3) rfl (by kernel_rfl)) trivial ?_
                    refine wpAnyH_take (i := 3) (v := .float .f32 (subB 1065353216 x)) rfl (by kernel_rfl) (by kernel_rfl) (by kernel_rfl) (fun _ _ _ h => h) (yif rfl fun w' hw' => hx_sub 22 (.const (.float .f32 1065353216)) (.tmp 99) rfl (.float .f32 1065353216) (.float .f32 x) (by kernel_rfl) (by kernel_rfl) (hsub 22 w')) trivial ?_
                    refine wpAnyH_take (i := 4) (v := .pointer (some ⟨w.heap.size, 1, none⟩)) rfl (by kernel_rfl) (by kernel_rfl) (by kernel_rfl) (fun _ _ _ h => h) (yif rfl fun w' hw' => by kernel_rfl) trivial ?_
                    refine wpAnyH_take (i := 9) (v := .pointer (some ⟨w.heap.size, 2, none⟩)) rfl (by kernel_rfl) (by kernel_rfl) (by kernel_rfl) (fun _ _ _ h => h) (yif rfl fun w' hw' => by kernel_rfl) trivial ?_
                    refine wpAnyH_take (i := 10) (v := .pointer (some ⟨w.heap.size, 2 + q * 4, none⟩)) rfl (by kernel_rfl) (by kernel_rfl) (by kernel_rfl) (fun _ _ _ h => h) (yif rfl fun w' hw' => hx_index 27 (.tmp 106) (.tmp 97) rfl (.pointer (some ⟨w.heap.size, 2, none⟩)) (.int .i64 (q : Int)) (by kernel_rfl) (by kernel_rfl) (run_indexA w' 27 23 4 q 4 _ _ Try.underlying27 (by kernel_rfl) (by omega))) trivial ?_
                    refine wpAnyH_all (rs := [5]) (by kernel_rfl) (by simp) fun i' hi'' => ?_
                    obtain rfl := one_of hi''
                    refine op_value (v := .int .i64 (c : Int)) rfl rfl (x_load 2 (.tmp 101) rfl ⟨w.heap.size, 1, none⟩ (by kernel_rfl) (run_load_one w6 2 _ Try.underlying2 rfl _ _ (A6.cell (jn_outs i c tn ps)))) ⟨trivial, ?_⟩
                    refine wpAnyH_take (i := 6) (v := .int .i64 ((c : Int) - 1)) rfl (by kernel_rfl) (by kernel_rfl) (by kernel_rfl) (fun _ _ _ h => h) (yif rfl fun w' hw' => hx_sub 2 (.tmp 102) (.const (.int .i64 1)) rfl (.int .i64 (c : Int)) (.int .i64 1) (by kernel_rfl) (by kernel_rfl) (by rw [run_sub_i64, sw])) trivial ?_
                    refine wpAnyH_take (i := 7) (v := .float .f32 (foB c)) rfl (by kernel_rfl) (by kernel_rfl) (by kernel_rfl) (fun _ _ _ h => h) (yif rfl fun w' hw' => hx_conv 2 22 (.tmp 103) rfl (.int .i64 ((c : Int) - 1)) (by kernel_rfl) (hcv w')) trivial ?_
                    refine wpAnyH_take (i := 8) (v := .float .f32 qu) rfl (by kernel_rfl) (by kernel_rfl) (by kernel_rfl) (fun _ _ _ h => h) (yif rfl fun w' hw' => hx_quo 22 (.tmp 100) (.tmp 104) rfl (.float .f32 (subB 1065353216 x)) (.float .f32 (foB c)) (by kernel_rfl) (by kernel_rfl) (hq2 22 w')) trivial ?_
                    refine wpAnyH_all (rs := [11]) (by kernel_rfl) (by simp) fun i' hi'' => ?_
                    obtain rfl := one_of hi''
                    refine op_value (v := .pointer (some ⟨w.heap.size, 2 + q * 4 + a * 1, none⟩)) rfl rfl (hx_index 23 (.tmp 107) (.tmp 98) rfl (.pointer (some ⟨w.heap.size, 2 + q * 4, none⟩)) (.int .i64 (a : Int)) (by kernel_rfl) (by kernel_rfl) (run_indexA _ 23 22 4 a 1 _ _ Try.underlying23 (by kernel_rfl) (by omega))) ⟨trivial, ?_⟩
                    have hst := run_storeAt_one (P := Try.prog) (w6) w.heap.size (2 + q * 4 + a * 1) 30 22 (jn i c tn ps) (.float .f32 qu) A6 (by kernel_rfl) (by rw [SN]; omega) rfl
                    rw [show (jn i c tn ps).setIfInBounds (2 + q * 4 + a * 1) (.float .f32 qu) = jn i c (tn.set (4 * q + a) qu) ps from jn_setTurn hT.out.1 i c (k := 4 * q + a) (by omega) (by omega) qu] at hst
                    refine wpAnyH_all (rs := [12]) (by kernel_rfl) (by simp) fun i' hi'' => ?_
                    obtain rfl := one_of hi''
                    refine op_skip rfl rfl (hx_store 22 (.tmp 108) (.tmp 105) rfl (.pointer (some ⟨w.heap.size, 2 + q * 4 + a * 1, none⟩)) (.float .f32 qu) (by kernel_rfl) (by kernel_rfl) hst) ⟨trivial, ?_⟩
                    refine wpAnyH_done (by kernel_rfl) ?_ _
                    have HR2 : Hid (TurnR c m x ts q (a + 1) (tn.set (4 * q + a) qu)) := Lib.hid (hT.out.put hq hm (by omega) (hag))
                    have A9 := A6.setRow (jn i c (tn.set (4 * q + a) qu) ps)
                    have R9 := R6.setRow_other (k := w.heap.size) (by omega) (jn i c (tn.set (4 * q + a) qu) ps)
                    have B9 := Lib.hid (bset B6.out (g := w.heap.size) (Nat.le_refl _) (jn i c (tn.set (4 * q + a) qu) ps))
                    clear hst hag hT A6 R6 B6
                    generalize ((w6).setRow w.heap.size (jn i c (tn.set (4 * q + a) qu) ps) : World) = w9 at A9 R9 B9 ⊢
                    generalize hA : Act.put _ _ _ = A
                    have eA : A = { tmps := #[.agg (jn i c ts ps), .int .i64 (q : Int), .int .i64 (m : Int), .float .f32 x, .pointer (some ⟨w.heap.size, 0, none⟩), undef, undef, undef, .pointer (some ⟨w.heap.size + 1, 0, none⟩), .int .i64 0, .float .f32 (othT (row4 ts q) m), .int .i64 (c : Int), .int .i64 (a : Int), .bool true, .bool false, undef, .int .i64 (q : Int), .pointer (some ⟨w.heap.size, 0, none⟩), .int .i64 i, .int .i64 (i - 1), .bool true, .bool false, .bool false, .int .i64 (m : Int), .pointer (some ⟨w.heap.size, 1, none⟩), .int .i64 (c : Int), .int .i64 ((c : Int) - 1), .bool true, .bool false, .bool false, .bool false, .float .f32 x, .bool true, .bool false, .bool false, .bool false, .pointer (some ⟨w.heap.size, 1, none⟩), .int .i64 (c : Int), .bool false, .bool false, undef, undef, .bool false, .bool false, undef, .int .i64 (c : Int), .pointer (some ⟨w.heap.size, 1, none⟩), .int .i64 (c : Int), .bool false, u49, u50, u51, u52, u53, u54, u55, u56, u57, u58, u59, u60, u61, .int .i64 (a : Int), .pointer (some ⟨w.heap.size, 1, none⟩), .int .i64 (c : Int), .bool true, u66, u67, u68, u69, u70, u71, u72, u73, u74, u75, u76, u77, u78, u79, u80, u81, u82, u83, .bool false, .int .i64 (a : Int), .int .i64 (m : Int), .bool false, u88, u89, u90, u91, u92, u93, .bool true, .float .f32 (othT (row4 ts q) m), .bool true, .int .i64 (q : Int), .int .i64 (a : Int), .float .f32 x, .float .f32 (subB 1065353216 x), .pointer (some ⟨w.heap.size, 1, none⟩), .int .i64 (c : Int), .int .i64 ((c : Int) - 1), .float .f32 (foB c), .float .f32 qu, .pointer (some ⟨w.heap.size, 2, none⟩), .pointer (some ⟨w.heap.size, 2 + q * 4, none⟩), .pointer (some ⟨w.heap.size, 2 + q * 4 + a * 1, none⟩), undef, undef, undef, undef], defers := [] } := by rw [← hA]; kernel_rfl
                    clear hA
                    subst eA
                    go_wp2
                    exact ⟨⟨a + 1, tn.set (4 * q + a) qu, by omega, by go_num, HR2, A9, R9, B9⟩, by simp [intOf]; omega⟩
                  · rw [decide_eq_false hz] at oe
                    have hd := div_some (show subB 1065353216 x < 2139095040 by omega) hoth (by omega)
                    have hq2 : ∀ t w, (binOp .quo t (.float .f32 (subB 1065353216 x)) (.float .f32 (othT (row4 ts q) m))).run Try.prog w = .ok (.float .f32 (divB (subB 1065353216 x) (othT (row4 ts q) m))) w := fun t w => run_float_arith w .quo t .f32 _ _ _ hd.1
                    have htg := tgC_part (o := c) (x := x) ham hz
                    rw [row4_nth hlt q (by omega)] at htg
                    have hcl : (jn i c tn ps)[2 + q * 4 + a * 1]? = some (.float .f32 (nth ts (4 * q + a))) := by
                      rw [← hT.out.2.2 (4 * q + a) (by omega) (by omega)]; exact jn_turn hT.out.1 hlp i c (k := 4 * q + a) (by omega) (by omega)
                    clear hd hrest hz ham
                    generalize divB (subB 1065353216 x) (othT (row4 ts q) m) = qu at hq2 htg
                    go_wp2_with (((with_reducible refine is_load 2 _ rfl ?_); refine wpList_load_cell rfl 2 _ rfl _ 1 rfl (jn i c tn ps) _ A5 _ Try.underlying2 rfl (.int .i64 (c : Int)) (jn_outs i c tn ps) ?_))
                    refine wp_region_held (S := fun _ => True) (by kernel_rfl) ?_
                    show wpAnyH _ _ _ _ _ 17 (Array.replicate 17 false) _ _
                    have A6 : At { wr with drawn := wr.drawn + 1 } w.heap.size (jn i c tn ps) 30 := A5
                    have R6 : At { wr with drawn := wr.drawn + 1 } (w.heap.size + 1) (#[.int .i64 0, .int .i64 0, .float .f32 0, .float .f32 0, .float .f32 0, .float .f32 0, .float .f32 0, .float .f32 0, .float .f32 0, .float .f32 0, .float .f32 0, .float .f32 0, .float .f32 0, .float .f32 0, .float .f32 0, .float .f32 0, .float .f32 0, .float .f32 0, .float .f32 0, .float .f32 0, .float .f32 0, .float .f32 0]) 30 := R5
                    have B6 : Hid (Below w.heap.size w { wr with drawn := wr.drawn + 1 }) := Lib.hid (bdrew B5.out 1)
                    generalize ({ wr with drawn := wr.drawn + 1 } : World) = w6 at A6 R6 B6 ⊢
                    clear A5 R5 B5
                    refine wpAnyH_take (i := 0) (v := .int .i64 (q : Int)) rfl (by kernel_rfl) (by kernel_rfl) (by kernel_rfl) (fun _ _ _ h => h) (yif rfl fun w' hw' => hx_move (.tmp 1) rfl (by kernel_rfl)) trivial ?_
                    refine wpAnyH_take (i := 1) (v := .int .i64 (a : Int)) rfl (by kernel_rfl) (by kernel_rfl) (by kernel_rfl) (fun _ _ _ h => h) (yif rfl fun w' hw' => hx_move (.tmp 12) rfl (by kernel_rfl)) trivial ?_
                    refine wpAnyH_take (i := 2) (v := .int .i64 (q : Int)) rfl (by kernel_rfl) (by kernel_rfl) (by kernel_rfl) (fun _ _ _ h => h) (yif rfl fun w' hw' => hx_move (.tmp 1) rfl (by kernel_rfl)) trivial ?_
                    refine wpAnyH_take (i := 3) (v := .int .i64 (a : Int)) rfl (by kernel_rfl) (by kernel_rfl) (by kernel_rfl) (fun _ _ _ h => h) (yif rfl fun w' hw' => hx_move (.tmp 12) rfl (by kernel_rfl)) trivial ?_
                    refine wpAnyH_take (i := 4) (v := .pointer (some ⟨w.heap.size, 2, none⟩)) rfl (by kernel_rfl) (by kernel_rfl) (by kernel_rfl) (fun _ _ _ h => h) (yif rfl fun w' hw' => by kernel_rfl) trivial ?_
                    refine wpAnyH_take (i := 5) (v := .pointer (some ⟨w.heap.size, 2 + q * 4, none⟩)) rfl (by kernel_rfl) (by kernel_rfl) (by kernel_rfl) (fun _ _ _ h => h) (yif rfl fun w' hw' => hx_index 27 (.tmp 72) (.tmp 70) rfl (.pointer (some ⟨w.heap.size, 2, none⟩)) (.int .i64 (q : Int)) (by kernel_rfl) (by kernel_rfl) (run_indexA w' 27 23 4 q 4 _ _ Try.underlying27 (by kernel_rfl) (by omega))) trivial ?_
                    refine wpAnyH_take (i := 6) (v := .pointer (some ⟨w.heap.size, 2 + q * 4 + a * 1, none⟩)) rfl (by kernel_rfl) (by kernel_rfl) (by kernel_rfl) (fun _ _ _ h => h) (yif rfl fun w' hw' => hx_index 23 (.tmp 73) (.tmp 71) rfl (.pointer (some ⟨w.heap.size, 2 + q * 4, none⟩)) (.int .i64 (a : Int)) (by kernel_rfl) (by kernel_rfl) (run_indexA w' 23 22 4 a 1 _ _ Try.underlying23 (by kernel_rfl) (by omega))) trivial ?_
                    refine wpAnyH_take (i := 8) (v := .float .f32 x) rfl (by kernel_rfl) (by kernel_rfl) (by kernel_rfl) (fun _ _ _ h => h) (yif rfl fun w' hw' => hx_move (.tmp 3) rfl (by kernel_rfl)) trivial ?_
                    refine wpAnyH_take (i := 9) (v := .float .f32 (subB 1065353216 x)) rfl (by kernel_rfl) (by kernel_rfl) (by kernel_rfl) (fun _ _ _ h => h) (yif rfl fun w' hw' => hx_sub 22 (.const (.float .f32 1065353216)) (.tmp 76) rfl (.float .f32 1065353216) (.float .f32 x) (by kernel_rfl) (by kernel_rfl) (hsub 22 w')) trivial ?_
                    refine wpAnyH_take (i := 10) (v := .float .f32 (othT (row4 ts q) m)) rfl (by kernel_rfl) (by kernel_rfl) (by kernel_rfl) (fun _ _ _ h => h) (yif rfl fun w' hw' => hx_move (.tmp 10) rfl (by kernel_rfl)) trivial ?_
                    refine wpAnyH_take (i := 11) (v := .float .f32 qu) rfl (by kernel_rfl) (by kernel_rfl) (by kernel_rfl) (fun _ _ _ h => h) (yif rfl fun w' hw' => hx_quo 22 (.tmp 77) (.tmp 78) rfl (.float .f32 (subB 1065353216 x)) (.float .f32 (othT (row4 ts q) m)) (by kernel_rfl) (by kernel_rfl) (hq2 22 w')) trivial ?_
                    refine wpAnyH_take (i := 13) (v := .pointer (some ⟨w.heap.size, 2, none⟩)) rfl (by kernel_rfl) (by kernel_rfl) (by kernel_rfl) (fun _ _ _ h => h) (yif rfl fun w' hw' => by kernel_rfl) trivial ?_
                    refine wpAnyH_take (i := 14) (v := .pointer (some ⟨w.heap.size, 2 + q * 4, none⟩)) rfl (by kernel_rfl) (by kernel_rfl) (by kernel_rfl) (fun _ _ _ h => h) (yif rfl fun w' hw' => hx_index 27 (.tmp 81) (.tmp 68) rfl (.pointer (some ⟨w.heap.size, 2, none⟩)) (.int .i64 (q : Int)) (by kernel_rfl) (by kernel_rfl) (run_indexA w' 27 23 4 q 4 _ _ Try.underlying27 (by kernel_rfl) (by omega))) trivial ?_
                    refine wpAnyH_all (rs := [7]) (by kernel_rfl) (by simp) fun i' hi'' => ?_
                    obtain rfl := one_of hi''
                    refine op_value (v := .float .f32 (nth ts (4 * q + a))) rfl rfl (x_load 22 (.tmp 74) rfl ⟨w.heap.size, 2 + q * 4 + a * 1, none⟩ (by kernel_rfl) (run_load_cell w6 22 _ Try.underlying22 _ _ (A6.cell hcl))) ⟨trivial, ?_⟩
                    obtain ⟨z, n1, e1, r1⟩ := run_mul_any (P := Try.prog) 22 (nth ts (4 * q + a)) qu w6
                    have hag : Agr z (tgC c m x (row4 ts q) a) := by rw [htg]; exact r1.agr
                    refine wpAnyH_all (rs := [12]) (by kernel_rfl) (by simp) fun i' hi'' => ?_
                    obtain rfl := one_of hi''
                    refine op_value (v := .float .f32 z) rfl rfl (hx_mul 22 (.tmp 75) (.tmp 79) rfl (.float .f32 (nth ts (4 * q + a))) (.float .f32 qu) (by kernel_rfl) (by kernel_rfl) e1) ⟨trivial, ?_⟩
                    refine wpAnyH_all (rs := [15]) (by kernel_rfl) (by simp) fun i' hi'' => ?_
                    obtain rfl := one_of hi''
                    refine op_value (v := .pointer (some ⟨w.heap.size, 2 + q * 4 + a * 1, none⟩)) rfl rfl (hx_index 23 (.tmp 82) (.tmp 69) rfl (.pointer (some ⟨w.heap.size, 2 + q * 4, none⟩)) (.int .i64 (a : Int)) (by kernel_rfl) (by kernel_rfl) (run_indexA _ 23 22 4 a 1 _ _ Try.underlying23 (by kernel_rfl) (by omega))) ⟨trivial, ?_⟩
                    have hst := run_storeAt_one (P := Try.prog) (w6.drewN n1) w.heap.size (2 + q * 4 + a * 1) 30 22 (jn i c tn ps) (.float .f32 z) (A6.drewN n1) (by kernel_rfl) (by rw [SN]; omega) rfl
                    rw [show (jn i c tn ps).setIfInBounds (2 + q * 4 + a * 1) (.float .f32 z) = jn i c (tn.set (4 * q + a) z) ps from jn_setTurn hT.out.1 i c (k := 4 * q + a) (by omega) (by omega) z] at hst
                    refine wpAnyH_all (rs := [16]) (by kernel_rfl) (by simp) fun i' hi'' => ?_
                    obtain rfl := one_of hi''
                    refine op_skip rfl rfl (hx_store 22 (.tmp 83) (.tmp 80) rfl (.pointer (some ⟨w.heap.size, 2 + q * 4 + a * 1, none⟩)) (.float .f32 z) (by kernel_rfl) (by kernel_rfl) hst) ⟨trivial, ?_⟩
                    refine wpAnyH_done (by kernel_rfl) ?_ _
                    have HR2 : Hid (TurnR c m x ts q (a + 1) (tn.set (4 * q + a) z)) := Lib.hid (hT.out.put hq hm (by omega) (hag))
                    have A9 := (A6.drewN n1).setRow (jn i c (tn.set (4 * q + a) z) ps)
                    have R9 := (R6.drewN n1).setRow_other (k := w.heap.size) (by omega) (jn i c (tn.set (4 * q + a) z) ps)
                    have B9 := Lib.hid (bset (Lib.hid (bdrew B6.out n1)).out (g := w.heap.size) (Nat.le_refl _) (jn i c (tn.set (4 * q + a) z) ps))
                    clear hst hag hT A6 R6 B6 e1 r1 htg
                    generalize ((w6.drewN n1).setRow w.heap.size (jn i c (tn.set (4 * q + a) z) ps) : World) = w9 at A9 R9 B9 ⊢
                    generalize hA : Act.put _ _ _ = A
                    have eA : A = { tmps := #[.agg (jn i c ts ps), .int .i64 (q : Int), .int .i64 (m : Int), .float .f32 x, .pointer (some ⟨w.heap.size, 0, none⟩), undef, undef, undef, .pointer (some ⟨w.heap.size + 1, 0, none⟩), .int .i64 0, .float .f32 (othT (row4 ts q) m), .int .i64 (c : Int), .int .i64 (a : Int), .bool true, .bool false, undef, .int .i64 (q : Int), .pointer (some ⟨w.heap.size, 0, none⟩), .int .i64 i, .int .i64 (i - 1), .bool true, .bool false, .bool false, .int .i64 (m : Int), .pointer (some ⟨w.heap.size, 1, none⟩), .int .i64 (c : Int), .int .i64 ((c : Int) - 1), .bool true, .bool false, .bool false, .bool false, .float .f32 x, .bool true, .bool false, .bool false, .bool false, .pointer (some ⟨w.heap.size, 1, none⟩), .int .i64 (c : Int), .bool false, .bool false, undef, undef, .bool false, .bool false, undef, .int .i64 (c : Int), .pointer (some ⟨w.heap.size, 1, none⟩), .int .i64 (c : Int), .bool false, u49, u50, u51, u52, u53, u54, u55, u56, u57, u58, u59, u60, u61, .int .i64 (a : Int), .pointer (some ⟨w.heap.size, 1, none⟩), .int .i64 (c : Int), .bool true, u66, u67, .int .i64 (q : Int), .int .i64 (a : Int), .int .i64 (q : Int), .int .i64 (a : Int), .pointer (some ⟨w.heap.size, 2, none⟩), .pointer (some ⟨w.heap.size, 2 + q * 4, none⟩), .pointer (some ⟨w.heap.size, 2 + q * 4 + a * 1, none⟩), .float .f32 (nth ts (4 * q + a)), .float .f32 x, .float .f32 (subB 1065353216 x), .float .f32 (othT (row4 ts q) m), .float .f32 qu, .float .f32 z, .pointer (some ⟨w.heap.size, 2, none⟩), .pointer (some ⟨w.heap.size, 2 + q * 4, none⟩), .pointer (some ⟨w.heap.size, 2 + q * 4 + a * 1, none⟩), .bool false, .int .i64 (a : Int), .int .i64 (m : Int), .bool false, u88, u89, u90, u91, u92, u93, .bool false, .float .f32 (othT (row4 ts q) m), .bool false, u97, u98, u99, u100, u101, u102, u103, u104, u105, u106, u107, u108, undef, undef, undef, undef], defers := [] } := by rw [← hA]; kernel_rfl
                    clear hA
                    subst eA
                    go_wp2
                    exact ⟨⟨a + 1, tn.set (4 * q + a) z, by omega, by go_num, HR2, A9, R9, B9⟩, by simp [intOf]; omega⟩
              · obtain rfl : c = a := by omega
                have hAL := hT.out.agr hct
                have hpl := hT.out.1
                clear hT
                have CT := hAL.lt
                have OK := hAL.ok (i := i) (o := (c : Int)) (ps := ps)
                cases ht : okJ i c tn ps
                · have ev : (vSetTurn i c ts ps q m x) = (0, 0, zeros 16, zeros 4, 4) := by unfold vSetTurn; simp only [Int.toNat_natCast]; rw [h, if_pos rfl, hcond, if_pos rfl, if_neg (by rw [← OK, ht]; decide)]
                  go_wp2_with (((with_reducible refine is_load 2 _ rfl ?_); refine wpList_load_cell rfl 2 _ rfl _ 1 rfl (jn i c tn ps) _ A5 _ Try.underlying2 rfl (.int .i64 (c : Int)) (jn_outs i c tn ps) ?_))
                  refine (l03Ok_b _ i c tn ps hi ho hpl hlp CT hcp _ _ A5).mono ?_
                  rw [ht]
                  rintro e w8 ⟨rfl, n8, rfl⟩
                  have R8 := R5.drewN n8
                  have B8 := Lib.hid (bdrew B5.out n8)
                  generalize hw8 : World.drewN _ _ = w8 at R8 B8 ⊢
                  clear R5 B5 A5 hw8
                  have R9 := R8.setRow (#[.int .i64 0, .int .i64 0, .float .f32 0, .float .f32 0, .float .f32 0, .float .f32 0, .float .f32 0, .float .f32 0, .float .f32 0, .float .f32 0, .float .f32 0, .float .f32 0, .float .f32 0, .float .f32 0, .float .f32 0, .float .f32 0, .float .f32 0, .float .f32 0, .float .f32 0, .float .f32 0, .float .f32 0, .float .f32 0])
                  have B9 := Lib.hid (bset B8.out (g := w.heap.size + 1) (by omega) (#[.int .i64 0, .int .i64 0, .float .f32 0, .float .f32 0, .float .f32 0, .float .f32 0, .float .f32 0, .float .f32 0, .float .f32 0, .float .f32 0, .float .f32 0, .float .f32 0, .float .f32 0, .float .f32 0, .float .f32 0, .float .f32 0, .float .f32 0, .float .f32 0, .float .f32 0, .float .f32 0, .float .f32 0, .float .f32 0]))
                  go_wp2_with (((with_reducible refine is_store 30 (.tmp 8) (.tmp 111) rfl ?_); refine wpList_store_at rfl 30 (.tmp 8) (.tmp 111) rfl _ rfl (#[.int .i64 0, .int .i64 0, .float .f32 0, .float .f32 0, .float .f32 0, .float .f32 0, .float .f32 0, .float .f32 0, .float .f32 0, .float .f32 0, .float .f32 0, .float .f32 0, .float .f32 0, .float .f32 0, .float .f32 0, .float .f32 0, .float .f32 0, .float .f32 0, .float .f32 0, .float .f32 0, .float .f32 0, .float .f32 0]) rfl (#[.int .i64 0, .int .i64 0, .float .f32 0, .float .f32 0, .float .f32 0, .float .f32 0, .float .f32 0, .float .f32 0, .float .f32 0, .float .f32 0, .float .f32 0, .float .f32 0, .float .f32 0, .float .f32 0, .float .f32 0, .float .f32 0, .float .f32 0, .float .f32 0, .float .f32 0, .float .f32 0, .float .f32 0, .float .f32 0]) _ (by assumption) 22 ((by rw [zlit]; exact jn_size (zeros_len 16) (zeros_len 4) _ _)) ((by rw [zlit]; exact jn_size (zeros_len 16) (zeros_len 4) _ _)) (by kernel_rfl) ((by rw [zlit]; exact jn_one _ _ _ _)) ?_))
                  exact bodyPost_ret (v := .tuple #[.agg (#[.int .i64 0, .int .i64 0, .float .f32 0, .float .f32 0, .float .f32 0, .float .f32 0, .float .f32 0, .float .f32 0, .float .f32 0, .float .f32 0, .float .f32 0, .float .f32 0, .float .f32 0, .float .f32 0, .float .f32 0, .float .f32 0, .float .f32 0, .float .f32 0, .float .f32 0, .float .f32 0, .float .f32 0, .float .f32 0]), .int .i64 4]) (results_at_tmp (p := 8) (ty := 30) rfl _ _ _ (#[.int .i64 0, .int .i64 0, .float .f32 0, .float .f32 0, .float .f32 0, .float .f32 0, .float .f32 0, .float .f32 0, .float .f32 0, .float .f32 0, .float .f32 0, .float .f32 0, .float .f32 0, .float .f32 0, .float .f32 0, .float .f32 0, .float .f32 0, .float .f32 0, .float .f32 0, .float .f32 0, .float .f32 0, .float .f32 0]) _ (.int .i64 4) rfl rfl R9 _ Try.underlying30 rfl 22 ((by rw [zlit]; exact jn_size (zeros_len 16) (zeros_len 4) _ _)) (by kernel_rfl)) rfl ⟨by rw [ev, ← zlit], B9.out⟩
                · have eq := AgrL.eq hAL ht
                  subst eq
                  have ev : (vSetTurn i c ts ps q m x) = (i, (c : Int), tgT c q m x ts, ps, 0) := by unfold vSetTurn; simp only [Int.toNat_natCast]; rw [h, if_pos rfl, hcond, if_pos rfl, if_pos ht]
                  go_wp2_with (((with_reducible refine is_load 2 _ rfl ?_); refine wpList_load_cell rfl 2 _ rfl _ 1 rfl (jn i c (tgT c q m x ts) ps) _ A5 _ Try.underlying2 rfl (.int .i64 (c : Int)) (jn_outs i c (tgT c q m x ts) ps) ?_))
                  refine (l03Ok_b _ i c (tgT c q m x ts) ps hi ho hpl hlp CT hcp _ _ A5).mono ?_
                  rw [ht]
                  rintro e w8 ⟨rfl, n8, rfl⟩
                  have A8 := A5.drewN n8
                  have R8 := R5.drewN n8
                  have B8 := Lib.hid (bdrew B5.out n8)
                  generalize hw8 : World.drewN _ _ = w8 at A8 R8 B8 ⊢
                  clear R5 B5 A5 hw8
                  have R9 := R8.setRow (jn i c (tgT c q m x ts) ps)
                  have B9 := Lib.hid (bset B8.out (g := w.heap.size + 1) (by omega) (jn i c (tgT c q m x ts) ps))
                  go_wp2_with (first | ((with_reducible refine is_load 30 _ rfl ?_); refine wpList_load_at rfl 30 _ rfl _ rfl (jn i c (tgT c q m x ts) ps) _ A8 22 (SN) _ Try.underlying30 rfl (by kernel_rfl) ?_) | ((with_reducible refine is_store 30 (.tmp 8) (.tmp 112) rfl ?_); refine wpList_store_at rfl 30 (.tmp 8) (.tmp 112) rfl _ rfl (jn i c (tgT c q m x ts) ps) rfl (#[.int .i64 0, .int .i64 0, .float .f32 0, .float .f32 0, .float .f32 0, .float .f32 0, .float .f32 0, .float .f32 0, .float .f32 0, .float .f32 0, .float .f32 0, .float .f32 0, .float .f32 0, .float .f32 0, .float .f32 0, .float .f32 0, .float .f32 0, .float .f32 0, .float .f32 0, .float .f32 0, .float .f32 0, .float .f32 0]) _ R8 22 (SN) ((by rw [zlit]; exact jn_size (zeros_len 16) (zeros_len 4) _ _)) (by kernel_rfl) (jn_one _ _ _ _) ?_))
                  exact bodyPost_ret (v := .tuple #[.agg (jn i c (tgT c q m x ts) ps), .int .i64 0]) (results_at_tmp (p := 8) (ty := 30) rfl _ _ _ (jn i c (tgT c q m x ts) ps) _ (.int .i64 0) rfl rfl R9 _ Try.underlying30 rfl 22 (SN) (by kernel_rfl)) rfl ⟨by rw [ev], B9.out⟩
    · have hon' : decide (0 ≤ n ∧ n < o) = false := decide_eq_false hno
      have hon : inB 0 (o - 1) n = false := decide_eq_false (by omega)
      clear hki hno hb
      have ev : (vSetTurn i o ts ps q n x) = (0, 0, zeros 16, zeros 4, 2) := by unfold vSetTurn; rw [h, hin', hon']; rfl
      rw [ev]
      clear ev
      go_enter Try.func15, Try.ntmps15
      go_wp2_with fail
      refine (l03Ok_b _ i o ts ps hi ho hlt hlp hct hcp _ _ A0).mono ?_
      rw [h]
      rintro e w1 ⟨rfl, n1, rfl⟩
      have A1 := A0.drewN n1
      have R1 := R0.drewN n1
      have B1 := Lib.hid (bdrew B0.out n1)
      generalize hw1 : World.drewN _ _ = w1 at A1 R1 B1 ⊢
      clear A0 R0 B0 hw1
      go_wp2_with (((with_reducible refine is_load 2 _ rfl ?_); refine wpList_load_cell rfl 2 _ rfl _ 0 rfl (jn i o ts ps) _ A1 _ Try.underlying2 rfl (.int .i64 i) (jn_ins i o ts ps) ?_))
      refine (l00In_b q 0 (i - 1) _).mono ?_
      rw [hin]
      rintro e w2 ⟨rfl, n2, rfl⟩
      have A2 := A1.drewN n2
      have R2 := R1.drewN n2
      have B2 := Lib.hid (bdrew B1.out n2)
      generalize hw2 : World.drewN _ _ = w2 at A2 R2 B2 ⊢
      clear A1 R1 B1 hw2
      go_wp2_with (((with_reducible refine is_load 2 _ rfl ?_); refine wpList_load_cell_g rfl 2 _ rfl _ 1 rfl (jn i o ts ps) _ A2 _ Try.underlying2 rfl (.int .i64 o) (jn_outs i o ts ps) ?_))
      refine (l00In_b n 0 (o - 1) _).mono ?_
      rw [hon]
      rintro e w3 ⟨rfl, n3, rfl⟩
      have A3 := A2.drewN n3
      have R3 := R2.drewN n3
      have B3 := Lib.hid (bdrew B2.out n3)
      generalize hw3 : World.drewN _ _ = w3 at A3 R3 B3 ⊢
      clear A2 R2 B2 hw3
      have R9 := R3.setRow (#[.int .i64 0, .int .i64 0, .float .f32 0, .float .f32 0, .float .f32 0, .float .f32 0, .float .f32 0, .float .f32 0, .float .f32 0, .float .f32 0, .float .f32 0, .float .f32 0, .float .f32 0, .float .f32 0, .float .f32 0, .float .f32 0, .float .f32 0, .float .f32 0, .float .f32 0, .float .f32 0, .float .f32 0, .float .f32 0])
      have B9 := Lib.hid (bset B3.out (g := w.heap.size + 1) (by omega) (#[.int .i64 0, .int .i64 0, .float .f32 0, .float .f32 0, .float .f32 0, .float .f32 0, .float .f32 0, .float .f32 0, .float .f32 0, .float .f32 0, .float .f32 0, .float .f32 0, .float .f32 0, .float .f32 0, .float .f32 0, .float .f32 0, .float .f32 0, .float .f32 0, .float .f32 0, .float .f32 0, .float .f32 0, .float .f32 0]))
      go_wp2_with (((with_reducible refine is_store 30 (.tmp 8) (.tmp 44) rfl ?_); refine wpList_store_at rfl 30 (.tmp 8) (.tmp 44) rfl _ rfl (#[.int .i64 0, .int .i64 0, .float .f32 0, .float .f32 0, .float .f32 0, .float .f32 0, .float .f32 0, .float .f32 0, .float .f32 0, .float .f32 0, .float .f32 0, .float .f32 0, .float .f32 0, .float .f32 0, .float .f32 0, .float .f32 0, .float .f32 0, .float .f32 0, .float .f32 0, .float .f32 0, .float .f32 0, .float .f32 0]) rfl (#[.int .i64 0, .int .i64 0, .float .f32 0, .float .f32 0, .float .f32 0, .float .f32 0, .float .f32 0, .float .f32 0, .float .f32 0, .float .f32 0, .float .f32 0, .float .f32 0, .float .f32 0, .float .f32 0, .float .f32 0, .float .f32 0, .float .f32 0, .float .f32 0, .float .f32 0, .float .f32 0, .float .f32 0, .float .f32 0]) _ (by assumption) 22 ((by rw [zlit]; exact jn_size (zeros_len 16) (zeros_len 4) _ _)) ((by rw [zlit]; exact jn_size (zeros_len 16) (zeros_len 4) _ _)) (by kernel_rfl) ((by rw [zlit]; exact jn_one _ _ _ _)) ?_))
      rw [← zlit]
      exact bodyPost_ret (v := .tuple #[.agg (#[.int .i64 0, .int .i64 0, .float .f32 0, .float .f32 0, .float .f32 0, .float .f32 0, .float .f32 0, .float .f32 0, .float .f32 0, .float .f32 0, .float .f32 0, .float .f32 0, .float .f32 0, .float .f32 0, .float .f32 0, .float .f32 0, .float .f32 0, .float .f32 0, .float .f32 0, .float .f32 0, .float .f32 0, .float .f32 0]), .int .i64 2]) (results_at_tmp (p := 8) (ty := 30) rfl _ _ _ (#[.int .i64 0, .int .i64 0, .float .f32 0, .float .f32 0, .float .f32 0, .float .f32 0, .float .f32 0, .float .f32 0, .float .f32 0, .float .f32 0, .float .f32 0, .float .f32 0, .float .f32 0, .float .f32 0, .float .f32 0, .float .f32 0, .float .f32 0, .float .f32 0, .float .f32 0, .float .f32 0, .float .f32 0, .float .f32 0]) _ (.int .i64 2) rfl rfl R9 _ Try.underlying30 rfl 22 ((by rw [zlit]; exact jn_size (zeros_len 16) (zeros_len 4) _ _)) (by kernel_rfl)) rfl ⟨rfl, B9.out⟩
  · have hin' : decide (0 ≤ k ∧ k < i) = false := decide_eq_false hki
    have hin : inB 0 (i - 1) k = false := decide_eq_false (by omega)
    clear hki hb
    have ev : (vSetTurn i o ts ps k n x) = (0, 0, zeros 16, zeros 4, 2) := by unfold vSetTurn; rw [h, hin']; rfl
    rw [ev]
    clear ev
    go_enter Try.func15, Try.ntmps15
    go_wp2_with fail
    refine (l03Ok_b _ i o ts ps hi ho hlt hlp hct hcp _ _ A0).mono ?_
    rw [h]
    rintro e w1 ⟨rfl, n1, rfl⟩
    have A1 := A0.drewN n1
    have R1 := R0.drewN n1
    have B1 := Lib.hid (bdrew B0.out n1)
    generalize hw1 : World.drewN _ _ = w1 at A1 R1 B1 ⊢
    clear A0 R0 B0 hw1
    go_wp2_with (((with_reducible refine is_load 2 _ rfl ?_); refine wpList_load_cell rfl 2 _ rfl _ 0 rfl (jn i o ts ps) _ A1 _ Try.underlying2 rfl (.int .i64 i) (jn_ins i o ts ps) ?_))
    refine (l00In_b k 0 (i - 1) _).mono ?_
    rw [hin]
    rintro e w2 ⟨rfl, n2, rfl⟩
    have A2 := A1.drewN n2
    have R2 := R1.drewN n2
    have B2 := Lib.hid (bdrew B1.out n2)
    generalize hw2 : World.drewN _ _ = w2 at A2 R2 B2 ⊢
    clear A1 R1 B1 hw2
    have R9 := R2.setRow (#[.int .i64 0, .int .i64 0, .float .f32 0, .float .f32 0, .float .f32 0, .float .f32 0, .float .f32 0, .float .f32 0, .float .f32 0, .float .f32 0, .float .f32 0, .float .f32 0, .float .f32 0, .float .f32 0, .float .f32 0, .float .f32 0, .float .f32 0, .float .f32 0, .float .f32 0, .float .f32 0, .float .f32 0, .float .f32 0])
    have B9 := Lib.hid (bset B2.out (g := w.heap.size + 1) (by omega) (#[.int .i64 0, .int .i64 0, .float .f32 0, .float .f32 0, .float .f32 0, .float .f32 0, .float .f32 0, .float .f32 0, .float .f32 0, .float .f32 0, .float .f32 0, .float .f32 0, .float .f32 0, .float .f32 0, .float .f32 0, .float .f32 0, .float .f32 0, .float .f32 0, .float .f32 0, .float .f32 0, .float .f32 0, .float .f32 0]))
    go_wp2_with (((with_reducible refine is_store 30 (.tmp 8) (.tmp 44) rfl ?_); refine wpList_store_at rfl 30 (.tmp 8) (.tmp 44) rfl _ rfl (#[.int .i64 0, .int .i64 0, .float .f32 0, .float .f32 0, .float .f32 0, .float .f32 0, .float .f32 0, .float .f32 0, .float .f32 0, .float .f32 0, .float .f32 0, .float .f32 0, .float .f32 0, .float .f32 0, .float .f32 0, .float .f32 0, .float .f32 0, .float .f32 0, .float .f32 0, .float .f32 0, .float .f32 0, .float .f32 0]) rfl (#[.int .i64 0, .int .i64 0, .float .f32 0, .float .f32 0, .float .f32 0, .float .f32 0, .float .f32 0, .float .f32 0, .float .f32 0, .float .f32 0, .float .f32 0, .float .f32 0, .float .f32 0, .float .f32 0, .float .f32 0, .float .f32 0, .float .f32 0, .float .f32 0, .float .f32 0, .float .f32 0, .float .f32 0, .float .f32 0]) _ (by assumption) 22 ((by rw [zlit]; exact jn_size (zeros_len 16) (zeros_len 4) _ _)) ((by rw [zlit]; exact jn_size (zeros_len 16) (zeros_len 4) _ _)) (by kernel_rfl) ((by rw [zlit]; exact jn_one _ _ _ _)) ?_))
    rw [← zlit]
    exact bodyPost_ret (v := .tuple #[.agg (#[.int .i64 0, .int .i64 0, .float .f32 0, .float .f32 0, .float .f32 0, .float .f32 0, .float .f32 0, .float .f32 0, .float .f32 0, .float .f32 0, .float .f32 0, .float .f32 0, .float .f32 0, .float .f32 0, .float .f32 0, .float .f32 0, .float .f32 0, .float .f32 0, .float .f32 0, .float .f32 0, .float .f32 0, .float .f32 0]), .int .i64 2]) (results_at_tmp (p := 8) (ty := 30) rfl _ _ _ (#[.int .i64 0, .int .i64 0, .float .f32 0, .float .f32 0, .float .f32 0, .float .f32 0, .float .f32 0, .float .f32 0, .float .f32 0, .float .f32 0, .float .f32 0, .float .f32 0, .float .f32 0, .float .f32 0, .float .f32 0, .float .f32 0, .float .f32 0, .float .f32 0, .float .f32 0, .float .f32 0, .float .f32 0, .float .f32 0]) _ (.int .i64 2) rfl rfl R9 _ Try.underlying30 rfl 22 ((by rw [zlit]; exact jn_size (zeros_len 16) (zeros_len 4) _ _)) (by kernel_rfl)) rfl ⟨rfl, B9.out⟩

end Go.Proofs.Ytafgcjjgnjialaa
