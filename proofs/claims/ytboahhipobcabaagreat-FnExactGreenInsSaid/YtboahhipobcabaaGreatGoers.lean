/-
  CONTRACTS: which ins of a crossing may go, the program.
-/
import Derived.Test.YtboahhipobcabaaGreatG15
import Derived.Test.YtboahhipobcabaaGreatTnI
import Derived.Test.YtboahhipobcabaaGreatAtI
namespace Go.Proofs.YtboahhipobcabaaGreat
open Go Go.ChangeShapes Go.WideShapes Go.ChangeAt Go.RowKit
set_option maxRecDepth 100000

theorem x_sliceA {P : Program} {o : Oper} {a : Act} {w : World} {v : Value} (t : TypeId) (x hi : Operand) (ho : o.op = .slice t x none (some hi) none) (vx vh : Value) (hx : a.eval x = vx) (hh : a.eval hi = vh) (hrun : (Instr.sliceAt t vx none (some vh) none).run P w = .ok v w) : (execOp a.eval o).run P w = .ok (.value v) w := by
  unfold execOp
  simp only [ho, Option.map_none, Option.map_some, hx, hh, Sem.run_bind, hrun, Sem.run_pure, Result.andThen_ok]

theorem run_four (D n : Nat) (h1 : 1 ≤ n) (h4 : n ≤ 4) (w : World) : (Instr.sliceAt 30 (.pointer (some ⟨D, 0, none⟩)) none (some (.int .i64 (n : Int))) none).run Tryz.prog w = .ok (.slice (some ⟨D, 0, none⟩) n 4) w := by
  rcases (by omega : n = 1 ∨ n = 2 ∨ n = 3 ∨ n = 4) with rfl | rfl | rfl | rfl <;> kernel_rfl

theorem ta_open (v : Value) (w : World) : (Instr.typeAssert (.iface 134 v) 89 134 true).run Tryz.prog w = .ok (.tuple #[v, .bool true]) w := by kernel_rfl

theorem ta_lit1 (v : Value) (w : World) : (Instr.typeAssert (.iface 136 v) 89 134 true).run Tryz.prog w = .ok (.tuple #[.agg (#[.int .i64 0, .int .i64 0, .float .f32 0, .float .f32 0, .float .f32 0, .float .f32 0, .float .f32 0, .float .f32 0, .float .f32 0, .float .f32 0, .float .f32 0, .float .f32 0, .float .f32 0, .float .f32 0, .float .f32 0, .float .f32 0, .float .f32 0, .float .f32 0, .float .f32 0, .float .f32 0, .float .f32 0, .float .f32 0, .slice none 0 0, .slice none 0 0, .int .i64 0]), .bool false]) w := by kernel_rfl

theorem ta_lit2 (v : Value) (w : World) : (Instr.typeAssert (.iface 136 v) 89 136 true).run Tryz.prog w = .ok (.tuple #[v, .bool true]) w := by kernel_rfl

set_option maxHeartbeats 2000000 in
theorem goersOf_open (y : Jr) (n : Nat) (hyi : y.1.i = (n : Int)) (h1n : 1 ≤ n) (hn : n ≤ 4) (ho1 : y.2.1.oneCell' = true) (ho2 : y.2.2.oneCell' = true) (tick : Int) (w : World) :
    Calls Tryz.prog 32 #[.iface 134 (.agg (jrC y)), .int .i64 tick] w fun e w' => e = .returned (.agg (bl (cp4 (List.replicate 8 true) n))) ∧ Below w.heap.size w w' := by
  rw [show cp4 (List.replicate 8 true) n = cp4 [true, true, true, true, false, false, false, false] n from by
    apply cp4_same
    rcases (by omega : n = 1 ∨ n = 2 ∨ n = 3 ∨ n = 4) with rfl | rfl | rfl | rfl <;> rfl]
  have R0 : At (((w.alloc (.cells (#[.bool false, .bool false, .bool false, .bool false]) 30)).alloc (.cells (#[.bool false, .bool false, .bool false, .bool false, .bool false, .bool false, .bool false, .bool false]) 53)).alloc (.cells (#[.int .i64 0, .int .i64 0, .float .f32 0, .float .f32 0, .float .f32 0, .float .f32 0, .float .f32 0, .float .f32 0, .float .f32 0, .float .f32 0, .float .f32 0, .float .f32 0, .float .f32 0, .float .f32 0, .float .f32 0, .float .f32 0, .float .f32 0, .float .f32 0, .float .f32 0, .float .f32 0, .float .f32 0, .float .f32 0, .slice none 0 0, .slice none 0 0, .int .i64 0]) 134)) w.heap.size (#[.bool false, .bool false, .bool false, .bool false]) 30 := ((At.new w _ _).alloc _).alloc _
  have G0 : At (((w.alloc (.cells (#[.bool false, .bool false, .bool false, .bool false]) 30)).alloc (.cells (#[.bool false, .bool false, .bool false, .bool false, .bool false, .bool false, .bool false, .bool false]) 53)).alloc (.cells (#[.int .i64 0, .int .i64 0, .float .f32 0, .float .f32 0, .float .f32 0, .float .f32 0, .float .f32 0, .float .f32 0, .float .f32 0, .float .f32 0, .float .f32 0, .float .f32 0, .float .f32 0, .float .f32 0, .float .f32 0, .float .f32 0, .float .f32 0, .float .f32 0, .float .f32 0, .float .f32 0, .float .f32 0, .float .f32 0, .slice none 0 0, .slice none 0 0, .int .i64 0]) 134)) (w.heap.size + 1) (#[.bool false, .bool false, .bool false, .bool false, .bool false, .bool false, .bool false, .bool false]) 53 := (At.last1 w _ _ _).alloc _
  have C0 : At (((w.alloc (.cells (#[.bool false, .bool false, .bool false, .bool false]) 30)).alloc (.cells (#[.bool false, .bool false, .bool false, .bool false, .bool false, .bool false, .bool false, .bool false]) 53)).alloc (.cells (#[.int .i64 0, .int .i64 0, .float .f32 0, .float .f32 0, .float .f32 0, .float .f32 0, .float .f32 0, .float .f32 0, .float .f32 0, .float .f32 0, .float .f32 0, .float .f32 0, .float .f32 0, .float .f32 0, .float .f32 0, .float .f32 0, .float .f32 0, .float .f32 0, .float .f32 0, .float .f32 0, .float .f32 0, .float .f32 0, .slice none 0 0, .slice none 0 0, .int .i64 0]) 134)) (w.heap.size + 1 + 1) (#[.int .i64 0, .int .i64 0, .float .f32 0, .float .f32 0, .float .f32 0, .float .f32 0, .float .f32 0, .float .f32 0, .float .f32 0, .float .f32 0, .float .f32 0, .float .f32 0, .float .f32 0, .float .f32 0, .float .f32 0, .float .f32 0, .float .f32 0, .float .f32 0, .float .f32 0, .float .f32 0, .float .f32 0, .float .f32 0, .slice none 0 0, .slice none 0 0, .int .i64 0]) 134 := by
    have := At.new ((w.alloc (.cells (#[.bool false, .bool false, .bool false, .bool false]) 30)).alloc (.cells (#[.bool false, .bool false, .bool false, .bool false, .bool false, .bool false, .bool false, .bool false]) 53)) (#[.int .i64 0, .int .i64 0, .float .f32 0, .float .f32 0, .float .f32 0, .float .f32 0, .float .f32 0, .float .f32 0, .float .f32 0, .float .f32 0, .float .f32 0, .float .f32 0, .float .f32 0, .float .f32 0, .float .f32 0, .float .f32 0, .float .f32 0, .float .f32 0, .float .f32 0, .float .f32 0, .float .f32 0, .float .f32 0, .slice none 0 0, .slice none 0 0, .int .i64 0]) 134
    rwa [World.size_alloc, World.size_alloc] at this
  have B0 := Lib.hid (bnew (bnew (b0 w (.cells (#[.bool false, .bool false, .bool false, .bool false]) 30)) (.cells (#[.bool false, .bool false, .bool false, .bool false, .bool false, .bool false, .bool false, .bool false]) 53)) (.cells (#[.int .i64 0, .int .i64 0, .float .f32 0, .float .f32 0, .float .f32 0, .float .f32 0, .float .f32 0, .float .f32 0, .float .f32 0, .float .f32 0, .float .f32 0, .float .f32 0, .float .f32 0, .float .f32 0, .float .f32 0, .float .f32 0, .float .f32 0, .float .f32 0, .float .f32 0, .float .f32 0, .float .f32 0, .float .f32 0, .slice none 0 0, .slice none 0 0, .int .i64 0]) 134))
  have C1 := C0.setRow (jrC y)
  have R1 := R0.setRow_other (k := w.heap.size + 1 + 1) (by omega) (jrC y)
  have G1 := G0.setRow_other (k := w.heap.size + 1 + 1) (by omega) (jrC y)
  have B1 := Lib.hid (bset B0.out (g := w.heap.size + 1 + 1) (by omega) (jrC y))
  have R2 := R1.setRow_other (k := w.heap.size + 1) (by omega) (#[.bool true, .bool true, .bool true, .bool true, .bool false, .bool false, .bool false, .bool false])
  have G2 := G1.setRow (#[.bool true, .bool true, .bool true, .bool true, .bool false, .bool false, .bool false, .bool false])
  have B2 := Lib.hid (bset B1.out (g := w.heap.size + 1) (by omega) (#[.bool true, .bool true, .bool true, .bool true, .bool false, .bool false, .bool false, .bool false]))
  have hone : (jrC y).all (·.oneCell') = true := jr_one _ _ _ _ _ _ _ ho1 ho2
  have hg8 : ([true, true, true, true, false, false, false, false] : List Bool).length = 8 := rfl
  have KI := insOpen_own y
  go_enter Tryz.func32, Tryz.ntmps32
  go_wp2_with (first | ((with_reducible refine is_ta _ 89 134 true rfl ?_); refine wpList_ta rfl _ 89 134 true rfl (.iface 134 (.agg (jrC y))) rfl (ta_open _ _) ?_) | ((with_reducible refine is_store 134 _ _ rfl ?_); refine wpList_store_at rfl 134 _ _ rfl _ rfl (jrC y) rfl (#[.int .i64 0, .int .i64 0, .float .f32 0, .float .f32 0, .float .f32 0, .float .f32 0, .float .f32 0, .float .f32 0, .float .f32 0, .float .f32 0, .float .f32 0, .float .f32 0, .float .f32 0, .float .f32 0, .float .f32 0, .float .f32 0, .float .f32 0, .float .f32 0, .float .f32 0, .float .f32 0, .float .f32 0, .float .f32 0, .slice none 0 0, .slice none 0 0, .int .i64 0]) _ (by with_reducible assumption) 25 (jrC_size _) (rfl) (by kernel_rfl) (hone) ?_) | ((with_reducible refine is_bld 53 _ rfl ?_); refine wpList_bld rfl 53 _ rfl #[(0, .bool true), (1, .bool true), (2, .bool true), (3, .bool true)] (by kernel_rfl) (#[.bool true, .bool true, .bool true, .bool true, .bool false, .bool false, .bool false, .bool false]) (by kernel_rfl) ?_) | ((with_reducible refine is_store 53 _ _ rfl ?_); refine wpList_store_at rfl 53 _ _ rfl _ rfl (#[.bool true, .bool true, .bool true, .bool true, .bool false, .bool false, .bool false, .bool false]) rfl (#[.bool false, .bool false, .bool false, .bool false, .bool false, .bool false, .bool false, .bool false]) _ (by with_reducible assumption) 8 (rfl) (rfl) (by kernel_rfl) (by kernel_rfl) ?_))
  have DD : At ((((((w.alloc (.cells (#[.bool false, .bool false, .bool false, .bool false]) 30)).alloc (.cells (#[.bool false, .bool false, .bool false, .bool false, .bool false, .bool false, .bool false, .bool false]) 53)).alloc (.cells (#[.int .i64 0, .int .i64 0, .float .f32 0, .float .f32 0, .float .f32 0, .float .f32 0, .float .f32 0, .float .f32 0, .float .f32 0, .float .f32 0, .float .f32 0, .float .f32 0, .float .f32 0, .float .f32 0, .float .f32 0, .float .f32 0, .float .f32 0, .float .f32 0, .float .f32 0, .float .f32 0, .float .f32 0, .float .f32 0, .slice none 0 0, .slice none 0 0, .int .i64 0]) 134)).setRow (w.heap.size + 1 + 1) (jrC y)).setRow (w.heap.size + 1) (#[.bool true, .bool true, .bool true, .bool true, .bool false, .bool false, .bool false, .bool false])).alloc (.cells (#[.bool false, .bool false, .bool false, .bool false]) 30)) (w.heap.size + 1 + 1 + 1) (bl (noes 4)) 30 := by
    have e := At.new (((((w.alloc (.cells (#[.bool false, .bool false, .bool false, .bool false]) 30)).alloc (.cells (#[.bool false, .bool false, .bool false, .bool false, .bool false, .bool false, .bool false, .bool false]) 53)).alloc (.cells (#[.int .i64 0, .int .i64 0, .float .f32 0, .float .f32 0, .float .f32 0, .float .f32 0, .float .f32 0, .float .f32 0, .float .f32 0, .float .f32 0, .float .f32 0, .float .f32 0, .float .f32 0, .float .f32 0, .float .f32 0, .float .f32 0, .float .f32 0, .float .f32 0, .float .f32 0, .float .f32 0, .float .f32 0, .float .f32 0, .slice none 0 0, .slice none 0 0, .int .i64 0]) 134)).setRow (w.heap.size + 1 + 1) (jrC y)).setRow (w.heap.size + 1) (#[.bool true, .bool true, .bool true, .bool true, .bool false, .bool false, .bool false, .bool false])) (#[.bool false, .bool false, .bool false, .bool false]) 30
    have hz : ((((((w.alloc (.cells (#[.bool false, .bool false, .bool false, .bool false]) 30)).alloc (.cells (#[.bool false, .bool false, .bool false, .bool false, .bool false, .bool false, .bool false, .bool false]) 53)).alloc (.cells (#[.int .i64 0, .int .i64 0, .float .f32 0, .float .f32 0, .float .f32 0, .float .f32 0, .float .f32 0, .float .f32 0, .float .f32 0, .float .f32 0, .float .f32 0, .float .f32 0, .float .f32 0, .float .f32 0, .float .f32 0, .float .f32 0, .float .f32 0, .float .f32 0, .float .f32 0, .float .f32 0, .float .f32 0, .float .f32 0, .slice none 0 0, .slice none 0 0, .int .i64 0]) 134)).setRow (w.heap.size + 1 + 1) (jrC y)).setRow (w.heap.size + 1) (#[.bool true, .bool true, .bool true, .bool true, .bool false, .bool false, .bool false, .bool false]))).heap.size = w.heap.size + 1 + 1 + 1 := by simp
    rw [hz] at e
    exact e
  have RR := R2.alloc (.cells (#[.bool false, .bool false, .bool false, .bool false]) 30)
  have GG : At _ _ (bl [true, true, true, true, false, false, false, false]) _ := G2.alloc (.cells (#[.bool false, .bool false, .bool false, .bool false]) 30)
  have BB := Lib.hid (bnew B2.out (.cells (#[.bool false, .bool false, .bool false, .bool false]) 30))
  generalize ((((((w.alloc (.cells (#[.bool false, .bool false, .bool false, .bool false]) 30)).alloc (.cells (#[.bool false, .bool false, .bool false, .bool false, .bool false, .bool false, .bool false, .bool false]) 53)).alloc (.cells (#[.int .i64 0, .int .i64 0, .float .f32 0, .float .f32 0, .float .f32 0, .float .f32 0, .float .f32 0, .float .f32 0, .float .f32 0, .float .f32 0, .float .f32 0, .float .f32 0, .float .f32 0, .float .f32 0, .float .f32 0, .float .f32 0, .float .f32 0, .float .f32 0, .float .f32 0, .float .f32 0, .float .f32 0, .float .f32 0, .slice none 0 0, .slice none 0 0, .int .i64 0]) 134)).setRow (w.heap.size + 1 + 1) (jrC y)).setRow (w.heap.size + 1) (#[.bool true, .bool true, .bool true, .bool true, .bool false, .bool false, .bool false, .bool false])).alloc (.cells (#[.bool false, .bool false, .bool false, .bool false]) 30)) = w5 at RR GG DD BB ⊢
  clear R0 R1 R2 G0 G1 G2 C0 C1 B0 B1 B2
  refine wp_region_held (S := fun _ => True) (by kernel_rfl) ?_
  show wpAnyH _ _ _ _ _ 5 (Array.replicate 5 false) _ _
  have S0 : Below w5.heap.size w5 { w5 with drawn := w5.drawn + 1 } := bdrew (Below.refl _ w5) 1
  generalize hw0 : ({ w5 with drawn := w5.drawn + 1 } : World) = w6 at S0 ⊢
  clear hw0
  have hT : True := trivial
  refine wpAnyH_take (i := 0) (v := .iface 134 (.agg (jrC y))) rfl (by kernel_rfl) (by kernel_rfl) (by kernel_rfl) (fun _ _ _ h => h) (yif rfl fun w2 hw2 => by kernel_rfl) (by assumption) ?_
  refine wpAnyH_take (i := 3) (v := .slice (some ⟨w.heap.size + 1, 0, none⟩) 8 8) rfl (by kernel_rfl) (by kernel_rfl) (by kernel_rfl) (fun _ _ _ h => h) (yif rfl fun w2 hw2 => by kernel_rfl) (by assumption) ?_
  refine wpAnyH_call (j := 1) (f := 242) (args := #[.agg (jrC y)]) (by kernel_rfl) rfl (by kernel_rfl) (by kernel_rfl) ((KI w6).mono ?_)
  rintro e w7 ⟨rfl, hb7⟩
  refine ⟨_, rfl, hT, ?_⟩
  refine wpAnyH_take (i := 2) (v := .slice (some ⟨(w.heap.size + 1 + 1 + 1), 0, none⟩) n 4) rfl (by kernel_rfl) (by kernel_rfl) (by kernel_rfl) (fun _ _ _ h => h) (yif rfl fun w' _ => x_sliceA 30 _ _ rfl (.pointer (some ⟨(w.heap.size + 1 + 1 + 1), 0, none⟩)) (.int .i64 y.1.i) (by kernel_rfl) (by kernel_rfl) (by rw [hyi]; exact run_four (w.heap.size + 1 + 1 + 1) n h1n hn w')) (by assumption) ?_
  have R7 := (RR.step S0).step hb7
  have G7 := (GG.step S0).step hb7
  have D7 := (DD.step S0).step hb7
  have B7 := Lib.hid (bthen BB.out (bthen S0 hb7))
  have hcs : ((([true, true, true, true, false, false, false, false]).take n).map Value.bool).length = n := by rw [List.length_map, List.length_take, hg8]; omega
  have hrun := run_copy_row (P := Tryz.prog) w7 138 138 2 4 (w.heap.size + 1 + 1 + 1) 0 n 4 ⟨w.heap.size + 1, 0, none⟩ 8 8 (bl (noes 4)) 30 ((([true, true, true, true, false, false, false, false]).take n).map Value.bool) Tryz.underlying138 (by kernel_rfl) D7 (by rw [hcs]; exact (Nat.min_eq_right (by omega)).symm) (fun j v hj => by
    have hjn : j < n := by
      rw [← hcs]
      exact (List.getElem?_eq_some_iff.1 hj).1
    have e : ((Addr.mk (w.heap.size + 1) 0 none).add j) = ⟨w.heap.size + 1, j, none⟩ := by unfold Addr.add; by_cases z : j = 0 <;> simp [z]
    rw [e, G7.cell (bl_get (by rw [hg8]; omega)), ← hj, List.getElem?_map, List.getElem?_take_of_lt hjn]
    unfold bn
    rw [List.getD_eq_getElem?_getD, List.getElem?_eq_getElem (by rw [hg8]; omega)]
    rfl) (by rw [hcs, bl_size, noes_len]; omega) (fun v hv => by
    obtain ⟨b, -, rfl⟩ := List.mem_map.1 hv
    rfl)
  rw [cp4_copy hg8 hn, hcs] at hrun
  refine wpAnyH_all (rs := [4]) (by kernel_rfl) (by simp) fun i9 hi9 => ?_
  obtain rfl := one_of hi9
  refine op_value (v := goInt n) (w' := w7.setRow (w.heap.size + 1 + 1 + 1) (bl (cp4 ([true, true, true, true, false, false, false, false]) n))) rfl rfl (x_copy _ _ 138 138 rfl (.slice (some ⟨(w.heap.size + 1 + 1 + 1), 0, none⟩) n 4) (.slice (some ⟨w.heap.size + 1, 0, none⟩) 8 8) (by kernel_rfl) (by kernel_rfl) hrun) ⟨hT, ?_⟩
  refine wpAnyH_done (by kernel_rfl) ?_ _
  have D8 := D7.setRow (bl (cp4 ([true, true, true, true, false, false, false, false]) n))
  have R8 := R7.setRow_other (k := (w.heap.size + 1 + 1 + 1)) (by omega) (bl (cp4 ([true, true, true, true, false, false, false, false]) n))
  have B8 := Lib.hid (bset B7.out (g := (w.heap.size + 1 + 1 + 1)) (by omega) (bl (cp4 ([true, true, true, true, false, false, false, false]) n)))
  have R9 := R8.setRow (bl (cp4 ([true, true, true, true, false, false, false, false]) n))
  have B9 := Lib.hid (bset B8.out (g := w.heap.size) (Nat.le_refl _) (bl (cp4 ([true, true, true, true, false, false, false, false]) n)))
  have hsz := cp4_len hg8 hn
  clear hrun D7 R7 G7 B7 S0 hb7 hcs RR GG DD BB
  go_simp
  obtain ⟨ans, hans⟩ : ∃ x, x = cp4 ([true, true, true, true, false, false, false, false]) n := ⟨_, rfl⟩
  have HANS := Lib.hid hans
  rw [← hans] at D8 R8 R9 B9 hsz ⊢
  clear hans B8
  have hsA : (bl ans).size = 4 := by rw [bl_size, hsz]
  go_wp2_with (first | ((with_reducible refine is_load 30 _ rfl ?_); refine wpList_load_at rfl 30 _ rfl _ rfl (bl ans) _ (by with_reducible assumption) 4 (hsA) _ Tryz.underlying30 rfl (by kernel_rfl) ?_) | ((with_reducible refine is_store 30 _ _ rfl ?_); refine wpList_store_at rfl 30 _ _ rfl _ rfl (bl ans) rfl (#[.bool false, .bool false, .bool false, .bool false]) _ (by with_reducible assumption) 4 (hsA) (rfl) (by kernel_rfl) (bl_one _) ?_))
  exact bodyPost_ret (v := .agg (bl ans)) (results_at (p := 4) (ty := 30) rfl _ _ _ (bl ans) _ rfl R9 _ Tryz.underlying30 rfl 4 hsA (by kernel_rfl)) rfl ⟨by rw [HANS.out], B9.out⟩

set_option maxHeartbeats 2000000 in
theorem goersOf_lit (y : Jr) (n : Nat) (hyi : y.1.i = (n : Int)) (h1n : 1 ≤ n) (hn : n ≤ 4) (ho1 : y.2.1.oneCell' = true) (ho2 : y.2.2.oneCell' = true) (tick : Int) (ht : 0 ≤ tick ∧ tick ≤ 2000000000) (u : Nat) (xs : Slots) (b o : Int) (hW : SlW xs) (hok : okP xs b o = true) (T : TypeId) (w : World) (hS : At w u (slC xs) T) :
    Calls Tryz.prog 32 #[.iface 136 (.agg (jrC y ++ plC (.slice (some ⟨u, 0, none⟩) xs.length xs.length) b o)), .int .i64 tick] w fun e w' => e = .returned (.agg (bl (cp4 (atS b xs ((tick - o) % cyc xs b)).1 n))) ∧ Below w.heap.size w w' := by
  have hg8 := atS_len (b := b) (c := (tick - o) % cyc xs b) hW
  have KG0 := fun w' (hb : Below w.heap.size w w') => greenAt_any u xs b o hW T hok tick ht w' (hS.step hb)
  have h0 := ltR_0 y (.slice (some ⟨u, 0, none⟩) xs.length xs.length) b o
  have hpl := ltR_pl y (.slice (some ⟨u, 0, none⟩) xs.length xs.length) b o
  have hone := ltR_one y (.slice (some ⟨u, 0, none⟩) xs.length xs.length) b o ho1 ho2 rfl
  have hX28 := ltR_size y (.slice (some ⟨u, 0, none⟩) xs.length xs.length) b o
  have KI := insLit_own y (.slice (some ⟨u, 0, none⟩) xs.length xs.length) b o
  obtain ⟨X, hX⟩ : ∃ X, X = jrC y ++ plC (.slice (some ⟨u, 0, none⟩) xs.length xs.length) b o := ⟨_, rfl⟩
  rw [← hX] at h0 hpl hone hX28 KI ⊢
  generalize (atS b xs ((tick - o) % cyc xs b)).1 = gr at *
  generalize (atS b xs ((tick - o) % cyc xs b)).2 = left at *
  generalize xs.length = m at *
  have R0 : At (((w.alloc (.cells (#[.bool false, .bool false, .bool false, .bool false]) 30)).alloc (.cells (#[.bool false, .bool false, .bool false, .bool false, .bool false, .bool false, .bool false, .bool false]) 53)).alloc (.cells (#[.int .i64 0, .int .i64 0, .float .f32 0, .float .f32 0, .float .f32 0, .float .f32 0, .float .f32 0, .float .f32 0, .float .f32 0, .float .f32 0, .float .f32 0, .float .f32 0, .float .f32 0, .float .f32 0, .float .f32 0, .float .f32 0, .float .f32 0, .float .f32 0, .float .f32 0, .float .f32 0, .float .f32 0, .float .f32 0, .slice none 0 0, .slice none 0 0, .int .i64 0, .slice none 0 0, .int .i64 0, .int .i64 0]) 136)) w.heap.size (#[.bool false, .bool false, .bool false, .bool false]) 30 := ((At.new w _ _).alloc _).alloc _
  have G0 : At (((w.alloc (.cells (#[.bool false, .bool false, .bool false, .bool false]) 30)).alloc (.cells (#[.bool false, .bool false, .bool false, .bool false, .bool false, .bool false, .bool false, .bool false]) 53)).alloc (.cells (#[.int .i64 0, .int .i64 0, .float .f32 0, .float .f32 0, .float .f32 0, .float .f32 0, .float .f32 0, .float .f32 0, .float .f32 0, .float .f32 0, .float .f32 0, .float .f32 0, .float .f32 0, .float .f32 0, .float .f32 0, .float .f32 0, .float .f32 0, .float .f32 0, .float .f32 0, .float .f32 0, .float .f32 0, .float .f32 0, .slice none 0 0, .slice none 0 0, .int .i64 0, .slice none 0 0, .int .i64 0, .int .i64 0]) 136)) (w.heap.size + 1) (#[.bool false, .bool false, .bool false, .bool false, .bool false, .bool false, .bool false, .bool false]) 53 := (At.last1 w _ _ _).alloc _
  have C0 : At (((w.alloc (.cells (#[.bool false, .bool false, .bool false, .bool false]) 30)).alloc (.cells (#[.bool false, .bool false, .bool false, .bool false, .bool false, .bool false, .bool false, .bool false]) 53)).alloc (.cells (#[.int .i64 0, .int .i64 0, .float .f32 0, .float .f32 0, .float .f32 0, .float .f32 0, .float .f32 0, .float .f32 0, .float .f32 0, .float .f32 0, .float .f32 0, .float .f32 0, .float .f32 0, .float .f32 0, .float .f32 0, .float .f32 0, .float .f32 0, .float .f32 0, .float .f32 0, .float .f32 0, .float .f32 0, .float .f32 0, .slice none 0 0, .slice none 0 0, .int .i64 0, .slice none 0 0, .int .i64 0, .int .i64 0]) 136)) (w.heap.size + 1 + 1) (#[.int .i64 0, .int .i64 0, .float .f32 0, .float .f32 0, .float .f32 0, .float .f32 0, .float .f32 0, .float .f32 0, .float .f32 0, .float .f32 0, .float .f32 0, .float .f32 0, .float .f32 0, .float .f32 0, .float .f32 0, .float .f32 0, .float .f32 0, .float .f32 0, .float .f32 0, .float .f32 0, .float .f32 0, .float .f32 0, .slice none 0 0, .slice none 0 0, .int .i64 0, .slice none 0 0, .int .i64 0, .int .i64 0]) 136 := by
    have := At.new ((w.alloc (.cells (#[.bool false, .bool false, .bool false, .bool false]) 30)).alloc (.cells (#[.bool false, .bool false, .bool false, .bool false, .bool false, .bool false, .bool false, .bool false]) 53)) (#[.int .i64 0, .int .i64 0, .float .f32 0, .float .f32 0, .float .f32 0, .float .f32 0, .float .f32 0, .float .f32 0, .float .f32 0, .float .f32 0, .float .f32 0, .float .f32 0, .float .f32 0, .float .f32 0, .float .f32 0, .float .f32 0, .float .f32 0, .float .f32 0, .float .f32 0, .float .f32 0, .float .f32 0, .float .f32 0, .slice none 0 0, .slice none 0 0, .int .i64 0, .slice none 0 0, .int .i64 0, .int .i64 0]) 136
    rwa [World.size_alloc, World.size_alloc] at this
  have B0 := Lib.hid (bnew (bnew (b0 w (.cells (#[.bool false, .bool false, .bool false, .bool false]) 30)) (.cells (#[.bool false, .bool false, .bool false, .bool false, .bool false, .bool false, .bool false, .bool false]) 53)) (.cells (#[.int .i64 0, .int .i64 0, .float .f32 0, .float .f32 0, .float .f32 0, .float .f32 0, .float .f32 0, .float .f32 0, .float .f32 0, .float .f32 0, .float .f32 0, .float .f32 0, .float .f32 0, .float .f32 0, .float .f32 0, .float .f32 0, .float .f32 0, .float .f32 0, .float .f32 0, .float .f32 0, .float .f32 0, .float .f32 0, .slice none 0 0, .slice none 0 0, .int .i64 0, .slice none 0 0, .int .i64 0, .int .i64 0]) 136))
  have C1 := C0.setRow X
  have R1 := R0.setRow_other (k := w.heap.size + 1 + 1) (by omega) X
  have G1 := G0.setRow_other (k := w.heap.size + 1 + 1) (by omega) X
  have B1 := Lib.hid (bset B0.out (g := w.heap.size + 1 + 1) (by omega) X)
  have KG := KG0 _ B1.out
  clear hS hX KG0
  have hle : 25 + 3 ≤ X.size := by omega
  go_enter Tryz.func32, Tryz.ntmps32
  go_wp2_with (first | ((with_reducible refine is_ta _ 89 134 true rfl ?_); refine wpList_ta rfl _ 89 134 true rfl (.iface 136 (.agg X)) rfl (ta_lit1 _ _) ?_) | ((with_reducible refine is_ta _ 89 136 true rfl ?_); refine wpList_ta rfl _ 89 136 true rfl (.iface 136 (.agg X)) rfl (ta_lit2 _ _) ?_) | ((with_reducible refine is_store 136 _ _ rfl ?_); refine wpList_store_at rfl 136 _ _ rfl _ rfl (X) rfl (#[.int .i64 0, .int .i64 0, .float .f32 0, .float .f32 0, .float .f32 0, .float .f32 0, .float .f32 0, .float .f32 0, .float .f32 0, .float .f32 0, .float .f32 0, .float .f32 0, .float .f32 0, .float .f32 0, .float .f32 0, .float .f32 0, .float .f32 0, .float .f32 0, .float .f32 0, .float .f32 0, .float .f32 0, .float .f32 0, .slice none 0 0, .slice none 0 0, .int .i64 0, .slice none 0 0, .int .i64 0, .int .i64 0]) _ (by with_reducible assumption) 28 (hX28) (rfl) (by kernel_rfl) (hone) ?_) | ((with_reducible refine is_load 58 _ rfl ?_); refine wpList_load_part rfl 58 _ rfl _ 25 rfl X _ (by with_reducible assumption) 3 hle _ Tryz.underlying58 rfl (by kernel_rfl) (plC (.slice (some ⟨u, 0, none⟩) m m) b o) hpl ?_))
  refine KG.mono ?_
  rintro e w4 ⟨rfl, hb4⟩
  have R2 := R1.step hb4
  have G2 := G1.step hb4
  have B2 := Lib.hid (bthen B1.out hb4)
  have hsz4 : w.heap.size + 1 + 1 < w4.heap.size := by
    have h9 := hb4.size
    have h8 := C1.lt
    omega
  clear R0 R1 G0 G1 C0 C1 B0 B1 hb4 KG hle hone hpl h0 hX28
  have G3 := G2.setRow (bl gr)
  have R3 := R2.setRow_other (k := w.heap.size + 1) (by omega) (bl gr)
  have B3 := Lib.hid (bset B2.out (g := w.heap.size + 1) (by omega) (bl gr))
  have hsG : (bl gr).size = 8 := by rw [bl_size, hg8]
  go_wp2_with (((with_reducible refine is_store 53 _ _ rfl ?_); refine wpList_store_at rfl 53 _ _ rfl _ rfl (bl gr) rfl (#[.bool false, .bool false, .bool false, .bool false, .bool false, .bool false, .bool false, .bool false]) _ (by with_reducible assumption) 8 (hsG) (rfl) (by kernel_rfl) (bl_one _) ?_))
  have DD : At ((w4.setRow (w.heap.size + 1) (bl gr)).alloc (.cells (#[.bool false, .bool false, .bool false, .bool false]) 30)) w4.heap.size (bl (noes 4)) 30 := by
    have e := At.new (w4.setRow (w.heap.size + 1) (bl gr)) (#[.bool false, .bool false, .bool false, .bool false]) 30
    have hz : (w4.setRow (w.heap.size + 1) (bl gr)).heap.size = w4.heap.size := by simp
    rw [hz] at e
    exact e
  have RR := R3.alloc (.cells (#[.bool false, .bool false, .bool false, .bool false]) 30)
  have GG := G3.alloc (.cells (#[.bool false, .bool false, .bool false, .bool false]) 30)
  have BB := Lib.hid (bnew B3.out (.cells (#[.bool false, .bool false, .bool false, .bool false]) 30))
  generalize ((w4.setRow (w.heap.size + 1) (bl gr)).alloc (.cells (#[.bool false, .bool false, .bool false, .bool false]) 30)) = w5 at RR GG DD BB ⊢
  obtain ⟨D, hD⟩ : ∃ D, D = w4.heap.size := ⟨_, rfl⟩
  rw [← hD] at DD hsz4 ⊢
  clear hD R2 R3 G2 G3 B2 B3
  refine wp_region_held (S := fun _ => True) (by kernel_rfl) ?_
  show wpAnyH _ _ _ _ _ 5 (Array.replicate 5 false) _ _
  have S0 : Below w5.heap.size w5 { w5 with drawn := w5.drawn + 1 } := bdrew (Below.refl _ w5) 1
  generalize hw0 : ({ w5 with drawn := w5.drawn + 1 } : World) = w6 at S0 ⊢
  clear hw0
  have hT : True := trivial
  refine wpAnyH_take (i := 0) (v := .iface 136 (.agg X)) rfl (by kernel_rfl) (by kernel_rfl) (by kernel_rfl) (fun _ _ _ h => h) (yif rfl fun w2 hw2 => by kernel_rfl) (by assumption) ?_
  refine wpAnyH_take (i := 3) (v := .slice (some ⟨w.heap.size + 1, 0, none⟩) 8 8) rfl (by kernel_rfl) (by kernel_rfl) (by kernel_rfl) (fun _ _ _ h => h) (yif rfl fun w2 hw2 => by kernel_rfl) (by assumption) ?_
  refine wpAnyH_call (j := 1) (f := 243) (args := #[.agg X]) (by kernel_rfl) rfl (by kernel_rfl) (by kernel_rfl) ((KI w6).mono ?_)
  rintro e w7 ⟨rfl, hb7⟩
  refine ⟨_, rfl, hT, ?_⟩
  refine wpAnyH_take (i := 2) (v := .slice (some ⟨D, 0, none⟩) n 4) rfl (by kernel_rfl) (by kernel_rfl) (by kernel_rfl) (fun _ _ _ h => h) (yif rfl fun w' _ => x_sliceA 30 _ _ rfl (.pointer (some ⟨D, 0, none⟩)) (.int .i64 y.1.i) (by kernel_rfl) (by kernel_rfl) (by rw [hyi]; exact run_four D n h1n hn w')) (by assumption) ?_
  have R7 := (RR.step S0).step hb7
  have G7 := (GG.step S0).step hb7
  have D7 := (DD.step S0).step hb7
  have B7 := Lib.hid (bthen BB.out (bthen S0 hb7))
  have hcs : (((gr).take n).map Value.bool).length = n := by rw [List.length_map, List.length_take, hg8]; omega
  have hrun := run_copy_row (P := Tryz.prog) w7 138 138 2 4 D 0 n 4 ⟨w.heap.size + 1, 0, none⟩ 8 8 (bl (noes 4)) 30 (((gr).take n).map Value.bool) Tryz.underlying138 (by kernel_rfl) D7 (by rw [hcs]; exact (Nat.min_eq_right (by omega)).symm) (fun j v hj => by
    have hjn : j < n := by
      rw [← hcs]
      exact (List.getElem?_eq_some_iff.1 hj).1
    have e : ((Addr.mk (w.heap.size + 1) 0 none).add j) = ⟨w.heap.size + 1, j, none⟩ := by unfold Addr.add; by_cases z : j = 0 <;> simp [z]
    rw [e, G7.cell (bl_get (by rw [hg8]; omega)), ← hj, List.getElem?_map, List.getElem?_take_of_lt hjn]
    unfold bn
    rw [List.getD_eq_getElem?_getD, List.getElem?_eq_getElem (by rw [hg8]; omega)]
    rfl) (by rw [hcs, bl_size, noes_len]; omega) (fun v hv => by
    obtain ⟨b, -, rfl⟩ := List.mem_map.1 hv
    rfl)
  rw [cp4_copy hg8 hn, hcs] at hrun
  refine wpAnyH_all (rs := [4]) (by kernel_rfl) (by simp) fun i9 hi9 => ?_
  obtain rfl := one_of hi9
  refine op_value (v := goInt n) (w' := w7.setRow D (bl (cp4 (gr) n))) rfl rfl (x_copy _ _ 138 138 rfl (.slice (some ⟨D, 0, none⟩) n 4) (.slice (some ⟨w.heap.size + 1, 0, none⟩) 8 8) (by kernel_rfl) (by kernel_rfl) hrun) ⟨hT, ?_⟩
  refine wpAnyH_done (by kernel_rfl) ?_ _
  have D8 := D7.setRow (bl (cp4 (gr) n))
  have R8 := R7.setRow_other (k := D) (by omega) (bl (cp4 (gr) n))
  have B8 := Lib.hid (bset B7.out (g := D) (by omega) (bl (cp4 (gr) n)))
  have R9 := R8.setRow (bl (cp4 (gr) n))
  have B9 := Lib.hid (bset B8.out (g := w.heap.size) (Nat.le_refl _) (bl (cp4 (gr) n)))
  have hsz := cp4_len hg8 hn
  clear hrun D7 R7 G7 B7 S0 hb7 hcs RR GG DD BB
  go_simp
  obtain ⟨ans, hans⟩ : ∃ x, x = cp4 (gr) n := ⟨_, rfl⟩
  have HANS := Lib.hid hans
  rw [← hans] at D8 R8 R9 B9 hsz ⊢
  clear hans B8
  have hsA : (bl ans).size = 4 := by rw [bl_size, hsz]
  go_wp2_with (first | ((with_reducible refine is_load 30 _ rfl ?_); refine wpList_load_at rfl 30 _ rfl _ rfl (bl ans) _ (by with_reducible assumption) 4 (hsA) _ Tryz.underlying30 rfl (by kernel_rfl) ?_) | ((with_reducible refine is_store 30 _ _ rfl ?_); refine wpList_store_at rfl 30 _ _ rfl _ rfl (bl ans) rfl (#[.bool false, .bool false, .bool false, .bool false]) _ (by with_reducible assumption) 4 (hsA) (rfl) (by kernel_rfl) (bl_one _) ?_))
  exact bodyPost_ret (v := .agg (bl ans)) (results_at (p := 4) (ty := 30) rfl _ _ _ (bl ans) _ rfl R9 _ Tryz.underlying30 rfl 4 hsA (by kernel_rfl)) rfl ⟨by rw [HANS.out], B9.out⟩

end Go.Proofs.YtboahhipobcabaaGreat
