/-
  CONTRACTS: are they ways, as the program asks it.
-/
import Derived.Test.YtboahhipobcababWayT
import Derived.Test.YtboahhipobcababAlloc
import Derived.Test.YtboahhipobcababSlEq
namespace Go.Proofs.Ytboahhipobcabab
open Go Go.ChangeShapes Go.WideShapes Go.ChangeAt Go.RowKit
set_option maxRecDepth 100000

theorem run_part_w (w : World) (x y : Int) (k : Nat) (v : Int) (hv : (#[.int .i64 x, .int .i64 y] : Array Value)[k]? = some (.int .i64 v)) : (part 2 #[.int .i64 x, .int .i64 y] k).run Try.prog w = .ok (.int .i64 v) w := by
  have hagg : (isAgg 2).run Try.prog w = .ok false w := by
    unfold isAgg
    rw [Sem.run_bind, run_underlying Try.underlying2 w]
    rfl
  simp [part, Sem.run_bind, hagg, hv]
/-- two ways -/
theorem run_eq_way (w : World) (x y x' y' : Int) : (Op.equalIn 10000 138 (.agg #[.int .i64 x, .int .i64 y]) (.agg #[.int .i64 x', .int .i64 y'])).run Try.prog w = .ok (decide (x = x' ∧ y = y')) w := by
  have ht : Try.prog.underlying 138 = some (.struct (Try.prog.fieldsOf 138)) := by kernel_rfl
  have hp : Try.prog.stoodInHeld 138 = false := by kernel_rfl
  rw [show (10000 : Nat) = 9999 + 1 from rfl, run_equalIn_struct w 9999 138 _ _ ht hp]
  have hf : (Try.prog.fieldsOf 138).toList.map (fun f => (f.name, f.type, f.offset)) = [("from", 2, 0), ("to", 2, 1)] := by kernel_rfl
  generalize (Try.prog.fieldsOf 138).toList = L at hf ⊢
  obtain _ | ⟨f1, _ | ⟨f2, _ | ⟨f3, L⟩⟩⟩ := L
  · simp at hf
  · simp at hf
  rotate_left
  · simp at hf
  simp only [List.map_cons, List.map_nil, List.cons.injEq, Prod.mk.injEq, and_true] at hf
  obtain ⟨⟨n1', t1, o1⟩, n2', t2, o2⟩ := hf
  have n1 : f1.name ≠ "_" := by rw [n1']; decide
  have n2 : f2.name ≠ "_" := by rw [n2']; decide
  have E : ∀ t t' : Int, (Op.equalIn 9999 2 (.int .i64 t) (.int .i64 t')).run Try.prog w = .ok (t == t') w := fun t t' => run_equalIn_int w 9998 2 .i64 .i64 t t' Try.underlying2
  have p1 := run_part_w w x y 0 x rfl
  have p2 := run_part_w w x' y' 0 x' rfl
  have p3 := run_part_w w x y 1 y rfl
  have p4 := run_part_w w x' y' 1 y' rfl
  simp only [Op.eqFields, n1, n2, ne_eq, not_false_eq_true, if_true, t1, t2, o1, o2, Sem.run_bind, Sem.run_ite, p1, p2, Result.andThen_ok, E]
  by_cases c1 : x = x'
  · have c1' : (x == x') = true := by simpa using c1
    simp only [c1', Bool.not_true, Bool.false_eq_true, if_false]
    rw [p3]
    simp only [Result.andThen_ok]
    rw [p4]
    simp only [Result.andThen_ok]
    rw [E]
    by_cases c2 : y = y' <;> simp [c1, c2]
  · have c1' : (x == x') = false := by simpa using c1
    simp [c1, c1']
theorem run_neq_way (w : World) (x y x' y' : Int) : (binOp .neq 138 (.agg #[.int .i64 x, .int .i64 y]) (.agg #[.int .i64 x', .int .i64 y'])).run Try.prog w = .ok (.bool (!decide (x = x' ∧ y = y'))) w := by
  rw [run_neq_struct, run_eq_way w x y x' y']; rfl
theorem areWays_any (fs ts : List Int) (hf : fs.length = 8) (ht : ts.length = 8) (n : Int) (w : World) :
    Calls Try.prog 88 #[.agg (il fs), .agg (il ts), .int .i64 n] w fun e w' => e = .returned (.bool (awB fs ts n)) ∧ Below w.heap.size w w' := by
  have P0 : At ((w.alloc (.cells (il fs) 74)).alloc (.cells (il ts) 74)) w.heap.size (il fs) 74 := (At.new w _ _).alloc _
  have L0 : At ((w.alloc (.cells (il fs) 74)).alloc (.cells (il ts) 74)) (w.heap.size + 1) (il ts) 74 := At.last1 w _ _ _
  have B0 := Lib.hid (bnew (b0 w (.cells (il fs) 74)) (.cells (il ts) 74))
  have HL := Lib.hid (And.intro hf ht)
  clear hf ht
  by_cases h1 : 0 ≤ n
  · by_cases h2 : n ≤ 8
    · rw [awB_w ⟨h1, h2⟩]
      go_enter Try.func88, Try.ntmps88
      go_wp2
      go_loopw [15] (fun i wr => ∃ k : Nat, k ≤ 8 ∧ i = .int .i64 (k : Int) ∧ Hid (wsOk fs ts n k = true) ∧ At wr w.heap.size (il fs) 74 ∧ At wr (w.heap.size + 1) (il ts) 74 ∧ Hid (Below w.heap.size w wr)) (fun i _ => 8 - (intOf i).toNat)
      case atStart => exact ⟨0, by omega, rfl, Lib.hid rfl, P0, L0, B0⟩
      case round =>
        clear P0 L0 B0
        obtain ⟨k, hk, rfl, hall, P1, L1, B1⟩ := hrel
        by_cases hlt : k < 8
        · have s2 : IntKind.i64.wrap ((k : Int) + 1) = (k : Int) + 1 := IntWalk.i64_in _ (by omega)
          have gx := il_get (xs := fs) (k := k) (by rw [HL.out.1]; exact hlt)
          have gy := il_get (xs := ts) (k := k) (by rw [HL.out.2]; exact hlt)
          obtain ⟨x, hx⟩ : ∃ x, x = ith fs k := ⟨_, rfl⟩
          obtain ⟨y, hy⟩ : ∃ y, y = ith ts k := ⟨_, rfl⟩
          rw [← hx] at gx
          rw [← hy] at gy
          have HW : Hid (wyOk fs ts n k = if (k : Int) < n then wayB x y else decide (x = 0 ∧ y = 0)) := Lib.hid (by rw [hx, hy]; rfl)
          clear hx hy
          go_wp2
          refine wp_region_alloc (n := 8) (ia := 7) (d := 8) (T := 138) (ZR := #[.int .i64 0, .int .i64 0]) (by kernel_rfl) (by kernel_rfl) (by kernel_rfl) ⟨rfl, rfl, by decide, by kernel_rfl, by kernel_rfl, by kernel_rfl⟩ (fun ev w' => by kernel_rfl) ?_
          intro W9 hW9
          have P9 := P1.step hW9
          have L9 := L1.step hW9
          have hC := Cb.const W9
          simp (config := { decide := true }) only [cutOut, nop, List.mapIdx_cons, List.mapIdx_nil, if_true, if_false, List.take, List.drop]
          repeat (first
            | go_big_quiet_skip
            | (go_big_quiet_want; first
              | (refine q_one 2 _ rfl _ Try.underlying2 rfl k rfl P9 _ gx ?_; go_simp; go_big_quiet_on)
              | (refine q_one 2 _ rfl _ Try.underlying2 rfl k rfl L9 _ gy ?_; go_simp; go_big_quiet_on)
              | (go_big_quiet_op; go_big_quiet_on)))
          refine wpQuiet_nil ?_
          intro gf w5 hw5 hgf F5
          clear P9 L9 hC hW9
          simp only [Act.put, List.setIfInBounds_toArray, List.set_cons_succ, List.set_cons_zero]
          have n1 : w.heap.size ≠ gf := by have := P1.lt; omega
          have n2 : w.heap.size + 1 ≠ gf := by have := L1.lt; omega
          have P6 := (P1.step hw5).setRow_other (k := gf) n1 #[.int .i64 x, .int .i64 y]
          have L6 := (L1.step hw5).setRow_other (k := gf) n2 #[.int .i64 x, .int .i64 y]
          have B6 := Lib.hid (bset (bthen B1.out hw5) (g := gf) (by have := P1.lt; omega) #[.int .i64 x, .int .i64 y])
          have F6 := F5.setRow #[.int .i64 x, .int .i64 y]
          clear P1 L1 B1 hw5 hgf n1 n2 gx gy
          have e0 := F6.cell (k := 0) (v := .int .i64 x) rfl
          have e1 := F6.cell (k := 1) (v := .int .i64 y) rfl
          clear F6
          by_cases kn : (k : Int) < n
          · have kg : ¬ n ≤ (k : Int) := by omega
            rw [if_pos kn] at HW
            have KW := isWay_any x y (w5.setRow gf #[.int .i64 x, .int .i64 y])
            cases hw : wayB x y
            · rw [hw] at KW HW
              go_wp2_with (((with_reducible refine is_store 138 _ _ rfl ?_); refine wpList_store_at rfl 138 _ _ rfl _ rfl (#[.int .i64 x, .int .i64 y]) rfl (#[.int .i64 0, .int .i64 0]) _ (by with_reducible assumption) 2 (rfl) (rfl) (by kernel_rfl) (by rw [List.all_toArray]; rfl) ?_))
              refine KW.mono ?_
              rintro e w7 ⟨rfl, hb7⟩
              go_wp2_with fail
              go_ret
              exact ⟨by rw [wsOk_no hlt HW.out]; rfl, bthen B6.out hb7⟩
            · rw [hw] at KW HW
              have hn := Lib.hid (wsOk_next hall.out HW.out)
              go_wp2_with (((with_reducible refine is_store 138 _ _ rfl ?_); refine wpList_store_at rfl 138 _ _ rfl _ rfl (#[.int .i64 x, .int .i64 y]) rfl (#[.int .i64 0, .int .i64 0]) _ (by with_reducible assumption) 2 (rfl) (rfl) (by kernel_rfl) (by rw [List.all_toArray]; rfl) ?_))
              refine KW.mono ?_
              rintro e w7 ⟨rfl, hb7⟩
              have P7 := P6.step hb7
              have L7 := L6.step hb7
              have B7 := Lib.hid (bthen B6.out hb7)
              clear P6 L6 B6 hb7 KW e0 e1
              go_wp2_with fail
              exact ⟨⟨k + 1, by omega, by go_num, hn, P7, L7, B7⟩, by simp [intOf]; omega⟩
          · have kg : n ≤ (k : Int) := by omega
            rw [if_neg kn] at HW
            by_cases hxy : x = 0 ∧ y = 0
            · have hneq := fun W => run_neq_way W x y 0 0
              simp only [decide_eq_true hxy, Bool.not_true] at hneq
              have hn := Lib.hid (wsOk_next hall.out (HW.out.trans (decide_eq_true hxy)))
              clear hxy
              go_wp2_with (((with_reducible refine is_store 138 _ _ rfl ?_); refine wpList_store_at rfl 138 _ _ rfl _ rfl (#[.int .i64 x, .int .i64 y]) rfl (#[.int .i64 0, .int .i64 0]) _ (by with_reducible assumption) 2 (rfl) (rfl) (by kernel_rfl) (by rw [List.all_toArray]; rfl) ?_))
              exact ⟨⟨k + 1, by omega, by go_num, hn, P6, L6, B6⟩, by simp [intOf]; omega⟩
            · have hno := Lib.hid (wsOk_no hlt (HW.out.trans (decide_eq_false hxy)))
              have hneq := fun W => run_neq_way W x y 0 0
              simp only [decide_eq_false hxy, Bool.not_false] at hneq
              clear hxy
              go_wp2_with (((with_reducible refine is_store 138 _ _ rfl ?_); refine wpList_store_at rfl 138 _ _ rfl _ rfl (#[.int .i64 x, .int .i64 y]) rfl (#[.int .i64 0, .int .i64 0]) _ (by with_reducible assumption) 2 (rfl) (rfl) (by kernel_rfl) (by rw [List.all_toArray]; rfl) ?_))
              go_ret
              exact ⟨by rw [hno.out]; rfl, B6.out⟩
        · obtain rfl : k = 8 := by omega
          go_wp2
          go_ret
          exact ⟨by rw [hall.out]; rfl, B1.out⟩
    · rw [awB_n (by omega)]
      clear P0 L0
      go_enter Try.func88, Try.ntmps88
      go_wp2
      go_ret
      exact ⟨rfl, B0.out⟩
  · rw [awB_n (by omega)]
    clear P0 L0
    go_enter Try.func88, Try.ntmps88
    go_wp2
    go_ret
    exact ⟨rfl, B0.out⟩

end Go.Proofs.Ytboahhipobcabab
