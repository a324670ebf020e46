/-
  CONTRACTS: a light and what a step of it goes by; what is called and has no green.
-/
import Derived.Test.YtldchcjnepnjnaaG10
import Derived.Test.YtldchcjnepnjnaaSlEq
import Derived.Test.YtldchcjnepnjnaaG4
import Derived.Test.YtldchcjnepnjnaaG3
namespace Go.Proofs.Ytldchcjnepnjnaa
open Go Go.ChangeShapes Go.WideShapes Go.ChangeAt Go.RowKit
set_option maxRecDepth 100000

/-- a light and all that a step of it goes by -/
def stC (v : Value) (b o k n : Int) (r : Bool) (cs : List Bool) (le mo : Int) : Array Value := plC v b o ++ ltC k n r ++ bl cs ++ #[.int .i64 le, .int .i64 mo]

section
variable {aa : Option Addr} {am ac : Nat} {b o k n : Int} {r : Bool} {cs : List Bool} {le mo : Int}
theorem stC_lit (h : cs.length = 8) : stC (.slice aa am ac) b o k n r cs le mo = #[.slice aa am ac, .int .i64 b, .int .i64 o, .int .i64 k, .int .i64 n, .bool r, .bool (bn cs 0), .bool (bn cs 1), .bool (bn cs 2), .bool (bn cs 3), .bool (bn cs 4), .bool (bn cs 5), .bool (bn cs 6), .bool (bn cs 7), .int .i64 le, .int .i64 mo] :=
  match cs, h with
  | [_, _, _, _, _, _, _, _], _ => rfl

theorem stC_size (h : cs.length = 8) : (stC (.slice aa am ac) b o k n r cs le mo).size = 16 := by rw [stC_lit h]; rfl

theorem stC_0 (h : cs.length = 8) : (stC (.slice aa am ac) b o k n r cs le mo)[0]? = some (.slice aa am ac) := by rw [stC_lit h]; rfl

theorem stC_1 (h : cs.length = 8) : (stC (.slice aa am ac) b o k n r cs le mo)[1]? = some (.int .i64 b) := by rw [stC_lit h]; rfl

theorem stC_3 (h : cs.length = 8) : (stC (.slice aa am ac) b o k n r cs le mo)[3]? = some (.int .i64 k) := by rw [stC_lit h]; rfl

theorem stC_4 (h : cs.length = 8) : (stC (.slice aa am ac) b o k n r cs le mo)[4]? = some (.int .i64 n) := by rw [stC_lit h]; rfl

theorem stC_14 (h : cs.length = 8) : (stC (.slice aa am ac) b o k n r cs le mo)[14]? = some (.int .i64 le) := by rw [stC_lit h]; rfl

theorem stC_15 (h : cs.length = 8) : (stC (.slice aa am ac) b o k n r cs le mo)[15]? = some (.int .i64 mo) := by rw [stC_lit h]; rfl

theorem stC_light (h : cs.length = 8) : (stC (.slice aa am ac) b o k n r cs le mo).extract 3 (3 + 3) = ltC k n r := by rw [stC_lit h]; rfl

theorem stC_calls (h : cs.length = 8) : (stC (.slice aa am ac) b o k n r cs le mo).extract 6 (6 + 8) = bl cs :=
  match cs, h with
  | [_, _, _, _, _, _, _, _], _ => by kernel_rfl

theorem stC_one (h : cs.length = 8) : (stC (.slice aa am ac) b o k n r cs le mo).all (·.oneCell') = true := by
  rw [stC_lit h, List.all_toArray]
  simp [Value.oneCell']

theorem stC_bld (h : cs.length = 8) : Try.prog.built 51 [(0, .agg (plC (.slice aa am ac) b o)), (1, .agg (ltC k n r)), (2, .agg (bl cs)), (3, .int .i64 le), (4, .int .i64 mo)] = some (stC (.slice aa am ac) b o k n r cs le mo) :=
  match cs, h with
  | [_, _, _, _, _, _, _, _], _ => by kernel_rfl
end

theorem cal_iff (g cs : List Bool) : ∀ n, cal g cs n = true ↔ ∃ j, j < n ∧ bn g j = true ∧ bn cs j = true
  | 0 => ⟨fun h => (by cases h), fun ⟨j, h, _⟩ => absurd h (Nat.not_lt_zero j)⟩
  | n + 1 => by
    rw [cal, Bool.or_eq_true, cal_iff g cs n, Bool.and_eq_true]
    constructor
    · rintro (⟨j, h1, h2⟩ | h)
      · exact ⟨j, by omega, h2⟩
      · exact ⟨n, by omega, h⟩
    · rintro ⟨j, h1, h2⟩
      rcases Nat.lt_or_ge j n with c | c
      · exact .inl ⟨j, c, h2⟩
      · obtain rfl : j = n := by omega
        exact .inr h2

/-- what is called and has no green -/
def wo (cs g : List Bool) : List Bool := (List.range 8).map fun j => bn cs j && !bn g j

theorem wo_len (cs g : List Bool) : (wo cs g).length = 8 := by simp [wo]

theorem wo_bn (cs g : List Bool) {j : Nat} (h : j < 8) : bn (wo cs g) j = (bn cs j && !bn g j) := by
  unfold wo
  show ((List.range 8).map fun j => bn cs j && !bn g j).getD j false = _
  rw [List.getD_eq_getElem?_getD, List.getElem?_map, List.getElem?_range h]
  rfl

theorem bn_ext {ps qs : List Bool} (h1 : ps.length = 8) (h2 : qs.length = 8) (h : ∀ j, j < 8 → bn ps j = bn qs j) : ps = qs := by
  apply List.ext_getElem (by omega)
  intro j a b
  have := h j (by omega)
  unfold bn at this
  rw [List.getD_eq_getElem?_getD, List.getD_eq_getElem?_getD, List.getElem?_eq_getElem a, List.getElem?_eq_getElem b] at this
  exact this

theorem wo_cal {cs g : List Bool} (h : cs.length = 8) : decide (wo cs g = cs) = !cal g cs 8 := by
  cases hc : cal g cs 8
  · refine decide_eq_true ?_
    refine bn_ext (wo_len cs g) h fun j hj => ?_
    rw [wo_bn cs g hj]
    cases hb : bn cs j
    · rfl
    · cases hg : bn g j
      · rfl
      · have := (cal_iff g cs 8).2 ⟨j, hj, hg, hb⟩
        rw [hc] at this; cases this
  · refine decide_eq_false fun e => ?_
    obtain ⟨j, hj, hg, hb⟩ := (cal_iff g cs 8).1 hc
    have := wo_bn cs g hj
    rw [e, hb, hg] at this
    cases this

theorem bn_setB {ps : List Bool} {i j : Nat} {y : Bool} (hi : i < ps.length) : bn (ps.set i y) j = if i = j then y else bn ps j := by
  unfold bn
  rw [List.getD_eq_getElem?_getD, List.getD_eq_getElem?_getD, List.getElem?_set]
  by_cases c : i = j
  · rw [if_pos c, if_pos c, if_pos hi]; rfl
  · rw [if_neg c, if_neg c]

theorem run_neq_phases (w : World) (ps qs : List Bool) (h1 : ps.length = 8) (h2 : qs.length = 8) : (binOp .neq 29 (.agg (bl ps)) (.agg (bl qs))).run Try.prog w = .ok (.bool (!decide (ps = qs))) w := by
  have h := run_eq_bools w 9998 29 4 8 ps qs Try.underlying29 Try.underlying4 (by kernel_rfl) h1 h2
  have e : (binOp .neq 29 (.agg (bl ps)) (.agg (bl qs))).run Try.prog w = ((Op.equalIn 10000 29 (.agg (bl ps)) (.agg (bl qs))).run Try.prog w).andThen fun b w' => .ok (.bool (!b)) w' := by rw [run_neq_struct]
  rw [e, show (10000 : Nat) = 9998 + 2 from rfl, h]; rfl

theorem q_neqT {P : Program} {C : World → Prop} {o : Oper} {a : Act} {K : Act → Prop} (ty : TypeId) (x y : Operand) {T : TypeId} (ho : o.op = .binOp .neq ty x y T) (c1 c2 : Array Value) (h1 : a.eval x = .agg c1) (h2 : a.eval y = .agg c2) (hm : P.eqGuardType P.depth ty = false) (v : Value) (hrun : ∀ w, (binOp .neq ty (.agg c1) (.agg c2)).run P w = .ok v w) (hK : K (a.put o.dst v)) : o.quiet P a C K := by
  refine ⟨v, fun w hw => ?_, hK⟩
  have hg := run_eqGuard_agg w .neq ty x y c1 c2 hm
  unfold Oper.quietAt execOp
  simp only [ho, h1, h2, Sem.run_bind, hg, hrun w, Sem.run_pure, Result.andThen_ok]
  exact ⟨rfl, rfl⟩

theorem phaseWithout_any (cs g : List Bool) (hcs : cs.length = 8) (hg : g.length = 8) (w : World) :
    Calls Try.prog 35 #[.agg (bl cs), .agg (bl g)] w fun e w' => e = .returned (.agg (bl (wo cs g))) ∧ Below w.heap.size w w' := by
  have P0 : At (((w.alloc (.cells (bl cs) 29)).alloc (.cells (bl g) 29)).alloc (.cells (bl (noes 8)) 29)) w.heap.size (bl cs) 29 := ((At.new w _ _).alloc _).alloc _
  have G0 : At (((w.alloc (.cells (bl cs) 29)).alloc (.cells (bl g) 29)).alloc (.cells (bl (noes 8)) 29)) (w.heap.size + 1) (bl g) 29 := (At.last1 w _ _ _).alloc _
  have R0 : At (((w.alloc (.cells (bl cs) 29)).alloc (.cells (bl g) 29)).alloc (.cells (bl (noes 8)) 29)) (w.heap.size + 1 + 1) (bl (noes 8)) 29 := At.last2 w _ _ _ _
  have BW := Lib.hid (bnew (bnew (b0 w (.cells (bl cs) 29)) (.cells (bl g) 29)) (.cells (bl (noes 8)) 29))
  have SG : (bl g).size = 8 := by rw [bl_size, hg]
  go_enter Try.func35, Try.ntmps35
  go_wp2_with ((with_reducible refine is_load 29 _ rfl ?_); refine wpList_load_at rfl 29 _ rfl _ rfl (bl g) _ G0 8 (SG) _ Try.underlying29 rfl (by kernel_rfl) ?_)
  clear G0
  go_loopw [8] (fun iv wr => ∃ (i : Nat) (ps : List Bool), i ≤ 8 ∧ iv = .int .i64 (i : Int) ∧ ps.length = 8 ∧ Hid (∀ j, j < 8 → bn ps j = if j < i then (bn cs j && !bn g j) else bn cs j) ∧ At wr w.heap.size (bl ps) 29 ∧ At wr (w.heap.size + 1 + 1) (bl (noes 8)) 29 ∧ Hid (Below w.heap.size w wr)) (fun iv _ => 8 - (intOf iv).toNat)
  case atStart => exact ⟨0, cs, by omega, rfl, hcs, Lib.hid fun j _ => (if_neg (Nat.not_lt_zero j)).symm, P0, R0, BW⟩
  case round =>
    clear P0 R0 BW
    obtain ⟨i, ps, hi, rfl, hps, hv, P0, R0, BW⟩ := hrel
    have SZ : (bl ps).size = 8 := by rw [bl_size, hps]
    by_cases hlt : i < 8
    · have s4 : IntKind.i64.wrap ((i : Int) + 1) = (i : Int) + 1 := IntWalk.i64_in _ (by omega)
      have id8 : (i : Int) < 8 := by omega
      have hix : ∀ W, (Instr.index 29 (.agg (bl g)) (.int .i64 (i : Int))).run Try.prog W = .ok (.bool (bn g i)) W := fun W => run_index_bl W 29 4 8 g i Try.underlying29 Try.underlying4 (by kernel_rfl) hlt hg.symm
      have d1 := P0.cell (bl_get (bs := ps) (k := i) (by omega))
      have hvi := hv.out i hlt
      rw [if_neg (Nat.lt_irrefl i)] at hvi
      have key : ∀ y, y = (bn ps i && !bn g i) → Hid (∀ j, j < 8 → bn (ps.set i y) j = if j < i + 1 then (bn cs j && !bn g j) else bn cs j) := fun y hy => Lib.hid fun j hj => by
        rw [bn_setB (by omega)]
        by_cases c : i = j
        · subst c; rw [if_pos rfl, if_pos (by omega), hy, hvi]
        · rw [if_neg c, hv.out j hj]
          by_cases d : j < i
          · rw [if_pos d, if_pos (by omega)]
          · rw [if_neg d, if_neg (by omega)]
      clear hv hvi
      cases hp : bn ps i
      · rw [hp] at d1
        have K9 := key false (by rw [hp]; rfl)
        have P9 := P0.setRow (bl (ps.set i false))
        have R9 := R0.setRow_other (k := w.heap.size) (by omega) (bl (ps.set i false))
        have B9 := Lib.hid (bset BW.out (g := w.heap.size) (Nat.le_refl _) (bl (ps.set i false)))
        cases hgi : bn g i <;> rw [hgi] at hix <;> clear hp key hgi <;>
        · go_wp2_with ((with_reducible refine is_store 4 _ _ rfl ?_); refine wpList_store_cell rfl 4 _ _ rfl _ i rfl (.bool false) rfl (bl ps) _ P0 (by rw [SZ]; omega) (by kernel_rfl) rfl (bl (ps.set i false)) (bl_set _ _ _) ?_)
          exact ⟨⟨i + 1, _, by omega, by go_num, by rw [List.length_set]; exact hps, K9, P9, R9, B9⟩, by simp [intOf]; omega⟩
      · rw [hp] at d1
        cases hgi : bn g i
        · rw [hgi] at hix
          have K9 := key true (by rw [hp, hgi]; rfl)
          have P9 := P0.setRow (bl (ps.set i true))
          have R9 := R0.setRow_other (k := w.heap.size) (by omega) (bl (ps.set i true))
          have B9 := Lib.hid (bset BW.out (g := w.heap.size) (Nat.le_refl _) (bl (ps.set i true)))
          clear hp hgi key
          go_wp2_with ((with_reducible refine is_store 4 _ _ rfl ?_); refine wpList_store_cell rfl 4 _ _ rfl _ i rfl (.bool true) rfl (bl ps) _ P0 (by rw [SZ]; omega) (by kernel_rfl) rfl (bl (ps.set i true)) (bl_set _ _ _) ?_)
          exact ⟨⟨i + 1, _, by omega, by go_num, by rw [List.length_set]; exact hps, K9, P9, R9, B9⟩, by simp [intOf]; omega⟩
        · rw [hgi] at hix
          have K9 := key false (by rw [hp, hgi]; rfl)
          have P9 := P0.setRow (bl (ps.set i false))
          have R9 := R0.setRow_other (k := w.heap.size) (by omega) (bl (ps.set i false))
          have B9 := Lib.hid (bset BW.out (g := w.heap.size) (Nat.le_refl _) (bl (ps.set i false)))
          clear hp hgi key
          go_wp2_with ((with_reducible refine is_store 4 _ _ rfl ?_); refine wpList_store_cell rfl 4 _ _ rfl _ i rfl (.bool false) rfl (bl ps) _ P0 (by rw [SZ]; omega) (by kernel_rfl) rfl (bl (ps.set i false)) (bl_set _ _ _) ?_)
          exact ⟨⟨i + 1, _, by omega, by go_num, by rw [List.length_set]; exact hps, K9, P9, R9, B9⟩, by simp [intOf]; omega⟩
    · obtain rfl : i = 8 := by omega
      have hps2 : ps = wo cs g := bn_ext hps (wo_len cs g) fun j hj => by rw [hv.out j hj, if_pos hj, wo_bn cs g hj]
      rw [hps2] at P0 SZ
      have R9 := R0.setRow (bl (wo cs g))
      have B9 := Lib.hid (bset BW.out (g := w.heap.size + 1 + 1) (by omega) (bl (wo cs g)))
      clear hv hps2
      go_wp2_with (first | ((with_reducible refine is_load 29 _ rfl ?_); refine wpList_load_at rfl 29 _ rfl _ rfl (bl (wo cs g)) _ P0 8 (SZ) _ Try.underlying29 rfl (by kernel_rfl) ?_) | ((with_reducible refine is_store 29 _ _ rfl ?_); refine wpList_store_at rfl 29 _ _ rfl _ rfl (bl (wo cs g)) rfl (bl (noes 8)) _ R0 8 (SZ) (by rw [bl_size, noes_len]) (by kernel_rfl) (bl_one _) ?_))
      exact bodyPost_ret (v := .agg (bl (wo cs g))) (results_at (p := 4) (ty := 29) rfl _ _ _ (bl (wo cs g)) _ rfl R9 _ Try.underlying29 rfl 8 SZ (by kernel_rfl)) rfl ⟨rfl, B9.out⟩

theorem atNextSlot_any (cp : Nat) (zs : Array Value) (G : Nat) (xs : Slots) (b o : Nat) (cs : List Bool) (hcs : cs.length = 8) (le mo k n : Nat) (hk : k < xs.length) (hx : xs.length ≤ 8) (r : Bool) (w : World) :
    Calls Try.prog 32 #[.agg (stC (.slice (some ⟨G, 0, none⟩) xs.length cp) b o k n r cs le mo)] w fun e w' => e = .returned (.agg (ltC (((k : Int) + 1) % (xs.length : Int)) 0 false)) ∧ Below w.heap.size w w' := by
  have S0 : At ((w.alloc (.cells (stC (.slice (some ⟨G, 0, none⟩) xs.length cp) b o k n r cs le mo) 51)).alloc (.cells (#[.int .i64 0, .int .i64 0, .bool false]) 33)) w.heap.size (stC (.slice (some ⟨G, 0, none⟩) xs.length cp) b o k n r cs le mo) 51 := (At.new w _ _).alloc _
  have R0 : At ((w.alloc (.cells (stC (.slice (some ⟨G, 0, none⟩) xs.length cp) b o k n r cs le mo) 51)).alloc (.cells (#[.int .i64 0, .int .i64 0, .bool false]) 33)) (w.heap.size + 1) (#[.int .i64 0, .int .i64 0, .bool false]) 33 := At.last1 w _ _ _
  have BW := Lib.hid (bnew (b0 w (.cells (stC (.slice (some ⟨G, 0, none⟩) xs.length cp) b o k n r cs le mo) 51)) (.cells (#[.int .i64 0, .int .i64 0, .bool false]) 33))
  have hm0 : ¬ (xs.length : Int) = 0 := by omega
  have s1 : IntKind.i64.wrap ((k : Int) + 1) = (k : Int) + 1 := IntWalk.i64_in _ (by omega)
  have hq : (((k + 1) % xs.length : Nat) : Int) = ((k : Int) + 1) % (xs.length : Int) := by simp
  have s2 : IntKind.i64.wrap (((k : Int) + 1).tmod (xs.length : Int)) = ((k : Int) + 1) % (xs.length : Int) := by
    rw [Int.tmod_eq_emod_of_nonneg (by omega)]
    have := Nat.mod_lt (k + 1) (show 0 < xs.length by omega)
    rw [← hq]
    exact IntWalk.i64_in _ (by omega)
  clear hq
  have c0 := S0.cell (stC_0 hcs)
  have c3 := S0.cell (stC_3 hcs)
  have R9 := R0.setRow (ltC (((k : Int) + 1) % (xs.length : Int)) 0 false)
  have B9 := Lib.hid (bset BW.out (g := w.heap.size + 1) (by omega) (ltC (((k : Int) + 1) % (xs.length : Int)) 0 false))
  go_enter Try.func32, Try.ntmps32
  go_wp2_with (first | ((with_reducible refine is_bld 33 _ rfl ?_); refine wpList_bld rfl 33 _ rfl #[(0, .int .i64 (((k : Int) + 1) % (xs.length : Int)))] (by kernel_rfl) (ltC (((k : Int) + 1) % (xs.length : Int)) 0 false) (lt_bld0 _) ?_) | ((with_reducible refine is_store 33 _ _ rfl ?_); refine wpList_store_at rfl 33 _ _ rfl _ rfl (ltC (((k : Int) + 1) % (xs.length : Int)) 0 false) rfl (ltC 0 0 false) _ R0 3 (ltC_size _ _ _) (ltC_size _ _ _) (by kernel_rfl) (lt_one _ _ _) ?_))
  exact bodyPost_ret (v := .agg (ltC (((k : Int) + 1) % (xs.length : Int)) 0 false)) (results_at (p := 2) (ty := 33) rfl _ _ _ (ltC (((k : Int) + 1) % (xs.length : Int)) 0 false) _ rfl R9 _ Try.underlying33 rfl 3 (ltC_size _ _ _) (by kernel_rfl)) rfl ⟨rfl, B9.out⟩

theorem green_any (cp : Nat) (zs : Array Value) (G : Nat) (xs : Slots) (b o : Nat) (cs : List Bool) (hcs : cs.length = 8) (le mo k n : Nat) (hk : k < xs.length) (hx : xs.length ≤ 8) (r : Bool) (hW : SlW xs) (T : TypeId) (w : World) (A0 : At w G (slY xs zs) T) :
    Calls Try.prog 36 #[.agg (stC (.slice (some ⟨G, 0, none⟩) xs.length cp) b o k n r cs le mo)] w fun e w' => e = .returned (.agg (bl (sb xs k))) ∧ Below w.heap.size w w' := by
  have S0 : At ((w.alloc (.cells (stC (.slice (some ⟨G, 0, none⟩) xs.length cp) b o k n r cs le mo) 51)).alloc (.cells (#[.bool false, .bool false, .bool false, .bool false, .bool false, .bool false, .bool false, .bool false]) 29)) w.heap.size (stC (.slice (some ⟨G, 0, none⟩) xs.length cp) b o k n r cs le mo) 51 := (At.new w _ _).alloc _
  have R0 : At ((w.alloc (.cells (stC (.slice (some ⟨G, 0, none⟩) xs.length cp) b o k n r cs le mo) 51)).alloc (.cells (#[.bool false, .bool false, .bool false, .bool false, .bool false, .bool false, .bool false, .bool false]) 29)) (w.heap.size + 1) (#[.bool false, .bool false, .bool false, .bool false, .bool false, .bool false, .bool false, .bool false]) 29 := At.last1 w _ _ _
  have BW := Lib.hid (bnew (b0 w (.cells (stC (.slice (some ⟨G, 0, none⟩) xs.length cp) b o k n r cs le mo) 51)) (.cells (#[.bool false, .bool false, .bool false, .bool false, .bool false, .bool false, .bool false, .bool false]) 29))
  replace A0 := (A0.alloc (.cells (stC (.slice (some ⟨G, 0, none⟩) xs.length cp) b o k n r cs le mo) 51)).alloc (.cells (#[.bool false, .bool false, .bool false, .bool false, .bool false, .bool false, .bool false, .bool false]) 29)
  have hb8 := (hW.at hk).1
  have SS := slY_size (zs := zs) hW
  have hle : k * 9 + 8 ≤ (slY xs zs).size := by omega
  have hph := slY_phase (zs := zs) hW hk (k := k * 9) rfl
  have SZ8 : (bl (sb xs k)).size = 8 := by rw [bl_size, hb8]
  have kd : (k : Int) < (xs.length : Int) := by omega
  have c0 := S0.cell (stC_0 hcs)
  have c3 := S0.cell (stC_3 hcs)
  have R9 := R0.setRow (bl (sb xs k))
  have B9 := Lib.hid (bset BW.out (g := w.heap.size + 1) (by omega) (bl (sb xs k)))
  go_enter Try.func36, Try.ntmps36
  go_wp2_with (first | ((with_reducible refine is_load 29 _ rfl ?_); refine wpList_load_part rfl 29 _ rfl _ (k * 9) rfl (slY xs zs) _ A0 8 hle _ Try.underlying29 rfl (by kernel_rfl) (bl (sb xs k)) hph ?_) | ((with_reducible refine is_store 29 _ _ rfl ?_); refine wpList_store_at rfl 29 _ _ rfl _ rfl (bl (sb xs k)) rfl (bl (noes 8)) _ R0 8 (SZ8) (by rw [bl_size, noes_len]) (by kernel_rfl) (bl_one _) ?_))
  exact bodyPost_ret (v := .agg (bl (sb xs k))) (results_at (p := 2) (ty := 29) rfl _ _ _ (bl (sb xs k)) _ rfl R9 _ Try.underlying29 rfl 8 SZ8 (by kernel_rfl)) rfl ⟨rfl, B9.out⟩

theorem isCalled_any (cp : Nat) (zs : Array Value) (G : Nat) (xs : Slots) (b o : Nat) (cs : List Bool) (hcs : cs.length = 8) (le mo k n : Nat) (hk : k < xs.length) (hx : xs.length ≤ 8) (r : Bool) (hW : SlW xs) (T : TypeId) (w : World) (A0 : At w G (slY xs zs) T) :
    Calls Try.prog 31 #[.agg (stC (.slice (some ⟨G, 0, none⟩) xs.length cp) b o k n r cs le mo)] w fun e w' => e = .returned (.bool (cal (sb xs k) cs 8)) ∧ Below w.heap.size w w' := by
  have S0 := At.new w (stC (.slice (some ⟨G, 0, none⟩) xs.length cp) b o k n r cs le mo) 51
  have B0 := Lib.hid (b0 w (.cells (stC (.slice (some ⟨G, 0, none⟩) xs.length cp) b o k n r cs le mo) 51))
  replace A0 := A0.alloc (.cells (stC (.slice (some ⟨G, 0, none⟩) xs.length cp) b o k n r cs le mo) 51)
  have hsz := stC_size (aa := some ⟨G, 0, none⟩) (am := xs.length) (ac := cp) (b := b) (o := o) (k := k) (n := n) (r := r) (le := le) (mo := mo) hcs
  have hca := stC_calls (aa := some ⟨G, 0, none⟩) (am := xs.length) (ac := cp) (b := b) (o := o) (k := k) (n := n) (r := r) (le := le) (mo := mo) hcs
  have KG := fun w' (hw' : Below (w.alloc (.cells (stC (.slice (some ⟨G, 0, none⟩) xs.length cp) b o k n r cs le mo) 51)).heap.size (w.alloc (.cells (stC (.slice (some ⟨G, 0, none⟩) xs.length cp) b o k n r cs le mo) 51)) w') => green_any cp zs G xs b o cs hcs le mo k n hk hx r hW T w' (A0.step hw')
  have KP := fun w' => phaseWithout_any cs (sb xs k) hcs (hW.at hk).1 w'
  have KN := fun w' => run_neq_phases w' (wo cs (sb xs k)) cs (wo_len _ _) hcs
  rw [wo_cal hcs, Bool.not_not] at KN
  clear A0
  go_enter Try.func31, Try.ntmps31
  go_wp2_with fail
  generalize w.alloc _ = w1 at S0 B0 KG ⊢
  have hC := Cb.const w1
  refine wp_region_cb (by kernel_rfl) (by kernel_rfl) ?_
  repeat (first
    | go_big_quiet_skip
    | (go_big_quiet_want; first
      | (refine q_part 29 _ rfl 6 rfl S0 8 (by rw [hsz]; omega) _ Try.underlying29 rfl (by kernel_rfl) (bl cs) hca ?_; go_simp; go_big_quiet_on)
      | (refine q_row 51 _ rfl rfl S0 16 hsz _ Try.underlying51 rfl (by kernel_rfl) ?_; go_simp; go_big_quiet_on)
      | (refine q_neqT 29 _ _ rfl _ _ rfl rfl (by kernel_rfl) _ KN ?_; go_simp; go_big_quiet_on)
      | (go_big_quiet_op; go_big_quiet_on)
      | (go_big_quiet_op; apply Exists.intro; refine ⟨fun w' hw' => ?_, ?_⟩; (go_at_call 36; exact (KG w' hw').mono fun _ _ h => ⟨h.1, hw'.step h.2⟩); go_big_quiet_on)
      | (go_big_quiet_op; apply Exists.intro; refine ⟨fun w' hw' => ?_, ?_⟩; (go_at_call 35; exact (KP w').mono fun _ _ h => ⟨h.1, hw'.step h.2⟩); go_big_quiet_on)))
  refine wpQuiet_nil ?_
  intro w9 hb
  go_wp2_with fail
  go_ret
  exact ⟨rfl, B0.out.trans (hb.mono B0.out.size)⟩

end Go.Proofs.Ytldchcjnepnjnaa
