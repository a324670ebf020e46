/-
  SEVERAL TEXTS IN ONE.
-/
import Derived.Test.YtopjikgkoodbmaaG3
import Derived.Test.YtopjikgkoodbmaaG4
import Derived.Test.YtopjikgkoodbmaaArith
import Derived.Test.YtopjikgkoodbmaaEq
import Derived.Test.YtopjikgkoodbmaaG17
import Derived.Laws.AppendOwn

/-
  CONTRACTS: the best share, the most flow, what cells send and take.
-/
namespace Go.Proofs.Ytopjikgkoodbmaa
open Go Go.RowKit

structure OkR (cs : List Nat) (p b l : Nat) : Prop where
  len : cs.length = 16
  cars : ∀ x ∈ cs, x ≤ 1065353216
  pace : 1015021568 ≤ p ∧ p ≤ 1065353216
  back : 1015021568 ≤ b ∧ b ≤ 1065353216
  lanes : 1048576000 ≤ l ∧ l ≤ 1090519040
theorem OkR.of {cs : List Nat} {p b l : Nat} (hl : cs.length = 16) (h : okB cs p b l = true) : OkR cs p b l := by
  unfold okB paceB lanesB at h
  simp only [Bool.and_eq_true, List.all_eq_true, decide_eq_true_eq] at h
  obtain ⟨⟨⟨h1, h2⟩, h3⟩, h4⟩ := h
  exact ⟨hl, fun x hx => by have := h1 x hx; unfold shrB at this; simpa using this, h2, h3, h4⟩
theorem OkR.car {cs : List Nat} {p b l : Nat} (h : OkR cs p b l) (k : Nat) : nth cs k ≤ 1065353216 := by
  unfold nth
  rw [List.getD_eq_getElem?_getD]
  cases e : cs[k]? with
  | none => simp
  | some v => exact h.cars v (List.mem_of_getElem? e)

def bestW (p b : Nat) : Nat := divB b (addB p b)
def mostW (p b : Nat) : Nat := mulB p (bestW p b)
def sendsW (p b a : Nat) : Nat := min (mulB p a) (mostW p b)
def takesW (p b a : Nat) : Nat := min (mulB b (subB 1065353216 a)) (mostW p b)

section
variable {p b : Nat} (hp : 1015021568 ≤ p ∧ p ≤ 1065353216) (hb : 1015021568 ≤ b ∧ b ≤ 1065353216)
include hp hb
theorem best_add : floatBits .add .f32 p b = some (addB p b) := (add_eq (by omega) (by omega)).1
theorem best_quo : floatBits .quo .f32 b (addB p b) = some (bestW p b) := by
  have := sum_rule hp hb
  exact (div_some (by omega) (by omega) (by omega)).1
theorem bestW_le : bestW p b ≤ 1065353216 := best_le hp hb
theorem most_mul : floatBits .mul .f32 p (bestW p b) = some (mostW p b) := by
  have := bestW_le hp hb
  exact (mul_eq (by omega) (by omega)).1
theorem mostW_le : mostW p b ≤ 1065353216 := by
  have := bestW_le hp hb
  have := mul_share hp.2 (y := bestW p b) (by omega)
  unfold mostW; omega
end

theorem l01Best_any (g : Nat) (cs : List Nat) (p b l : Nat) (ok : OkR cs p b l) (w : World) (hr : RoadAt w g cs p b l) :
    Calls Try.prog 90 #[.pointer (some ⟨g, 0, none⟩)] w (Rd (.float .f32 (bestW p b)) w) := by
  have c16 := hr.pace ok.len
  have c17 := hr.back ok.len
  have h1 : ∀ t w, (binOp .add t (.float .f32 p) (.float .f32 b)).run Try.prog w = .ok (.float .f32 (addB p b)) w := fun t w => run_float_arith w .add t .f32 _ _ _ (best_add ok.pace ok.back)
  have h2 : ∀ t w, (binOp .quo t (.float .f32 b) (.float .f32 (addB p b))).run Try.prog w = .ok (.float .f32 (bestW p b)) w := fun t w => run_float_arith w .quo t .f32 _ _ _ (best_quo ok.pace ok.back)
  clear hr ok
  go_enter Try.func90, Try.ntmps90
  go_wp2
  go_quiet (fail)
  go_wp2
  go_ret
  exact Rd.mkN

theorem bestShare_any (cs : List Nat) (p b l : Nat) (ok : OkR cs p b l) (w : World) :
    Calls Try.prog 92 #[.agg (rd cs p b l)] w fun e w' => e = .returned (.float .f32 (bestW p b)) ∧ Below w.heap.size w w' := by
  have c16 := (At.new w (rd cs p b l) 75).cell (rd_pace ok.len p b l)
  have c17 := (At.new w (rd cs p b l) 75).cell (rd_back ok.len p b l)
  have h1 : ∀ t w, (binOp .add t (.float .f32 p) (.float .f32 b)).run Try.prog w = .ok (.float .f32 (addB p b)) w := fun t w => run_float_arith w .add t .f32 _ _ _ (best_add ok.pace ok.back)
  have h2 : ∀ t w, (binOp .quo t (.float .f32 b) (.float .f32 (addB p b))).run Try.prog w = .ok (.float .f32 (bestW p b)) w := fun t w => run_float_arith w .quo t .f32 _ _ _ (best_quo ok.pace ok.back)
  have d1 := rd_pace ok.len p b l
  have d2 := rd_back ok.len p b l
  clear ok
  go_enter Try.func92, Try.ntmps92
  go_wp2_with (first | simp only [h1] | simp only [h2])
  go_ret
  exact ⟨rfl, b0 _ _⟩

theorem mostFlow_any (cs : List Nat) (p b l : Nat) (ok : OkR cs p b l) (w : World) :
    Calls Try.prog 189 #[.agg (rd cs p b l)] w fun e w' => e = .returned (.float .f32 (mostW p b)) ∧ Below w.heap.size w w' := by
  have A0 := At.new w (rd cs p b l) 75
  have d1 := rd_pace ok.len p b l
  have h1 : ∀ t w, (binOp .mul t (.float .f32 p) (.float .f32 (bestW p b))).run Try.prog w = .ok (.float .f32 (mostW p b)) w := fun t w => run_float_arith w .mul t .f32 _ _ _ (most_mul ok.pace ok.back)
  have hC := Cb.const (w.alloc (.cells (rd cs p b l) 75))
  go_enter Try.func189, Try.ntmps189
  go_wp2
  refine wp_region_cb (by kernel_rfl) (by kernel_rfl) ?_
  repeat (first
    | go_big_quiet_skip
    | (go_big_quiet_want; first
      | (refine q_cell 26 _ rfl _ Try.underlying26 _ rfl A0 _ (by assumption) ?_; go_simp; go_big_quiet_on)
      | (refine q_row 75 _ rfl rfl A0 19 (rd_size ok.len p b l) _ Try.underlying75 rfl (by kernel_rfl) ?_; go_simp; go_big_quiet_on)
      | (go_big_quiet_op; go_big_quiet_on)
      | (go_big_quiet_op; apply Exists.intro; refine ⟨fun w' hw' => ?_, ?_⟩; (go_at_call 92; exact (bestShare_any cs p b l ok _).mono fun _ _ h => ⟨h.1, hw'.step h.2⟩); go_big_quiet_on)))
  refine wpQuiet_nil ?_
  intro w1 hw1
  go_wp2
  go_ret
  exact ⟨rfl, bthen (b0 _ _) hw1⟩

theorem sends_mul {p a : Nat} (hp : 1015021568 ≤ p ∧ p ≤ 1065353216) (ha : a ≤ 1065353216) : floatBits .mul .f32 p a = some (mulB p a) ∧ mulB p a ≤ 1065353216 := mul_one_le hp.2 ha
theorem sendsW_le {p b a : Nat} (hp : 1015021568 ≤ p ∧ p ≤ 1065353216) (ha : a ≤ 1065353216) : sendsW p b a ≤ 1065353216 := by have := (sends_mul hp ha).2; unfold sendsW; omega
theorem takesW_le {p b a : Nat} (hp : 1015021568 ≤ p ∧ p ≤ 1065353216) (hb : 1015021568 ≤ b ∧ b ≤ 1065353216) : takesW p b a ≤ 1065353216 := by have := mostW_le hp hb; unfold takesW; omega

theorem sendsAt_any (k : Nat) (hk : k < 16) (cs : List Nat) (p b l : Nat) (ok : OkR cs p b l) (w : World) :
    Calls Try.prog 184 #[.agg (rd cs p b l), .int .i64 k] w fun e w' => e = .returned (.float .f32 (sendsW p b (nth cs k))) ∧ Below w.heap.size w w' := by
  have A0 := At.new w (rd cs p b l) 75
  have d1 := rd_pace ok.len p b l
  have d2 := rd_cell ok.len p b l hk
  have hm := sends_mul ok.pace (ok.car k)
  have hmo := mostW_le ok.pace ok.back
  have h1 : ∀ t w, (binOp .mul t (.float .f32 p) (.float .f32 (nth cs k))).run Try.prog w = .ok (.float .f32 (mulB p (nth cs k))) w := fun t w => run_float_arith w .mul t .f32 _ _ _ hm.1
  have h2 : ∀ ts t w, (Builtin.min_ ts t #[.float .f32 (mulB p (nth cs k)), .float .f32 (mostW p b)]).run Try.prog w = .ok (.float .f32 (sendsW p b (nth cs k))) w := fun ts t w => run_min_amt w ts t (by omega) (by omega)
  have hk' : (k : Int) < 16 := by omega
  have hC := Cb.const (w.alloc (.cells (rd cs p b l) 75))
  clear hm hmo
  go_enter Try.func184, Try.ntmps184
  go_wp2
  refine wp_region_cb (by kernel_rfl) (by kernel_rfl) ?_
  repeat (first
    | go_big_quiet_skip
    | (go_big_quiet_want; first
      | (refine q_cell 26 _ rfl _ Try.underlying26 _ rfl A0 _ (by assumption) ?_; go_simp; go_big_quiet_on)
      | (refine q_row 75 _ rfl rfl A0 19 (rd_size ok.len p b l) _ Try.underlying75 rfl (by kernel_rfl) ?_; go_simp; go_big_quiet_on)
      | (go_big_quiet_op; go_big_quiet_on)
      | (go_big_quiet_op; apply Exists.intro; refine ⟨fun w' hw' => ?_, ?_⟩; (go_at_call 189; exact (mostFlow_any cs p b l ok _).mono fun _ _ h => ⟨h.1, hw'.step h.2⟩); go_big_quiet_on)))
  refine wpQuiet_nil ?_
  intro w1 hw1
  go_wp2
  go_ret
  exact ⟨rfl, bthen (b0 _ _) hw1⟩
end Go.Proofs.Ytopjikgkoodbmaa

/-
  CONTRACTS: cells: their codes.
-/
namespace Go.Proofs.Ytopjikgkoodbmaa
open Go Go.RowKit

theorem Below.drewN0 (w : World) (n : Nat) : Below w.heap.size w (w.drewN n) := below_drewN (Below.refl _ _) n

theorem isCell_any (k : Int) (w : World) : Calls Try.prog 148 #[.int .i64 k] w (Rd (.bool (decide (0 ≤ k ∧ k < 16))) w) := by
  by_cases h : 0 ≤ k
  · by_cases h2 : k < 16
    · rw [decide_eq_true ⟨h, h2⟩]
      go_enter Try.func148, Try.ntmps148
      go_wp2
      go_ret
      exact Rd.mk0
    · rw [decide_eq_false (by omega)]
      go_enter Try.func148, Try.ntmps148
      go_wp2
      go_ret
      exact Rd.mk0
  · rw [decide_eq_false (by omega)]
    go_enter Try.func148, Try.ntmps148
    go_wp2
    go_ret
    exact Rd.mk0

theorem l00In_any (k a b : Int) (w : World) : Calls Try.prog 63 #[.int .i64 k, .int .i64 a, .int .i64 b] w (Rd (.bool (decide (a ≤ k ∧ k ≤ b))) w) := by
  by_cases h : a ≤ k
  · by_cases h2 : k ≤ b
    · rw [decide_eq_true ⟨h, h2⟩]
      go_enter Try.func63, Try.ntmps63
      go_wp2
      go_ret
      exact Rd.mk0
    · rw [decide_eq_false (by omega)]
      go_enter Try.func63, Try.ntmps63
      go_wp2
      go_ret
      exact Rd.mk0
  · rw [decide_eq_false (by omega)]
    go_enter Try.func63, Try.ntmps63
    go_wp2
    go_ret
    exact Rd.mk0
/-- the code of a road and a cell -/
def atC (ok : Bool) (k last : Int) : Int := if ok then (if 0 ≤ k ∧ k ≤ last then 0 else 2) else 1

end Go.Proofs.Ytopjikgkoodbmaa

/-
  CONTRACTS: CarsOn.
-/
namespace Go.Proofs.Ytopjikgkoodbmaa
open Go Go.RowKit

/-- the sum of the first shares, from the first one on -/
def sumW (cs : List Nat) : Nat → Nat
  | 0 => 0
  | 1 => nth cs 0
  | k + 2 => addB (sumW cs (k + 1)) (nth cs (k + 1))
theorem sumW_one (cs : List Nat) : sumW cs 1 = nth cs 0 := rfl
theorem sumW_succ (cs : List Nat) {k : Nat} (h : 1 ≤ k) : sumW cs (k + 1) = addB (sumW cs k) (nth cs k) := by
  obtain ⟨j, rfl⟩ : ∃ j, k = j + 1 := ⟨k - 1, by omega⟩
  rfl
theorem sumW_le {cs : List Nat} {p b l : Nat} (ok : OkR cs p b l) : ∀ k, sumW cs k ≤ 2139095040
  | 0 => by unfold sumW; omega
  | 1 => by rw [sumW_one]; exact Nat.le_trans (ok.car 0) (by omega)
  | k + 2 => by rw [sumW_succ cs (by omega)]; exact (add_any (sumW_le ok (k + 1)) (Nat.le_trans (ok.car _) (by omega))).2
def carsW (cs : List Nat) (l : Nat) : Nat := mulB (sumW cs 16) l
theorem cars_facts {cs : List Nat} {p b l : Nat} (ok : OkR cs p b l) : floatBits .mul .f32 (sumW cs 16) l = some (carsW cs l) ∧ carsW cs l ≤ 2139095040 := by
  have h1 := sumW_le ok 16
  have h2 := ok.lanes
  exact mul_any h1 (by omega) (by omega)
theorem sum_step {P : Program} {cs : List Nat} {p b l k : Nat} (ok : OkR cs p b l) (h : 1 ≤ k) (t : TypeId) (w : World) : (binOp .add t (.float .f32 (sumW cs k)) (.float .f32 (nth cs k))).run P w = .ok (.float .f32 (sumW cs (k + 1))) w :=
  run_float_arith w .add t .f32 _ _ _ (by rw [sumW_succ cs h]; exact (add_any (sumW_le ok k) (Nat.le_trans (ok.car _) (by omega))).1)

theorem l01Sum_any (g : Nat) (cs : List Nat) (p b l : Nat) (ok : OkR cs p b l) (w : World) (hr : RoadAt w g cs p b l) :
    Calls Try.prog 51 #[.pointer (some ⟨g, 0, none⟩)] w fun e w' => e = .returned (.float .f32 (sumW cs 16)) ∧ w = w' := by
  have c0 := hr.car ok.len (k := 0) (by omega)
  go_enter Try.func51, Try.ntmps51
  go_wp2
  go_loop [4, 3] (fun i s => ∃ k : Nat, 1 ≤ k ∧ k ≤ 16 ∧ i = .int .i64 k ∧ s = .float .f32 (sumW cs k)) (fun i _ => 16 - (intOf i).toNat)
  case atStart => exact ⟨1, by omega, by omega, rfl, rfl⟩
  case round =>
    obtain ⟨k, hk1, hk, rfl, rfl⟩ := hrel
    clear c0
    by_cases hlt : k < 16
    · have hi := hr.car ok.len hlt
      have hs := sum_step (P := Try.prog) ok hk1
      go_wp2_with (simp only [hs])
      exact ⟨⟨k + 1, by omega, by omega, by go_num, rfl⟩, by simp [intOf]; omega⟩
    · obtain rfl : k = 16 := by omega
      go_wp2
      go_ret
      exact ⟨rfl, rfl⟩

def vCarsOn (cs : List Nat) (p b l : Nat) : Nat × Int := if okB cs p b l then (carsW cs l, 0) else (0, 1)
theorem vCarsOn_yes {cs : List Nat} {p b l : Nat} (h : okB cs p b l = true) : vCarsOn cs p b l = (carsW cs l, 0) := by unfold vCarsOn; rw [if_pos h]
theorem vCarsOn_no {cs : List Nat} {p b l : Nat} (h : okB cs p b l = false) : vCarsOn cs p b l = (0, 1) := by unfold vCarsOn; rw [h]; rfl

theorem l01Sum_b (g : Nat) (cs : List Nat) (p b l : Nat) (ok : OkR cs p b l) (w : World) (hr : RoadAt w g cs p b l) :
    Calls Try.prog 51 #[.pointer (some ⟨g, 0, none⟩)] w fun e w' => e = .returned (.float .f32 (sumW cs 16)) ∧ Below w.heap.size w w' :=
  (l01Sum_any g cs p b l ok w hr).mono fun _ _ h => ⟨h.1, by rw [← h.2]; exact Below.refl _ _⟩

theorem carsOn_any (cs : List Nat) (p b l : Nat) (ok : OkR cs p b l) (w : World) :
    Calls Try.prog 52 #[.agg (rd cs p b l)] w fun e w' => e = .returned (.float .f32 (carsW cs l)) ∧ Below w.heap.size w w' := by
  have A1 := At.new w (rd cs p b l) 75
  have hl := ok.len
  have c0 := A1.cell (rd_cell hl p b l (k := 0) (by omega))
  go_enter Try.func52, Try.ntmps52
  go_wp2
  go_loop [4, 3] (fun i s => ∃ k : Nat, 1 ≤ k ∧ k ≤ 16 ∧ i = .int .i64 k ∧ s = .float .f32 (sumW cs k)) (fun i _ => 16 - (intOf i).toNat)
  case atStart => exact ⟨1, by omega, by omega, rfl, rfl⟩
  case round =>
    obtain ⟨k, hk1, hk, rfl, rfl⟩ := hrel
    clear c0
    by_cases hlt : k < 16
    · have hi := A1.cell (rd_cell hl p b l hlt)
      have hs := sum_step (P := Try.prog) ok hk1
      go_wp2_with (simp only [hs])
      exact ⟨⟨k + 1, by omega, by omega, by go_num, rfl⟩, by simp [intOf]; omega⟩
    · obtain rfl : k = 16 := by omega
      have hi := A1.cell (rd_lanes hl p b l)
      have hs : ∀ t w, (binOp .mul t (.float .f32 (sumW cs 16)) (.float .f32 l)).run Try.prog w = .ok (.float .f32 (carsW cs l)) w := fun t w => run_float_arith w .mul t .f32 _ _ _ (cars_facts ok).1
      go_wp2_with (simp only [hs])
      go_ret
      exact ⟨rfl, b0 _ _⟩

theorem RoadAt.ofAt {W : World} {g : Nat} {cs : List Nat} {p b l : Nat} {T : TypeId} (h : At W g (rd cs p b l) T) : RoadAt W g cs p b l := ⟨T, _, h⟩

theorem vCarsOn_good {cs : List Nat} (hl : cs.length = 16) (p b l : Nat) : (vCarsOn cs p b l).1 < 4294967296 ∧ nanB (vCarsOn cs p b l).1 = false := by
  cases h : okB cs p b l
  · rw [vCarsOn_no h]; exact ⟨by decide, by decide⟩
  · rw [vCarsOn_yes h]
    have h2 := (cars_facts (OkR.of hl h)).2
    generalize carsW cs l = x at h2 ⊢
    have h3 := nan_le h2 (Nat.le_refl _)
    exact h3
end Go.Proofs.Ytopjikgkoodbmaa

/-
  Cars in a town: the sums.
-/
namespace Go.Proofs.Ytopjikgkoodbmaa
open Go Go.ChangeShapes Go.WideShapes Go.ChangeAt Go.RowKit
set_option maxRecDepth 100000

theorem l01SumO_any (g off : Nat) (cs : List Nat) (p b l : Nat) (ok : OkR cs p b l) (w : World) (hr : RdAt w g off cs p b l) :
    Calls Try.prog 51 #[.pointer (some ⟨g, off, none⟩)] w fun e w' => e = .returned (.float .f32 (sumW cs 16)) ∧ w = w' := by
  have c0 : w.cell? ⟨g, off, none⟩ = some (.float .f32 (nth cs 0)) := hr.car ok.len (k := 0) (by omega)
  go_enter Try.func51, Try.ntmps51
  go_wp2
  go_loop [4, 3] (fun i s => ∃ k : Nat, 1 ≤ k ∧ k ≤ 16 ∧ i = .int .i64 k ∧ s = .float .f32 (sumW cs k)) (fun i _ => 16 - (intOf i).toNat)
  case atStart => exact ⟨1, by omega, by omega, rfl, rfl⟩
  case round =>
    obtain ⟨k, hk1, hk, rfl, rfl⟩ := hrel
    clear c0
    by_cases hlt : k < 16
    · have hi := hr.car ok.len hlt
      have hs := sum_step (P := Try.prog) ok hk1
      go_wp2_with (simp only [hs])
      exact ⟨⟨k + 1, by omega, by omega, by go_num, rfl⟩, by simp [intOf]; omega⟩
    · obtain rfl : k = 16 := by omega
      go_wp2
      go_ret
      exact ⟨rfl, rfl⟩

def cK (rs : List Rd4) (k : Nat) : Nat := carsW (fe zR rs k).cs (fe zR rs k).l

def carsT (c : Nat → Nat) : Nat → Nat
  | 0 => 0
  | 1 => c 0
  | k + 2 => addB (carsT c (k + 1)) (c (k + 1))

theorem carsT_succ (c : Nat → Nat) {k : Nat} (h : 1 ≤ k) : carsT c (k + 1) = addB (carsT c k) (c k) := by
  obtain ⟨j, rfl⟩ : ∃ j, k = j + 1 := ⟨k - 1, by omega⟩
  rfl

theorem carsT_le {c : Nat → Nat} {n : Nat} (h : ∀ k, k < n → c k ≤ 2139095040) : ∀ k, k ≤ n → carsT c k ≤ 2139095040
  | 0, _ => by unfold carsT; omega
  | 1, h1 => h 0 (by omega)
  | k + 2, h2 => by rw [carsT_succ c (by omega)]; exact (add_any (carsT_le h (k + 1) (by omega)) (h _ (by omega))).2

theorem carsT_step {P : Program} {c : Nat → Nat} {n k : Nat} (h : ∀ k, k < n → c k ≤ 2139095040) (h1 : 1 ≤ k) (hk : k < n) (t : TypeId) (w : World) : (binOp .add t (.float .f32 (carsT c k)) (.float .f32 (c k))).run P w = .ok (.float .f32 (carsT c (k + 1))) w :=
  run_float_arith w .add t .f32 _ _ _ (by rw [carsT_succ c h1]; exact (add_any (carsT_le h k (by omega)) (h k hk)).1)

def vCI (T : Tn) : Nat × Int := if validT T then (carsT (cK T.rs) T.rs.length, 0) else (0, 1)

theorem valid_ok {T : Tn} (h : validT T = true) : ∀ k, k < T.rs.length → OkR (fe zR T.rs k).cs (fe zR T.rs k).p (fe zR T.rs k).b (fe zR T.rs k).l := by
  unfold validT at h
  simp only [Bool.and_eq_true] at h
  intro k hk
  exact OkR.of (fe zR T.rs k).hl (allN_iff.1 h.1.1.1.1.1.1.2 k hk)

theorem valid_oneC {T : Tn} (h : validT T = true) : 1 ≤ T.rs.length := by
  unfold validT at h
  simp only [Bool.and_eq_true, decide_eq_true_eq] at h
  omega

theorem cK_le {T : Tn} (h : validT T = true) : ∀ k, k < T.rs.length → cK T.rs k ≤ 2139095040 := fun k hk => (cars_facts (valid_ok h k hk)).2

def nxtR (gr n : Nat) : Addr := if n = 1 then ⟨gr, 0, none⟩ else ⟨gr, 19, none⟩

theorem run_tailR (W : World) (gr m : Nat) (h : 0 < m) : (Instr.sliceAt 31 (.slice (some ⟨gr, 0, none⟩) m m) (some (.int .i64 1)) none none).run Try.prog W = .ok (.slice (some (nxtR gr m)) (m - 1) (m - 1)) W := by
  have ht : Try.prog.underlying 31 = some (.slice (Try.prog.elem 31)) := by kernel_rfl
  have hs : (sizeOf (Try.prog.elem 31)).run Try.prog W = .ok 19 W := by kernel_rfl
  rw [run_sliceAt_slice _ _ _ _ _ _ ht, run_slice_l _ _ _ _ _ ht _ _ (by decide) (by omega), hs]
  unfold nxtR
  by_cases c : m = 1
  · subst c; rfl
  · simp [sliced, Result.andThen, c, Addr.add]

end Go.Proofs.Ytopjikgkoodbmaa

/-
  CONTRACTS: CarsIn, both sides.
-/
namespace Go.Proofs.Ytopjikgkoodbmaa
open Go Go.ChangeShapes Go.WideShapes Go.ChangeAt Go.RowKit
set_option maxRecDepth 100000

set_option maxHeartbeats 2000000 in
theorem CarsIn_own (T : Tn) (gr gf gj gp : Nat) (hN : TnN T) (hB : TnB T) (w : World) (hT : TOwn w gr gf gj gp T) :
    Calls Try.prog 16 #[.agg (tnR T (slN gr T.rs.length) (slN gf T.fs.length) (slN gj T.js.length) (slN gp T.ps.length))] w fun e w' => e = .returned (.tuple #[.float .f32 (vCI T).1, .int .i64 (vCI T).2]) ∧ Below w.heap.size w w' := by
  have A0 := At.new w (tnR T (slN gr T.rs.length) (slN gf T.fs.length) (slN gj T.js.length) (slN gp T.ps.length)) 35
  have T0 := hT.step (b0 w (.cells (tnR T (slN gr T.rs.length) (slN gf T.fs.length) (slN gj T.js.length) (slN gp T.ps.length)) 35))
  have BW := Lib.hid (b0 w (.cells (tnR T (slN gr T.rs.length) (slN gf T.fs.length) (slN gj T.js.length) (slN gp T.ps.length)) 35))
  have KV := ValidTown_own T gr gf gj gp hN hB _ T0
  cases hv : validT T
  · rw [hv] at KV
    have HV := Lib.hid (show vCI T = (0, 1) from by unfold vCI; rw [hv]; rfl)
    clear hv hT T0
    go_enter Try.func16, Try.ntmps16
    go_wp2_with (((with_reducible refine is_load 35 _ rfl ?_); refine wpList_load_at rfl 35 _ rfl _ rfl (tnR T (slN gr T.rs.length) (slN gf T.fs.length) (slN gj T.js.length) (slN gp T.ps.length)) _ (by with_reducible assumption) 7 (rfl) _ Try.underlying35 rfl (by kernel_rfl) ?_))
    refine KV.mono ?_
    rintro e w1 ⟨rfl, hb1⟩
    have B1 := Lib.hid (bthen BW.out hb1)
    clear KV hb1 A0 BW
    go_wp2_with fail
    go_ret2
    exact ⟨by rw [HV.out]; rfl, B1.out⟩
  · rw [hv] at KV
    have h1 := valid_oneC hv
    have hok := valid_ok hv
    have hcl := cK_le hv
    have hvl : vCI T = (carsT (cK T.rs) T.rs.length, 0) := by unfold vCI; rw [hv]; rfl
    have hn := hN.r
    have hR := T0.r
    clear hT T0 hv
    obtain ⟨rs, fs, js, ps, tk, ca, we⟩ := T
    have hR : At _ gr (fm rdr rs) 75 := hR
    have hn : rs.length ≤ 1048576 := hn
    have hok : ∀ k, k < rs.length → OkR (fe zR rs k).cs (fe zR rs k).p (fe zR rs k).b (fe zR rs k).l := hok
    have hcl : ∀ k, k < rs.length → cK rs k ≤ 2139095040 := hcl
    have h1 : 1 ≤ rs.length := h1
    have hvl : vCI ⟨rs, fs, js, ps, tk, ca, we⟩ = (carsT (cK rs) rs.length, 0) := hvl
    obtain ⟨vf, hvf⟩ : ∃ v, v = slN gf fs.length := ⟨_, rfl⟩
    obtain ⟨vj, hvj⟩ : ∃ v, v = slN gj js.length := ⟨_, rfl⟩
    obtain ⟨vp, hvp⟩ : ∃ v, v = slN gp ps.length := ⟨_, rfl⟩
    change At (w.alloc (.cells (tnC (.slice (some ⟨gr, 0, none⟩) rs.length rs.length) (slN gf fs.length) (slN gj js.length) (slN gp ps.length) tk ca we) 35)) _ (tnC (.slice (some ⟨gr, 0, none⟩) rs.length rs.length) (slN gf fs.length) (slN gj js.length) (slN gp ps.length) tk ca we) _ at A0
    change Calls _ _ #[.agg (tnC (.slice (some ⟨gr, 0, none⟩) rs.length rs.length) (slN gf fs.length) (slN gj js.length) (slN gp ps.length) tk ca we)] w _
    change Hid (Below w.heap.size w (w.alloc (.cells (tnC (.slice (some ⟨gr, 0, none⟩) rs.length rs.length) (slN gf fs.length) (slN gj js.length) (slN gp ps.length) tk ca we) 35))) at BW
    change At (w.alloc (.cells (tnC (.slice (some ⟨gr, 0, none⟩) rs.length rs.length) (slN gf fs.length) (slN gj js.length) (slN gp ps.length) tk ca we) 35)) _ _ _ at hR
    change Calls _ _ #[.agg (tnC (.slice (some ⟨gr, 0, none⟩) rs.length rs.length) (slN gf fs.length) (slN gj js.length) (slN gp ps.length) tk ca we)] (w.alloc (.cells (tnC (.slice (some ⟨gr, 0, none⟩) rs.length rs.length) (slN gf fs.length) (slN gj js.length) (slN gp ps.length) tk ca we) 35)) _ at KV
    rw [← hvf, ← hvj, ← hvp] at A0 BW hR KV ⊢
    obtain ⟨n, hnn⟩ : ∃ n, n = rs.length := ⟨_, rfl⟩
    obtain ⟨qf, hqf⟩ : ∃ q, q = cK rs := ⟨_, rfl⟩
    rw [← hnn] at A0 BW hR KV hn hok hcl h1 hvl ⊢
    rw [← hqf] at hcl hvl
    have HN := Lib.hid hnn
    have HQF := Lib.hid hqf
    have HV := Lib.hid hvl
    have HOK := Lib.hid (And.intro hok hcl)
    clear hvf hvj hvp hnn hqf hvl hok hcl hN hB
    go_enter Try.func16, Try.ntmps16
    go_wp2_with (((with_reducible refine is_load 35 _ rfl ?_); refine wpList_load_at rfl 35 _ rfl _ rfl (tnC (.slice (some ⟨gr, 0, none⟩) n n) vf vj vp tk ca we) _ (by with_reducible assumption) 7 (rfl) _ Try.underlying35 rfl (by kernel_rfl) ?_))
    refine KV.mono ?_
    rintro e W ⟨rfl, hb1⟩
    have HX := Lib.hid (And.intro (A0.step hb1) (hR.step hb1))
    have BW := Lib.hid (bthen BW.out hb1)
    have HWs := Lib.hid (show w.heap.size ≤ W.heap.size from BW.out.size)
    have A1 := HX.out.1
    clear KV hb1 A0 hR
    have R1 := HX.out.2
    have hsl0 := fm_at (d := zR) (k := 0) rdr_size (xs := rs) (i := 0) (by rw [← HN.out]; omega) (by omega)
    have hle0 : 0 + 19 ≤ (fm rdr rs).size := by rw [fm_size rdr_size, ← HN.out]; omega
    have K0 := fun w' => carsOn_any (fe zR rs 0).cs (fe zR rs 0).p (fe zR rs 0).b (fe zR rs 0).l (HOK.out.1 0 (by omega)) w'
    have hc0 : qf 0 = carsW (fe zR rs 0).cs (fe zR rs 0).l := by rw [HQF.out]; rfl
    rw [← hc0] at K0
    change ∀ w', Calls _ _ #[.agg (rdr (fe zR rs 0))] w' _ at K0
    have kz : (0 : Int) < (n : Int) := by omega
    obtain ⟨r0, hr0⟩ : ∃ r, r = (fe zR rs 0) := ⟨_, rfl⟩
    rw [← hr0] at hsl0 K0
    clear hc0 hr0
    go_wp2_with (first | ((with_reducible refine is_load 31 _ rfl ?_); refine wpList_load_cell rfl 31 _ rfl _ 0 rfl (tnC (.slice (some ⟨gr, 0, none⟩) n n) vf vj vp tk ca we) _ (by with_reducible assumption) _ Try.underlying31 rfl (.slice (some ⟨gr, 0, none⟩) n n) (tnC_0 _ _ _ _ _ _ _) ?_) | ((with_reducible refine is_load 75 _ rfl ?_); refine wpList_load_part rfl 75 _ rfl _ (0) rfl (fm rdr rs) _ (by with_reducible assumption) 19 hle0 _ Try.underlying75 rfl (by kernel_rfl) (rdr r0) hsl0 ?_))
    refine (K0 _).mono ?_
    rintro e w1 ⟨rfl, hb1⟩
    have A2 := A1.step hb1
    have B2 := Lib.hid (bthen BW.out hb1)
    have HY := Lib.hid (And.intro A2 (R1.step hb1))
    have HW1 := Lib.hid (show w.heap.size ≤ w1.heap.size from B2.out.size)
    obtain ⟨m, hm⟩ : ∃ m, n = m + 1 := ⟨n - 1, by omega⟩
    have rt : ∀ W', (Instr.sliceAt 31 (.slice (some ⟨gr, 0, none⟩) n n) (some (.int .i64 1)) none none).run Try.prog W' = .ok (.slice (some (nxtR gr n)) m m) W' := fun W' => by
      have := run_tailR W' gr n (by omega)
      rwa [show n - 1 = m from by omega] at this
    clear K0 hb1 A1 R1 hsl0 hle0
    have HM := Lib.hid hm
    clear hm
    go_wp2_with (first | ((with_reducible refine is_load 31 _ rfl ?_); refine wpList_load_cell rfl 31 _ rfl _ 0 rfl (tnC (.slice (some ⟨gr, 0, none⟩) n n) vf vj vp tk ca we) _ (by with_reducible assumption) _ Try.underlying31 rfl (.slice (some ⟨gr, 0, none⟩) n n) (tnC_0 _ _ _ _ _ _ _) ?_))
    clear A2
    go_loopw [4, 19] (fun s i wr => ∃ k : Nat, k ≤ m ∧ i = .int .i64 (k : Int) ∧ s = .float .f32 (carsT qf (k + 1)) ∧ Hid (Below w1.heap.size w1 wr)) (fun _ i _ => m - (intOf i).toNat)
    case atStart => exact ⟨0, by omega, rfl, rfl, Lib.hid (Below.refl _ _)⟩
    case round =>
      obtain ⟨k, hk, rfl, rfl, B3⟩ := hrel
      have R3 := HY.out.2.step B3.out
      by_cases hlt : k < m
      · have s2 : IntKind.i64.wrap ((k : Int) + 1) = (k : Int) + 1 := IntWalk.i64_in _ (by have := HM.out; omega)
        have kd : (k : Int) < (m : Int) := by omega
        have hk1 : k + 1 < n := by have := HM.out; omega
        rw [show nxtR gr n = ⟨gr, 19, none⟩ from if_neg (by omega)]
        have hsl := fm_at (d := zR) (k := 19 + k * 19) rdr_size (xs := rs) (i := k + 1) (by rw [← HN.out]; exact hk1) (by omega)
        have hle : 19 + k * 19 + 19 ≤ (fm rdr rs).size := by rw [fm_size rdr_size, ← HN.out]; omega
        have KC := fun w' => carsOn_any (fe zR rs (k + 1)).cs (fe zR rs (k + 1)).p (fe zR rs (k + 1)).b (fe zR rs (k + 1)).l (HOK.out.1 (k + 1) hk1) w'
        have hq : qf (k + 1) = carsW (fe zR rs (k + 1)).cs (fe zR rs (k + 1)).l := by rw [HQF.out]; rfl
        rw [← hq] at KC
        change ∀ w', Calls _ _ #[.agg (rdr (fe zR rs (k + 1)))] w' _ at KC
        have hs := fun t W => carsT_step (P := Try.prog) HOK.out.2 (k := k + 1) (by omega) hk1 t W
        obtain ⟨r, hr⟩ : ∃ r, r = fe zR rs (k + 1) := ⟨_, rfl⟩
        rw [← hr] at hsl KC
        have N0 := At.new wr (#[.float .f32 0, .float .f32 0, .float .f32 0, .float .f32 0, .float .f32 0, .float .f32 0, .float .f32 0, .float .f32 0, .float .f32 0, .float .f32 0, .float .f32 0, .float .f32 0, .float .f32 0, .float .f32 0, .float .f32 0, .float .f32 0, .float .f32 0, .float .f32 0, .float .f32 0]) 75
        have N1 := N0.setRow (rdr r)
        have B4 := Lib.hid (bset (bnew B3.out (.cells (#[.float .f32 0, .float .f32 0, .float .f32 0, .float .f32 0, .float .f32 0, .float .f32 0, .float .f32 0, .float .f32 0, .float .f32 0, .float .f32 0, .float .f32 0, .float .f32 0, .float .f32 0, .float .f32 0, .float .f32 0, .float .f32 0, .float .f32 0, .float .f32 0, .float .f32 0]) 75)) (g := wr.heap.size) B3.out.size (rdr r))
        clear hr hq B3 hk1
        go_wp2_with (first | ((with_reducible refine is_load 75 _ rfl ?_); refine wpList_load_part rfl 75 _ rfl _ (19 + k * 19) rfl (fm rdr rs) _ (by with_reducible assumption) 19 hle _ Try.underlying75 rfl (by kernel_rfl) (rdr r) hsl ?_) | ((with_reducible refine is_store 75 _ _ rfl ?_); refine wpList_store_at rfl 75 _ _ rfl _ rfl (rdr r) rfl (#[.float .f32 0, .float .f32 0, .float .f32 0, .float .f32 0, .float .f32 0, .float .f32 0, .float .f32 0, .float .f32 0, .float .f32 0, .float .f32 0, .float .f32 0, .float .f32 0, .float .f32 0, .float .f32 0, .float .f32 0, .float .f32 0, .float .f32 0, .float .f32 0, .float .f32 0]) _ (by with_reducible assumption) 19 (rdr_size _) rfl (by kernel_rfl) (rdr_one _) ?_) | ((with_reducible refine is_load 75 _ rfl ?_); refine wpList_load_at rfl 75 _ rfl _ rfl (rdr r) _ (by with_reducible assumption) 19 (rdr_size _) _ Try.underlying75 rfl (by kernel_rfl) ?_))
        refine (KC _).mono ?_
        rintro e w3 ⟨rfl, hb3⟩
        have B5 := Lib.hid (bthen B4.out hb3)
        clear R3 B4 KC hb3 hsl hle N0 N1
        go_wp2_with (simp only [hs])
        exact ⟨⟨k + 1, by omega, by go_num, rfl, B5⟩, by simp [intOf]; omega⟩
      · obtain rfl : m = k := by omega
        clear R3
        go_wp2_with fail
        go_ret2
        exact ⟨by rw [HV.out, HM.out]; rfl, B2.out.trans (B3.out.mono HW1.out)⟩

set_option maxHeartbeats 2000000 in
theorem sCarsIn_own (T : Tn) (gr gf gj gp : Nat) (hN : TnN T) (hB : TnB T) (w : World) (hT : TOwn w gr gf gj gp T) :
    Calls Try.prog 15 #[.agg (tnR T (slN gr T.rs.length) (slN gf T.fs.length) (slN gj T.js.length) (slN gp T.ps.length))] w fun e w' => e = .returned (.tuple #[.float .f32 (vCI T).1, .int .i64 (vCI T).2]) ∧ Below w.heap.size w w' := by
  have A0 := At.new w (tnR T (slN gr T.rs.length) (slN gf T.fs.length) (slN gj T.js.length) (slN gp T.ps.length)) 35
  have T0 := hT.step (b0 w (.cells (tnR T (slN gr T.rs.length) (slN gf T.fs.length) (slN gj T.js.length) (slN gp T.ps.length)) 35))
  have BW := Lib.hid (b0 w (.cells (tnR T (slN gr T.rs.length) (slN gf T.fs.length) (slN gj T.js.length) (slN gp T.ps.length)) 35))
  have KV := l06Ok_own T w.heap.size gr gf gj gp hN hB _ A0 T0
  rw [valid_same] at KV
  cases hv : validT T
  · rw [hv] at KV
    have HV := Lib.hid (show vCI T = (0, 1) from by unfold vCI; rw [hv]; rfl)
    clear hv hT T0
    go_enter Try.func15, Try.ntmps15
    go_wp2_with fail
    refine KV.mono ?_
    rintro e w1 ⟨rfl, hb1⟩
    have B1 := Lib.hid (bthen BW.out hb1)
    clear KV hb1 A0 BW
    go_wp2_with fail
    go_ret2
    exact ⟨by rw [HV.out]; rfl, B1.out⟩
  · rw [hv] at KV
    have h1 := valid_oneC hv
    have hok := valid_ok hv
    have hcl := cK_le hv
    have hvl : vCI T = (carsT (cK T.rs) T.rs.length, 0) := by unfold vCI; rw [hv]; rfl
    have hn := hN.r
    have hR := T0.r
    clear hT T0 hv
    obtain ⟨rs, fs, js, ps, tk, ca, we⟩ := T
    have hR : At _ gr (fm rdr rs) 75 := hR
    have hn : rs.length ≤ 1048576 := hn
    have hok : ∀ k, k < rs.length → OkR (fe zR rs k).cs (fe zR rs k).p (fe zR rs k).b (fe zR rs k).l := hok
    have hcl : ∀ k, k < rs.length → cK rs k ≤ 2139095040 := hcl
    have h1 : 1 ≤ rs.length := h1
    have hvl : vCI ⟨rs, fs, js, ps, tk, ca, we⟩ = (carsT (cK rs) rs.length, 0) := hvl
    obtain ⟨vf, hvf⟩ : ∃ v, v = slN gf fs.length := ⟨_, rfl⟩
    obtain ⟨vj, hvj⟩ : ∃ v, v = slN gj js.length := ⟨_, rfl⟩
    obtain ⟨vp, hvp⟩ : ∃ v, v = slN gp ps.length := ⟨_, rfl⟩
    change At (w.alloc (.cells (tnC (.slice (some ⟨gr, 0, none⟩) rs.length rs.length) (slN gf fs.length) (slN gj js.length) (slN gp ps.length) tk ca we) 35)) _ (tnC (.slice (some ⟨gr, 0, none⟩) rs.length rs.length) (slN gf fs.length) (slN gj js.length) (slN gp ps.length) tk ca we) _ at A0
    change Calls _ _ #[.agg (tnC (.slice (some ⟨gr, 0, none⟩) rs.length rs.length) (slN gf fs.length) (slN gj js.length) (slN gp ps.length) tk ca we)] w _
    change Hid (Below w.heap.size w (w.alloc (.cells (tnC (.slice (some ⟨gr, 0, none⟩) rs.length rs.length) (slN gf fs.length) (slN gj js.length) (slN gp ps.length) tk ca we) 35))) at BW
    change At (w.alloc (.cells (tnC (.slice (some ⟨gr, 0, none⟩) rs.length rs.length) (slN gf fs.length) (slN gj js.length) (slN gp ps.length) tk ca we) 35)) _ _ _ at hR
    change Calls _ _ _ (w.alloc (.cells (tnC (.slice (some ⟨gr, 0, none⟩) rs.length rs.length) (slN gf fs.length) (slN gj js.length) (slN gp ps.length) tk ca we) 35)) _ at KV
    rw [← hvf, ← hvj, ← hvp] at A0 BW hR KV ⊢
    obtain ⟨n, hnn⟩ : ∃ n, n = rs.length := ⟨_, rfl⟩
    obtain ⟨qf, hqf⟩ : ∃ q, q = cK rs := ⟨_, rfl⟩
    rw [← hnn] at A0 BW hR KV hn hok hcl h1 hvl ⊢
    rw [← hqf] at hcl hvl
    have HN := Lib.hid hnn
    have HQF := Lib.hid hqf
    have HV := Lib.hid hvl
    have HOK := Lib.hid (And.intro hok hcl)
    clear hvf hvj hvp hnn hqf hvl hok hcl hN hB
    go_enter Try.func15, Try.ntmps15
    go_wp2_with fail
    refine KV.mono ?_
    rintro e W ⟨rfl, hb1⟩
    have HX := Lib.hid (And.intro (A0.step hb1) (hR.step hb1))
    have BW := Lib.hid (bthen BW.out hb1)
    have HWs := Lib.hid (show w.heap.size ≤ W.heap.size from BW.out.size)
    have A1 := HX.out.1
    clear KV hb1 A0 hR
    clear A1
    go_wp2_with fail
    go_loopw [4, 5] (fun s i wr => ∃ k : Nat, k ≤ n ∧ i = .int .i64 (k : Int) ∧ s = .float .f32 (carsT qf k) ∧ Hid (Below W.heap.size W wr)) (fun _ i _ => n - (intOf i).toNat)
    case atStart => exact ⟨0, by omega, rfl, rfl, Lib.hid (Below.refl _ _)⟩
    case round =>
      obtain ⟨k, hk, rfl, rfl, B3⟩ := hrel
      have A3 := HX.out.1.step B3.out
      have R3 := HX.out.2.step B3.out
      by_cases hlt : k < n
      · have s2 : IntKind.i64.wrap ((k : Int) + 1) = (k : Int) + 1 := IntWalk.i64_in _ (by omega)
        have kd : (k : Int) < (n : Int) := by omega
        have hkr : k < rs.length := by rw [← HN.out]; exact hlt
        have hok := HOK.out.1 k hlt
        have KS := fun w' (hb : Below wr.heap.size wr w') => l01SumO_any gr (k * 19) (fe zR rs k).cs (fe zR rs k).p (fe zR rs k).b (fe zR rs k).l hok w' (RdAt.of_row (R3.step hb) hkr)
        have hla : (fm rdr rs)[k * 19 + 18]? = some (.float .f32 (fe zR rs k).l) := (fm_get (d := zR) rdr_size hkr (by omega)).trans (rd_lanes (fe zR rs k).hl _ _ _)
        have hq : qf k = carsW (fe zR rs k).cs (fe zR rs k).l := by rw [HQF.out]; rfl
        have hm : ∀ t W', (binOp .mul t (.float .f32 (sumW (fe zR rs k).cs 16)) (.float .f32 (fe zR rs k).l)).run Try.prog W' = .ok (.float .f32 (qf k)) W' := fun t W' => by rw [hq]; exact run_float_arith W' .mul t .f32 _ _ _ (cars_facts hok).1
        have hC := Cb.const wr
        have KS := Lib.hid KS
        have HOS := Lib.hid HOK.out.2
        clear hq hok hkr
        generalize sumW (fe zR rs k).cs 16 = sm at *
        generalize (fe zR rs k).l = lk at *
        go_wp2_with (first | ((with_reducible refine is_load 31 _ rfl ?_); refine wpList_load_cell rfl 31 _ rfl _ 0 rfl (tnC (.slice (some ⟨gr, 0, none⟩) n n) vf vj vp tk ca we) _ (by with_reducible assumption) _ Try.underlying31 rfl (.slice (some ⟨gr, 0, none⟩) n n) (tnC_0 _ _ _ _ _ _ _) ?_))
        refine wp_region_cb (by kernel_rfl) (by kernel_rfl) ?_
        repeat (first
          | go_big_quiet_skip
          | (go_big_quiet_want; first
            | (refine q_oneI 31 _ rfl _ Try.underlying31 rfl 0 rfl A3 _ (tnC_0 _ _ _ _ _ _ _) ?_; go_simp; go_big_quiet_on)
            | (refine q_oneI 26 _ rfl _ Try.underlying26 rfl (k * 19 + 18) rfl R3 _ hla ?_; go_simp; go_big_quiet_on)
            | (go_big_quiet_op; go_big_quiet_on)
            | (go_big_quiet_op; simp only [hm]; go_big_quiet_on)
            | (go_big_quiet_op; apply Exists.intro; refine ⟨fun w' hw' => ?_, ?_⟩; (go_at_call 51; exact (KS.out _ hw').mono fun _ _ h => ⟨h.1, by rw [← h.2]; exact hw'⟩); go_big_quiet_on)))
        refine wpQuiet_nil ?_
        intro w5 hw5
        have B5 := Lib.hid (bthen B3.out hw5)
        clear hC A3 R3 KS hla hm hw5 B3
        by_cases hz : k = 0
        · subst hz
          go_wp2_with fail
          exact ⟨⟨1, by omega, rfl, rfl, B5⟩, by simp [intOf]; omega⟩
        · have hs := fun t W => carsT_step (P := Try.prog) HOS.out (k := k) (by omega) hlt t W
          have hz2 : ((k : Int) == 0) = false := by simpa using hz
          go_wp2_with (simp only [hs])
          exact ⟨⟨k + 1, by omega, by go_num, rfl, B5⟩, by simp [intOf]; omega⟩
      · obtain rfl : n = k := by omega
        clear R3
        go_wp2_with (first | ((with_reducible refine is_load 31 _ rfl ?_); refine wpList_load_cell rfl 31 _ rfl _ 0 rfl (tnC (.slice (some ⟨gr, 0, none⟩) n n) vf vj vp tk ca we) _ (by with_reducible assumption) _ Try.underlying31 rfl (.slice (some ⟨gr, 0, none⟩) n n) (tnC_0 _ _ _ _ _ _ _) ?_))
        go_ret2
        exact ⟨by rw [HV.out]; rfl, BW.out.trans (B3.out.mono HWs.out)⟩

end Go.Proofs.Ytopjikgkoodbmaa
