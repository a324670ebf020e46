/-
  CONTRACTS: the best share, the most flow, what cells send and take.
-/
import Derived.Test.YtapnkkbkhifmeaaG2
import Derived.Test.YtapnkkbkhifmeaaG4
import Derived.Test.YtapnkkbkhifmeaaArith
namespace Go.Proofs.Ytapnkkbkhifmeaa
open Go Go.RowKit

structure OkR (cs : List Nat) (p b l : Nat) : Prop where
  len : cs.length = 16
  cars : ∀ x ∈ cs, x ≤ 1065353216
  pace : 1015021568 ≤ p ∧ p ≤ 1065353216
  back : 1015021568 ≤ b ∧ b ≤ 1065353216
  lanes : 1048576000 ≤ l ∧ l ≤ 1090519040
theorem OkR.of {cs : List Nat} {p b l : Nat} (hl : cs.length = 16) (h : okB cs p b l = true) : OkR cs p b l := by
  unfold okB paceB lanesB at h
  simp only [Bool.and_eq_true, List.all_eq_true, decide_eq_true_eq] at h
  obtain ⟨⟨⟨h1, h2⟩, h3⟩, h4⟩ := h
  exact ⟨hl, fun x hx => by have := h1 x hx; unfold shrB at this; simpa using this, h2, h3, h4⟩
theorem OkR.car {cs : List Nat} {p b l : Nat} (h : OkR cs p b l) (k : Nat) : nth cs k ≤ 1065353216 := by
  unfold nth
  rw [List.getD_eq_getElem?_getD]
  cases e : cs[k]? with
  | none => simp
  | some v => exact h.cars v (List.mem_of_getElem? e)

def bestW (p b : Nat) : Nat := divB b (addB p b)
def mostW (p b : Nat) : Nat := mulB p (bestW p b)
def sendsW (p b a : Nat) : Nat := min (mulB p a) (mostW p b)
def takesW (p b a : Nat) : Nat := min (mulB b (subB 1065353216 a)) (mostW p b)

section
variable {p b : Nat} (hp : 1015021568 ≤ p ∧ p ≤ 1065353216) (hb : 1015021568 ≤ b ∧ b ≤ 1065353216)
include hp hb
theorem best_add : floatBits .add .f32 p b = some (addB p b) := (add_eq (by omega) (by omega)).1
theorem best_quo : floatBits .quo .f32 b (addB p b) = some (bestW p b) := by
  have := sum_rule hp hb
  exact (div_some (by omega) (by omega) (by omega)).1
theorem bestW_le : bestW p b ≤ 1065353216 := best_le hp hb
theorem most_mul : floatBits .mul .f32 p (bestW p b) = some (mostW p b) := by
  have := bestW_le hp hb
  exact (mul_eq (by omega) (by omega)).1
theorem mostW_le : mostW p b ≤ 1065353216 := by
  have := bestW_le hp hb
  have := mul_share hp.2 (y := bestW p b) (by omega)
  unfold mostW; omega
end

theorem l01Best_any (g : Nat) (cs : List Nat) (p b l : Nat) (ok : OkR cs p b l) (w : World) (hr : RoadAt w g cs p b l) :
    Calls Try.prog 66 #[.pointer (some ⟨g, 0, none⟩)] w (Rd (.float .f32 (bestW p b)) w) := by
  have c16 := hr.pace ok.len
  have c17 := hr.back ok.len
  have h1 : ∀ t w, (binOp .add t (.float .f32 p) (.float .f32 b)).run Try.prog w = .ok (.float .f32 (addB p b)) w := fun t w => run_float_arith w .add t .f32 _ _ _ (best_add ok.pace ok.back)
  have h2 : ∀ t w, (binOp .quo t (.float .f32 b) (.float .f32 (addB p b))).run Try.prog w = .ok (.float .f32 (bestW p b)) w := fun t w => run_float_arith w .quo t .f32 _ _ _ (best_quo ok.pace ok.back)
  clear hr ok
  go_enter Try.func66, Try.ntmps66
  go_wp2
  go_quiet (fail)
  go_wp2
  go_ret
  exact Rd.mkN

theorem bestShare_any (cs : List Nat) (p b l : Nat) (ok : OkR cs p b l) (w : World) :
    Calls Try.prog 68 #[.agg (rd cs p b l)] w fun e w' => e = .returned (.float .f32 (bestW p b)) ∧ Below w.heap.size w w' := by
  have c16 := (At.new w (rd cs p b l) 28).cell (rd_pace ok.len p b l)
  have c17 := (At.new w (rd cs p b l) 28).cell (rd_back ok.len p b l)
  have h1 : ∀ t w, (binOp .add t (.float .f32 p) (.float .f32 b)).run Try.prog w = .ok (.float .f32 (addB p b)) w := fun t w => run_float_arith w .add t .f32 _ _ _ (best_add ok.pace ok.back)
  have h2 : ∀ t w, (binOp .quo t (.float .f32 b) (.float .f32 (addB p b))).run Try.prog w = .ok (.float .f32 (bestW p b)) w := fun t w => run_float_arith w .quo t .f32 _ _ _ (best_quo ok.pace ok.back)
  have d1 := rd_pace ok.len p b l
  have d2 := rd_back ok.len p b l
  clear ok
  go_enter Try.func68, Try.ntmps68
  go_wp2_with (first | simp only [h1] | simp only [h2])
  go_ret
  exact ⟨rfl, b0 _ _⟩

theorem l01Most_any (g : Nat) (cs : List Nat) (p b l : Nat) (ok : OkR cs p b l) (w : World) (hr : RoadAt w g cs p b l) :
    Calls Try.prog 60 #[.pointer (some ⟨g, 0, none⟩)] w (Rd (.float .f32 (mostW p b)) w) := by
  have c16 := hr.pace ok.len
  have h1 : ∀ t w, (binOp .mul t (.float .f32 p) (.float .f32 (bestW p b))).run Try.prog w = .ok (.float .f32 (mostW p b)) w := fun t w => run_float_arith w .mul t .f32 _ _ _ (most_mul ok.pace ok.back)
  go_enter Try.func60, Try.ntmps60
  go_wp2
  go_quiet ((go_at_call 66; exact Calls.quiet_of (l01Best_any g cs p b l ok _ (hr.drewN _))))
  go_wp2
  go_ret
  exact Rd.mkN

theorem mostFlow_any (cs : List Nat) (p b l : Nat) (ok : OkR cs p b l) (w : World) :
    Calls Try.prog 62 #[.agg (rd cs p b l)] w fun e w' => e = .returned (.float .f32 (mostW p b)) ∧ Below w.heap.size w w' := by
  have A0 := At.new w (rd cs p b l) 28
  have d1 := rd_pace ok.len p b l
  have h1 : ∀ t w, (binOp .mul t (.float .f32 p) (.float .f32 (bestW p b))).run Try.prog w = .ok (.float .f32 (mostW p b)) w := fun t w => run_float_arith w .mul t .f32 _ _ _ (most_mul ok.pace ok.back)
  have hC := Cb.const (w.alloc (.cells (rd cs p b l) 28))
  go_enter Try.func62, Try.ntmps62
  go_wp2
  refine wp_region_cb (by kernel_rfl) (by kernel_rfl) ?_
  repeat (first
    | go_big_quiet_skip
    | (go_big_quiet_want; first
      | (refine q_cell 24 _ rfl _ Try.underlying24 _ rfl A0 _ (by assumption) ?_; go_simp; go_big_quiet_on)
      | (refine q_row 28 _ rfl rfl A0 19 (rd_size ok.len p b l) _ Try.underlying28 rfl (by kernel_rfl) ?_; go_simp; go_big_quiet_on)
      | (go_big_quiet_op; go_big_quiet_on)
      | (go_big_quiet_op; apply Exists.intro; refine ⟨fun w' hw' => ?_, ?_⟩; (go_at_call 68; exact (bestShare_any cs p b l ok _).mono fun _ _ h => ⟨h.1, hw'.step h.2⟩); go_big_quiet_on)))
  refine wpQuiet_nil ?_
  intro w1 hw1
  go_wp2
  go_ret
  exact ⟨rfl, bthen (b0 _ _) hw1⟩

theorem l01Less_any (x y : Nat) (hx : x ≤ 2139095040) (hy : y ≤ 2139095040) (w : World) :
    Calls Try.prog 40 #[.float .f32 x, .float .f32 y] w (Rd (.float .f32 (min x y)) w) := by
  have h := lt_amt (x := y) (y := x) hy hx
  by_cases c : y < x
  · rw [decide_eq_true c] at h
    rw [Nat.min_eq_right (Nat.le_of_lt c)]
    clear c
    go_enter Try.func40, Try.ntmps40
    go_wp2
    go_ret
    exact Rd.mk0
  · rw [decide_eq_false c] at h
    rw [Nat.min_eq_left (by omega)]
    clear c
    go_enter Try.func40, Try.ntmps40
    go_wp2
    go_ret
    exact Rd.mk0

theorem sends_mul {p a : Nat} (hp : 1015021568 ≤ p ∧ p ≤ 1065353216) (ha : a ≤ 1065353216) : floatBits .mul .f32 p a = some (mulB p a) ∧ mulB p a ≤ 1065353216 := mul_one_le hp.2 ha
theorem sendsW_le {p b a : Nat} (hp : 1015021568 ≤ p ∧ p ≤ 1065353216) (ha : a ≤ 1065353216) : sendsW p b a ≤ 1065353216 := by have := (sends_mul hp ha).2; unfold sendsW; omega
theorem takesW_le {p b a : Nat} (hp : 1015021568 ≤ p ∧ p ≤ 1065353216) (hb : 1015021568 ≤ b ∧ b ≤ 1065353216) : takesW p b a ≤ 1065353216 := by have := mostW_le hp hb; unfold takesW; omega

theorem l01Sends_any (g k : Nat) (hk : k < 16) (cs : List Nat) (p b l : Nat) (ok : OkR cs p b l) (w : World) (hr : RoadAt w g cs p b l) :
    Calls Try.prog 43 #[.pointer (some ⟨g, 0, none⟩), .int .i64 k] w (Rd (.float .f32 (sendsW p b (nth cs k))) w) := by
  have c16 := hr.pace ok.len
  have ck := hr.car ok.len hk
  have hm := sends_mul ok.pace (ok.car k)
  have hmo := mostW_le ok.pace ok.back
  have h1 : ∀ t w, (binOp .mul t (.float .f32 p) (.float .f32 (nth cs k))).run Try.prog w = .ok (.float .f32 (mulB p (nth cs k))) w := fun t w => run_float_arith w .mul t .f32 _ _ _ hm.1
  have hk' : (k : Int) < 16 := by omega
  have hle := Lib.hid hm.2
  have hmo' := Lib.hid hmo
  clear hm hmo
  go_enter Try.func43, Try.ntmps43
  go_wp2
  go_quiet ((first | (go_at_call 60; exact Calls.quiet_of (l01Most_any g cs p b l ok _ (hr.drewN _))) | (go_at_call 40; exact Calls.quiet_of (l01Less_any _ _ (Nat.le_trans hle.out (by omega)) (Nat.le_trans hmo'.out (by omega)) _))))
  go_wp2
  go_ret
  exact Rd.mkN

theorem sendsAt_any (k : Nat) (hk : k < 16) (cs : List Nat) (p b l : Nat) (ok : OkR cs p b l) (w : World) :
    Calls Try.prog 49 #[.agg (rd cs p b l), .int .i64 k] w fun e w' => e = .returned (.float .f32 (sendsW p b (nth cs k))) ∧ Below w.heap.size w w' := by
  have A0 := At.new w (rd cs p b l) 28
  have d1 := rd_pace ok.len p b l
  have d2 := rd_cell ok.len p b l hk
  have hm := sends_mul ok.pace (ok.car k)
  have hmo := mostW_le ok.pace ok.back
  have h1 : ∀ t w, (binOp .mul t (.float .f32 p) (.float .f32 (nth cs k))).run Try.prog w = .ok (.float .f32 (mulB p (nth cs k))) w := fun t w => run_float_arith w .mul t .f32 _ _ _ hm.1
  have h2 : ∀ ts t w, (Builtin.min_ ts t #[.float .f32 (mulB p (nth cs k)), .float .f32 (mostW p b)]).run Try.prog w = .ok (.float .f32 (sendsW p b (nth cs k))) w := fun ts t w => run_min_amt w ts t (by omega) (by omega)
  have hk' : (k : Int) < 16 := by omega
  have hC := Cb.const (w.alloc (.cells (rd cs p b l) 28))
  clear hm hmo
  go_enter Try.func49, Try.ntmps49
  go_wp2
  refine wp_region_cb (by kernel_rfl) (by kernel_rfl) ?_
  repeat (first
    | go_big_quiet_skip
    | (go_big_quiet_want; first
      | (refine q_cell 24 _ rfl _ Try.underlying24 _ rfl A0 _ (by assumption) ?_; go_simp; go_big_quiet_on)
      | (refine q_row 28 _ rfl rfl A0 19 (rd_size ok.len p b l) _ Try.underlying28 rfl (by kernel_rfl) ?_; go_simp; go_big_quiet_on)
      | (go_big_quiet_op; go_big_quiet_on)
      | (go_big_quiet_op; apply Exists.intro; refine ⟨fun w' hw' => ?_, ?_⟩; (go_at_call 62; exact (mostFlow_any cs p b l ok _).mono fun _ _ h => ⟨h.1, hw'.step h.2⟩); go_big_quiet_on)))
  refine wpQuiet_nil ?_
  intro w1 hw1
  go_wp2
  go_ret
  exact ⟨rfl, bthen (b0 _ _) hw1⟩
end Go.Proofs.Ytapnkkbkhifmeaa
