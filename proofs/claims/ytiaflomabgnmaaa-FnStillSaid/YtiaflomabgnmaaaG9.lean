/-
  SEVERAL TEXTS IN ONE.
-/
import Derived.Test.YtiaflomabgnmaaaWatchN
import Derived.Test.YtiaflomabgnmaaaNear
import Derived.Test.YtiaflomabgnmaaaG4
import Derived.Test.YtiaflomabgnmaaaG5
import Derived.Test.YtiaflomabgnmaaaArith

/-
  HOW FAR A ROUNDING GOES, at any size; what passes a detector in some steps against the sum of what flows.
  No Go text in it. Conditions: those of each theorem.
-/
namespace Go.Proofs.Ytiaflomabgnmaaa
open Go Go.RowKit
set_option maxRecDepth 100000

theorem rv_gapK (k : Nat) {s : Nat} (h : s ≤ k * 8388608) (hk : 1 ≤ k) : rv 23 (s + 1) ≤ rv 23 s + 2 ^ (k - 1) := by
  have hp : ∀ e, e ≤ k → 2 ^ (e - 1) ≤ 2 ^ (k - 1) := fun e he => Nat.pow_le_pow_right (by decide) (by omega)
  have h23 : (2 : Nat) ^ 23 = 8388608 := by decide
  unfold rv
  rw [h23]
  by_cases c : s + 1 < 8388608
  · rw [if_pos c, if_pos (by omega)]
    have := hp 0 (by omega)
    have : (2 : Nat) ^ (0 - 1) = 1 := rfl
    omega
  · rw [if_neg c]
    by_cases d : s < 8388608
    · rw [if_pos d]
      obtain rfl : s = 8388607 := by omega
      have := hp 0 (by omega)
      have : (2 : Nat) ^ (0 - 1) = 1 := rfl
      show (8388608 + 0) * 2 ^ (1 - 1) ≤ _
      omega
    · rw [if_neg d]
      have he := hp (s / 8388608) (by omega)
      by_cases m : s % 8388608 + 1 < 8388608
      · rw [show (s + 1) % 8388608 = s % 8388608 + 1 from by omega, show (s + 1) / 8388608 = s / 8388608 from by omega]
        generalize 2 ^ (s / 8388608 - 1) = P at he ⊢
        rw [show 8388608 + (s % 8388608 + 1) = (8388608 + s % 8388608) + 1 from by omega, Nat.add_mul]
        omega
      · rw [show (s + 1) % 8388608 = 0 from by omega, show (s + 1) / 8388608 - 1 = (s / 8388608 - 1) + 1 from by omega, show s % 8388608 = 8388607 from by omega, Nat.pow_succ]
        generalize 2 ^ (s / 8388608 - 1) = P at he ⊢
        omega

theorem RU_upK (k : Nat) {m D : Nat} (h : RU 23 m D ≤ k * 8388608) (hk : 1 ≤ k) : rv 23 (RU 23 m D) * 2 ^ D ≤ m + 2 ^ (k - 1) * 2 ^ D := by
  generalize hr : RU 23 m D = r at h
  cases r with
  | zero => rw [rv_zero]; omega
  | succ s =>
    have h1 : rv 23 s * 2 ^ D < m := by
      rcases Nat.lt_or_ge (rv 23 s * 2 ^ D) m with c | c
      · exact c
      · have := RU_le c; omega
    have h2 := Nat.mul_le_mul_right (2 ^ D) (rv_gapK k (s := s) (by omega) hk)
    rw [Nat.add_mul] at h2
    omega

theorem RU_dnK (k : Nat) {m D : Nat} (h : RU 23 m D ≤ k * 8388608) (hk : 1 ≤ k) : m ≤ rv 23 (RU 23 m D) * 2 ^ D + 2 ^ (k - 1) * 2 ^ D := by
  generalize hr : RU 23 m D = r at h
  have h1 : m < rv 23 (r + 1) * 2 ^ D := by
    rcases Nat.lt_or_ge m (rv 23 (r + 1) * 2 ^ D) with c | c
    · exact c
    · have := le_RU c; omega
  have h2 := Nat.mul_le_mul_right (2 ^ D) (rv_gapK k (s := r) h hk)
  rw [Nat.add_mul] at h2
  omega

/-- sums of amounts up to 256: within 1/32768 -/
def gD : Nat := 2 ^ 134

theorem addD {x y : Nat} (hx : x < 2139095040) (hy : y < 2139095040) (h : rv 23 x + rv 23 y ≤ 256 * P2 149) : rv 23 (addB x y) ≤ rv 23 x + rv 23 y + gD ∧ rv 23 x + rv 23 y ≤ rv 23 (addB x y) + gD ∧ addB x y ≤ 1132462080 := by
  have e := (add_eq hx hy).2
  have e256 : rv 23 1132462080 = 256 * P2 149 := by decide +kernel
  have hle : RU 23 (rv 23 x + rv 23 y) 0 ≤ 1132462080 := RU_le (by rw [e256, Nat.pow_zero, Nat.mul_one]; exact h)
  rw [Nat.min_eq_left (by omega)] at e
  have k1 := RU_upK 135 (m := rv 23 x + rv 23 y) (D := 0) (by omega) (by omega)
  have k2 := RU_dnK 135 (m := rv 23 x + rv 23 y) (D := 0) (by omega) (by omega)
  rw [← e] at k1 k2 hle
  simp only [Nat.pow_zero, Nat.mul_one] at k1 k2
  exact ⟨k1, k2, hle⟩

/-- what is carried on is what is not whole, exactly -/
theorem car_rv {a : Nat} (ha : a ≤ 1098907648) : rv 23 (car a) = rv 23 a - flo a * P2 149 := by
  have h16 := flo_le ha
  obtain ⟨h1, h2⟩ := sub_eq (x := a) (y := fN (flo a)) (by omega) (flo_fN ha)
  have h3 := (car_ok ha).2
  have h4 : car a = RU 23 (rv 23 a - rv 23 (fN (flo a))) 0 := by
    have : car a = min (RU 23 (rv 23 a - rv 23 (fN (flo a))) 0) 2139095040 := h2
    omega
  rw [h4, fN_rv2 (by omega)]
  rcases Nat.lt_or_ge a 1065353216 with c | c
  · rw [flo_zero c, Nat.zero_mul, Nat.sub_zero, RU_rv0]
  · obtain ⟨T, E, he, hT, hE⟩ := rv_split c
    have hP : P2 149 = P2 (149 - E) * P2 E := by rw [P2_add]; congr 1; omega
    have hx : rv 23 a - flo a * P2 149 = (T % P2 (149 - E)) * P2 E := by
      unfold flo
      rw [he, hP, Nat.mul_div_mul_right _ _ (P2_pos E), ← Nat.mul_assoc, ← Nat.sub_mul]
      congr 1
      have := Nat.div_add_mod T (P2 (149 - E))
      rw [Nat.mul_comm] at this
      omega
    rw [hx]
    generalize hT' : T % P2 (149 - E) = T'
    have hT2 : T' < 16777216 := by rw [← hT']; exact Nat.lt_of_le_of_lt (Nat.mod_le _ _) hT
    by_cases z : T' = 0
    · subst z; rw [Nat.zero_mul, RU_zero, rv_zero]
    · have hlog : T'.log2 ≤ 23 := by
        have := (Nat.log2_lt z (k := 24)).2 (by show T' < 16777216; exact hT2)
        omega
      exact rv_RU_exact (p := 23) (N := T') (k := E) (by omega) hlog (by omega)

theorem flo_mul (a : Nat) : flo a * P2 149 ≤ rv 23 a := Nat.div_mul_le_self _ _

/-- what is carried on, and what is counted, behind k steps at which x passes -/
def yC (x : Nat) : Nat → Nat
  | 0 => 0
  | k + 1 => car (addB (yC x k) x)

def cC (x : Nat) : Nat → Nat
  | 0 => 0
  | k + 1 => min (cC x k + flo (addB (yC x k) x)) 32767

/-- a sum of k times x -/
def sC (x : Nat) : Nat → Nat
  | 0 => 0
  | k + 1 => addB (sC x k) x

theorem rv_8 : rv 23 1090519040 = 8 * P2 149 := by decide +kernel

theorem gD_u : 32768 * gD = P2 149 := by decide +kernel

theorem sC_near {x : Nat} (hx : x ≤ 1090519040) : ∀ k, k ≤ 20 → rv 23 (sC x k) ≤ k * rv 23 x + k * gD ∧ k * rv 23 x ≤ rv 23 (sC x k) + k * gD ∧ sC x k ≤ 1132462080
  | 0, _ => ⟨by show rv 23 0 ≤ _; rw [rv_zero]; omega, by omega, by show 0 ≤ _; omega⟩
  | k + 1, hk => by
    obtain ⟨h1, h2, h3⟩ := sC_near hx k (by omega)
    have hX := rv_le (p := 23) hx
    rw [rv_8] at hX
    have hg := gD_u
    have hkX : k * rv 23 x ≤ 19 * (8 * P2 149) := Nat.mul_le_mul (by omega) hX
    have hkg : k * gD ≤ 19 * gD := Nat.mul_le_mul_right _ (by omega)
    obtain ⟨a1, a2, a3⟩ := addD (x := sC x k) (y := x) (by omega) (by omega) (by omega)
    show rv 23 (addB (sC x k) x) ≤ _ ∧ _ ≤ rv 23 (addB (sC x k) x) + _ ∧ addB (sC x k) x ≤ _
    rw [Nat.add_mul, Nat.add_mul, Nat.one_mul, Nat.one_mul]
    omega

theorem pass_le {y x : Nat} (hy : y < 1065353216) (hx : x ≤ 1090519040) : rv 23 (addB y x) ≤ rv 23 y + rv 23 x + gD ∧ rv 23 y + rv 23 x ≤ rv 23 (addB y x) + gD ∧ addB y x ≤ 1098907648 := by
  have hX := rv_le (p := 23) hx
  rw [rv_8] at hX
  have hY := rv_lt (p := 23) hy
  rw [rv_11] at hY
  obtain ⟨a1, a2, a3⟩ := addD (x := y) (y := x) (by omega) (by omega) (by omega)
  refine ⟨a1, a2, ?_⟩
  have e := (add_eq (x := y) (y := x) (by omega) (by omega)).2
  have := RU_le (p := 23) (mag := rv 23 y + rv 23 x) (D := 0) (r := 1098907648) (by rw [rv_16, Nat.pow_zero, Nat.mul_one]; omega)
  omega

theorem cC_near {x : Nat} (hx : x ≤ 1090519040) : ∀ k, k ≤ 20 → cC x k * P2 149 + rv 23 (yC x k) ≤ k * rv 23 x + k * gD ∧ k * rv 23 x ≤ cC x k * P2 149 + rv 23 (yC x k) + k * gD ∧ yC x k < 1065353216 ∧ cC x k ≤ 16 * k
  | 0, _ => ⟨by show 0 * _ + rv 23 0 ≤ _; rw [rv_zero]; omega, by omega, by show 0 < _; omega, by show 0 ≤ _; omega⟩
  | k + 1, hk => by
    obtain ⟨h1, h2, h3, h4⟩ := cC_near hx k (by omega)
    obtain ⟨p1, p2, p3⟩ := pass_le h3 hx
    have hc := car_rv p3
    have hf := flo_mul (addB (yC x k) x)
    have h16 := flo_le p3
    have hcar := (car_ok p3).2
    have e : cC x (k + 1) = cC x k + flo (addB (yC x k) x) := by
      show min _ 32767 = _
      omega
    rw [e]
    show _ + rv 23 (car (addB (yC x k) x)) ≤ _ ∧ _ ≤ _ + rv 23 (car (addB (yC x k) x)) + _ ∧ car (addB (yC x k) x) < _ ∧ _
    rw [hc, Nat.add_mul, Nat.add_mul, Nat.add_mul, Nat.one_mul, Nat.one_mul]
    omega

/-- what is counted and carried on is the sum of what flows, nearly -/
theorem det_near {x : Nat} (hx : x ≤ 1090519040) {n : Nat} (hn : n ≤ 20) :
    floatBits .add .f32 (fN (cC x n)) (yC x n) = some (addB (fN (cC x n)) (yC x n)) ∧ addB (fN (cC x n)) (yC x n) < 2139095040 ∧ sC x n < 2139095040 ∧
    rv 23 (addB (fN (cC x n)) (yC x n)) ≤ rv 23 (sC x n) + 41 * gD ∧ rv 23 (sC x n) ≤ rv 23 (addB (fN (cC x n)) (yC x n)) + 41 * gD := by
  obtain ⟨s1, s2, s3⟩ := sC_near hx n hn
  obtain ⟨c1, c2, c3, c4⟩ := cC_near hx n hn
  have hX := rv_le (p := 23) hx
  rw [rv_8] at hX
  have hg := gD_u
  have hkX : n * rv 23 x ≤ 20 * (8 * P2 149) := Nat.mul_le_mul (by omega) hX
  have hkg : n * gD ≤ 20 * gD := Nat.mul_le_mul_right _ (by omega)
  have hfin := fN_fin (n := cC x n) (by omega)
  obtain ⟨a1, a2, a3⟩ := addD (x := fN (cC x n)) (y := yC x n) hfin (by omega) (by rw [fN_rv2 (by omega)]; omega)
  rw [fN_rv2 (by omega)] at a1 a2
  exact ⟨(add_eq hfin (by omega)).1, by omega, by omega, by omega, by omega⟩

end Go.Proofs.Ytiaflomabgnmaaa

/-
  CONTRACTS: the best share, the most flow, what cells send and take.
-/
namespace Go.Proofs.Ytiaflomabgnmaaa
open Go Go.RowKit

structure OkR (cs : List Nat) (p b l : Nat) : Prop where
  len : cs.length = 16
  cars : ∀ x ∈ cs, x ≤ 1065353216
  pace : 1015021568 ≤ p ∧ p ≤ 1065353216
  back : 1015021568 ≤ b ∧ b ≤ 1065353216
  lanes : 1048576000 ≤ l ∧ l ≤ 1090519040
theorem OkR.of {cs : List Nat} {p b l : Nat} (hl : cs.length = 16) (h : okB cs p b l = true) : OkR cs p b l := by
  unfold okB paceB lanesB at h
  simp only [Bool.and_eq_true, List.all_eq_true, decide_eq_true_eq] at h
  obtain ⟨⟨⟨h1, h2⟩, h3⟩, h4⟩ := h
  exact ⟨hl, fun x hx => by have := h1 x hx; unfold shrB at this; simpa using this, h2, h3, h4⟩
theorem OkR.car {cs : List Nat} {p b l : Nat} (h : OkR cs p b l) (k : Nat) : nth cs k ≤ 1065353216 := by
  unfold nth
  rw [List.getD_eq_getElem?_getD]
  cases e : cs[k]? with
  | none => simp
  | some v => exact h.cars v (List.mem_of_getElem? e)

def bestW (p b : Nat) : Nat := divB b (addB p b)
def mostW (p b : Nat) : Nat := mulB p (bestW p b)
def sendsW (p b a : Nat) : Nat := min (mulB p a) (mostW p b)
def takesW (p b a : Nat) : Nat := min (mulB b (subB 1065353216 a)) (mostW p b)

section
variable {p b : Nat} (hp : 1015021568 ≤ p ∧ p ≤ 1065353216) (hb : 1015021568 ≤ b ∧ b ≤ 1065353216)
include hp hb
theorem best_add : floatBits .add .f32 p b = some (addB p b) := (add_eq (by omega) (by omega)).1
theorem best_quo : floatBits .quo .f32 b (addB p b) = some (bestW p b) := by
  have := sum_rule hp hb
  exact (div_some (by omega) (by omega) (by omega)).1
theorem bestW_le : bestW p b ≤ 1065353216 := best_le hp hb
theorem most_mul : floatBits .mul .f32 p (bestW p b) = some (mostW p b) := by
  have := bestW_le hp hb
  exact (mul_eq (by omega) (by omega)).1
theorem mostW_le : mostW p b ≤ 1065353216 := by
  have := bestW_le hp hb
  have := mul_share hp.2 (y := bestW p b) (by omega)
  unfold mostW; omega
end

theorem bestShare_any (cs : List Nat) (p b l : Nat) (ok : OkR cs p b l) (w : World) :
    Calls Try.prog 33 #[.agg (rd cs p b l)] w fun e w' => e = .returned (.float .f32 (bestW p b)) ∧ Below w.heap.size w w' := by
  have c16 := (At.new w (rd cs p b l) 28).cell (rd_pace ok.len p b l)
  have c17 := (At.new w (rd cs p b l) 28).cell (rd_back ok.len p b l)
  have h1 : ∀ t w, (binOp .add t (.float .f32 p) (.float .f32 b)).run Try.prog w = .ok (.float .f32 (addB p b)) w := fun t w => run_float_arith w .add t .f32 _ _ _ (best_add ok.pace ok.back)
  have h2 : ∀ t w, (binOp .quo t (.float .f32 b) (.float .f32 (addB p b))).run Try.prog w = .ok (.float .f32 (bestW p b)) w := fun t w => run_float_arith w .quo t .f32 _ _ _ (best_quo ok.pace ok.back)
  have d1 := rd_pace ok.len p b l
  have d2 := rd_back ok.len p b l
  clear ok
  go_enter Try.func33, Try.ntmps33
  go_wp2_with (first | simp only [h1] | simp only [h2])
  go_ret
  exact ⟨rfl, b0 _ _⟩

theorem mostFlow_any (cs : List Nat) (p b l : Nat) (ok : OkR cs p b l) (w : World) :
    Calls Try.prog 18 #[.agg (rd cs p b l)] w fun e w' => e = .returned (.float .f32 (mostW p b)) ∧ Below w.heap.size w w' := by
  have A0 := At.new w (rd cs p b l) 28
  have d1 := rd_pace ok.len p b l
  have h1 : ∀ t w, (binOp .mul t (.float .f32 p) (.float .f32 (bestW p b))).run Try.prog w = .ok (.float .f32 (mostW p b)) w := fun t w => run_float_arith w .mul t .f32 _ _ _ (most_mul ok.pace ok.back)
  have hC := Cb.const (w.alloc (.cells (rd cs p b l) 28))
  go_enter Try.func18, Try.ntmps18
  go_wp2
  refine wp_region_cb (by kernel_rfl) (by kernel_rfl) ?_
  repeat (first
    | go_big_quiet_skip
    | (go_big_quiet_want; first
      | (refine q_cell 24 _ rfl _ Try.underlying24 _ rfl A0 _ (by assumption) ?_; go_simp; go_big_quiet_on)
      | (refine q_row 28 _ rfl rfl A0 19 (rd_size ok.len p b l) _ Try.underlying28 rfl (by kernel_rfl) ?_; go_simp; go_big_quiet_on)
      | (go_big_quiet_op; go_big_quiet_on)
      | (go_big_quiet_op; apply Exists.intro; refine ⟨fun w' hw' => ?_, ?_⟩; (go_at_call 33; exact (bestShare_any cs p b l ok _).mono fun _ _ h => ⟨h.1, hw'.step h.2⟩); go_big_quiet_on)))
  refine wpQuiet_nil ?_
  intro w1 hw1
  go_wp2
  go_ret
  exact ⟨rfl, bthen (b0 _ _) hw1⟩

theorem sends_mul {p a : Nat} (hp : 1015021568 ≤ p ∧ p ≤ 1065353216) (ha : a ≤ 1065353216) : floatBits .mul .f32 p a = some (mulB p a) ∧ mulB p a ≤ 1065353216 := mul_one_le hp.2 ha
theorem sendsW_le {p b a : Nat} (hp : 1015021568 ≤ p ∧ p ≤ 1065353216) (ha : a ≤ 1065353216) : sendsW p b a ≤ 1065353216 := by have := (sends_mul hp ha).2; unfold sendsW; omega
theorem takesW_le {p b a : Nat} (hp : 1015021568 ≤ p ∧ p ≤ 1065353216) (hb : 1015021568 ≤ b ∧ b ≤ 1065353216) : takesW p b a ≤ 1065353216 := by have := mostW_le hp hb; unfold takesW; omega

theorem sendsAt_any (k : Nat) (hk : k < 16) (cs : List Nat) (p b l : Nat) (ok : OkR cs p b l) (w : World) :
    Calls Try.prog 54 #[.agg (rd cs p b l), .int .i64 k] w fun e w' => e = .returned (.float .f32 (sendsW p b (nth cs k))) ∧ Below w.heap.size w w' := by
  have A0 := At.new w (rd cs p b l) 28
  have d1 := rd_pace ok.len p b l
  have d2 := rd_cell ok.len p b l hk
  have hm := sends_mul ok.pace (ok.car k)
  have hmo := mostW_le ok.pace ok.back
  have h1 : ∀ t w, (binOp .mul t (.float .f32 p) (.float .f32 (nth cs k))).run Try.prog w = .ok (.float .f32 (mulB p (nth cs k))) w := fun t w => run_float_arith w .mul t .f32 _ _ _ hm.1
  have h2 : ∀ ts t w, (Builtin.min_ ts t #[.float .f32 (mulB p (nth cs k)), .float .f32 (mostW p b)]).run Try.prog w = .ok (.float .f32 (sendsW p b (nth cs k))) w := fun ts t w => run_min_amt w ts t (by omega) (by omega)
  have hk' : (k : Int) < 16 := by omega
  have hC := Cb.const (w.alloc (.cells (rd cs p b l) 28))
  clear hm hmo
  go_enter Try.func54, Try.ntmps54
  go_wp2
  refine wp_region_cb (by kernel_rfl) (by kernel_rfl) ?_
  repeat (first
    | go_big_quiet_skip
    | (go_big_quiet_want; first
      | (refine q_cell 24 _ rfl _ Try.underlying24 _ rfl A0 _ (by assumption) ?_; go_simp; go_big_quiet_on)
      | (refine q_row 28 _ rfl rfl A0 19 (rd_size ok.len p b l) _ Try.underlying28 rfl (by kernel_rfl) ?_; go_simp; go_big_quiet_on)
      | (go_big_quiet_op; go_big_quiet_on)
      | (go_big_quiet_op; apply Exists.intro; refine ⟨fun w' hw' => ?_, ?_⟩; (go_at_call 18; exact (mostFlow_any cs p b l ok _).mono fun _ _ h => ⟨h.1, hw'.step h.2⟩); go_big_quiet_on)))
  refine wpQuiet_nil ?_
  intro w1 hw1
  go_wp2
  go_ret
  exact ⟨rfl, bthen (b0 _ _) hw1⟩
end Go.Proofs.Ytiaflomabgnmaaa
