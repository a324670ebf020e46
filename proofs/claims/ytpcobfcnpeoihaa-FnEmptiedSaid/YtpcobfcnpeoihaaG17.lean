/-
  SEVERAL TEXTS IN ONE.
-/
import Derived.Test.YtpcobfcnpeoihaaDetN
import Derived.Test.YtpcobfcnpeoihaaDelayOfS
import Derived.Test.YtpcobfcnpeoihaaG13
import Derived.Test.YtpcobfcnpeoihaaG11

/-
  FnEmptied's numbers: a delay is not below 0, nearly; on an empty road it is 0.
  No Go text in it. Conditions: those of each theorem.
-/
namespace Go.Proofs.Ytpcobfcnpeoihaa
open Go Go.RowKit
set_option maxRecDepth 100000

/-- a word's number is at least less c -/
def LowW (x c : Nat) : Prop := ∃ s m, x = S32.word s m ∧ m < 2139095040 ∧ (s = true → m ≤ c)

theorem low_mono {x c d : Nat} (h : LowW x c) (hc : c ≤ d) : LowW x d := by
  obtain ⟨s, m, e, hm, h⟩ := h
  exact ⟨s, m, e, hm, fun hs => Nat.le_trans (h hs) hc⟩

theorem low_amt {x : Nat} (h : x < 2139095040) (c : Nat) : LowW x c := ⟨false, x, by rw [word_false], h, fun h => by cases h⟩

theorem low_round {z : Bool} {T : Int} {c : Nat} (hf : RU 23 T.natAbs 0 < 2139095040) (h : -(rv 23 c : Int) ≤ T) : LowW (roundInt S32 z T) c := by
  refine ⟨if T = 0 then z else decide (T < 0), min (RU 23 T.natAbs 0) 2139095040, ?_, ?_, ?_⟩
  · unfold roundInt; rw [s_fb, s_inf]
  · omega
  · intro hs
    have hle : T.natAbs ≤ rv 23 c := by
      by_cases h0 : T = 0
      · subst h0; simp
      · rw [if_neg h0, decide_eq_true_eq] at hs; omega
    exact Nat.le_trans (Nat.min_le_left _ _) (RU_le (by rw [Nat.pow_zero, Nat.mul_one]; exact hle))

theorem sg_low {s : Bool} {m a : Nat} (h : s = true → m ≤ a) : -(rv 23 a : Int) ≤ sg s (rv 23 m) := by
  cases s
  · show _ ≤ ((rv 23 m : Nat) : Int); omega
  · show _ ≤ -((rv 23 m : Nat) : Int)
    have := rv_le (p := 23) (h rfl)
    omega

theorem add_low {x y a b c : Nat} (hx : LowW x a) (hy : LowW y b) (h : rv 23 a + rv 23 b ≤ rv 23 c) (hf : addB x y % 2147483648 < 2139095040) : LowW (addB x y) c := by
  obtain ⟨s, m, rfl, hm, h1⟩ := hx
  obtain ⟨t, n, rfl, hn, h2⟩ := hy
  have k := add_fin S32 s t (r := m) (q := n) (by rw [s_inf]; omega) (by rw [s_inf]; omega)
  rw [s_fb] at k
  have e : addB (S32.word s m) (S32.word t n) = roundInt S32 (s && t) (sg s (rv 23 m) + sg t (rv 23 n)) := by unfold addB; rw [k, Option.getD_some]
  rw [e] at hf ⊢
  have l1 := sg_low h1
  have l2 := sg_low h2
  obtain ⟨T, hT⟩ : ∃ T, T = sg s (rv 23 m) + sg t (rv 23 n) := ⟨_, rfl⟩
  rw [← hT] at hf ⊢
  refine low_round ?_ (by omega)
  unfold roundInt at hf
  rw [s_fb, s_inf] at hf
  generalize (if T = 0 then (s && t) else decide (T < 0)) = z at hf
  rcases Nat.lt_or_ge (RU 23 T.natAbs 0) 2139095040 with c | c
  · exact c
  · rw [Nat.min_eq_right c] at hf
    cases z
    · rw [word_false] at hf; omega
    · rw [word_true, s_sw] at hf; omega

/-- how far a quotient by what a number was multiplied with goes above it -/
theorem quo_back {p x F : Nat} (hp : 1015021568 ≤ p ∧ p ≤ 1065353216) (hx : x ≤ 1065353216) (hF : F ≤ mulB p x) : rv 23 (divB F p) ≤ rv 23 x + 2 ^ 128 ∧ divB F p < 2139095040 := by
  have hm1 : mulB p x ≤ p := by
    have := mul_share (x := x) (y := p) hx (by omega)
    rwa [show mulB x p = mulB p x from by
      rw [(mul_eq (x := x) (y := p) (by omega) (by omega)).2, (mul_eq (x := p) (y := x) (by omega) (by omega)).2, Nat.mul_comm]] at this
  have hq := quo_facts hp (show F ≤ 1065353216 by omega)
  obtain ⟨k, hk1, hk2, hk3⟩ : ∃ k, p ≤ k * 8388608 ∧ 1 ≤ k ∧ 2 ^ (k - 1) * 2 ^ 22 ≤ rv 23 p := by
    refine ⟨p / 8388608 + 1, by omega, by omega, ?_⟩
    have e : rv 23 p = (2 ^ 23 + p % 2 ^ 23) * 2 ^ (p / 2 ^ 23 - 1) := by
      unfold rv; rw [if_neg (by show ¬ p < 8388608; omega)]
    rw [e, show (2 : Nat) ^ 23 = 8388608 from rfl, Nat.add_sub_cancel]
    have h1 : p / 8388608 = (p / 8388608 - 1) + 1 := by omega
    generalize p / 8388608 - 1 = q at h1
    rw [h1, Nat.pow_succ]
    have : 2 ^ q * 2 * 2 ^ 22 = 8388608 * 2 ^ q := by rw [Nat.mul_assoc, Nat.mul_comm]
    rw [this]
    exact Nat.mul_le_mul_right _ (by omega)
  have em := (mul_eq (x := p) (y := x) (by omega) (by omega)).2
  have hru : RU 23 (rv 23 p * rv 23 x) 149 = mulB p x := by omega
  have hup := RU_upK k (m := rv 23 p * rv 23 x) (D := 149) (by omega) hk2
  rw [hru] at hup
  have hFr := rv_le (p := 23) hF
  have hFu : rv 23 F * 2 ^ 149 ≤ rv 23 p * (rv 23 x + 2 ^ 127) := by
    have e1 : 2 ^ (k - 1) * 2 ^ 149 = 2 ^ (k - 1) * 2 ^ 22 * 2 ^ 127 := by rw [Nat.mul_assoc, ← Nat.pow_add]
    have e2 := Nat.mul_le_mul_right (2 ^ 127) hk3
    rw [Nat.mul_add]
    rw [← e1] at e2
    exact Nat.le_trans (Nat.mul_le_mul_right (2 ^ 149) hFr) (Nat.le_trans hup (Nat.add_le_add_left e2 _))
  refine ⟨?_, by omega⟩
  have hle2 : divB F p ≤ 1073741824 := div_le (by omega) (by omega) (by omega) (by
    have e2 : rv 23 1073741824 = 2 * 2 ^ 149 := by decide +kernel
    have hx1 := rv_le (p := 23) hx
    have e1 : rv 23 1065353216 = 2 ^ 149 := by decide +kernel
    rw [e1] at hx1
    rw [e2, Nat.mul_comm (2 * 2 ^ 149)]
    refine Nat.le_trans hFu (Nat.mul_le_mul_left _ ?_)
    have : (2 : Nat) ^ 127 ≤ 2 ^ 149 := Nat.pow_le_pow_right (by omega) (by omega)
    omega)
  generalize hqq : divB F p = q at hle2
  cases q with
  | zero => rw [rv_zero]; omega
  | succ s =>
    have h1 : rv 23 s ≤ rv 23 x + 2 ^ 127 := by
      rcases Nat.lt_or_ge (rv 23 x + 2 ^ 127) (rv 23 s) with c | c
      · have := div_le (x := F) (y := p) (c := s) (by omega) (by omega) (by omega) (Nat.le_trans hFu (by rw [Nat.mul_comm (rv 23 s)]; exact Nat.mul_le_mul_left _ (Nat.le_of_lt c)))
        omega
      · exact c
    have h2 := rv_gapK 128 (s := s) (by omega) (by omega)
    have e : (2 : Nat) ^ 128 = 2 ^ 127 + 2 ^ 127 := by decide +kernel
    rw [show 128 - 1 = 127 from rfl] at h2
    omega

/-- words of k and of 16 k times the least bound -/
def cL (k : Nat) : Nat := RU 23 (k * 2 ^ 128) 0

def cM (k : Nat) : Nat := RU 23 (k * 2 ^ 132) 0

theorem cL_rv : ∀ k, k < 17 → rv 23 (cL k) = k * 2 ^ 128 := by decide +kernel

theorem cM_rv : ∀ k, k < 6 → rv 23 (cM k) = k * 2 ^ 132 := by decide +kernel

theorem cell_low {p x F : Nat} (hp : 1015021568 ≤ p ∧ p ≤ 1065353216) (hx : x ≤ 1065353216) (hF : F ≤ mulB p x) : LowW (subB x (divB F p)) (cL 1) := by
  obtain ⟨h1, h2⟩ := quo_back hp hx hF
  have k := sub_fin S32 false false (r := x) (q := divB F p) (by rw [s_inf]; omega) (by rw [s_inf]; omega)
  rw [word_false, word_false, s_fb] at k
  have e : subB x (divB F p) = roundInt S32 (false && !false) (sg false (rv 23 x) - sg false (rv 23 (divB F p))) := by unfold subB; rw [k, Option.getD_some]
  rw [e]
  have e1 := cL_rv 1 (by omega)
  refine low_round ?_ ?_
  · have a1 := rv_le (p := 23) hx
    have hq2 : rv 23 (divB F p) ≤ rv 23 1073741824 := by
      have e2 : rv 23 1073741824 = rv 23 1065353216 + 2 ^ 149 := by decide +kernel
      have : (2 : Nat) ^ 128 ≤ 2 ^ 149 := Nat.pow_le_pow_right (by omega) (by omega)
      omega
    have hle : RU 23 (sg false (rv 23 x) - sg false (rv 23 (divB F p))).natAbs 0 ≤ 1073741824 := RU_le (by
      rw [Nat.pow_zero, Nat.mul_one]
      have a2 : rv 23 1065353216 ≤ rv 23 1073741824 := rv_le (by omega)
      show (((rv 23 x : Nat) : Int) - ((rv 23 (divB F p) : Nat) : Int)).natAbs ≤ _
      omega)
    omega
  · rw [e1]
    show _ ≤ ((rv 23 x : Nat) : Int) - ((rv 23 (divB F p) : Nat) : Int)
    omega

end Go.Proofs.Ytpcobfcnpeoihaa

/-
  CONTRACTS: a road that is nearly empty, one that is nearly full.
-/
namespace Go.Proofs.Ytpcobfcnpeoihaa
open Go Go.RowKit
set_option maxRecDepth 100000

/-- nearly no cars; no cell takes nearly anything -/
def emptyW (l : Nat) (cs : List Nat) : Bool := decide (carsW cs l < 981467136)
def fullN (p b : Nat) (cs : List Nat) (m : Nat) : Bool := (List.range m).all fun k => decide (takesW p b (nth cs k) ≤ 981467136)
def fullW (p b : Nat) (cs : List Nat) : Bool := fullN p b cs 16
theorem fullN_succ (p b : Nat) (cs : List Nat) (m : Nat) : fullN p b cs (m + 1) = (fullN p b cs m && decide (takesW p b (nth cs m) ≤ 981467136)) := by
  unfold fullN; rw [List.range_succ, List.all_append]; simp
theorem fullN_no {p b : Nat} {cs : List Nat} {m k : Nat} (hk : k < m) (h : ¬ takesW p b (nth cs k) ≤ 981467136) : fullN p b cs m = false := by
  unfold fullN
  rw [List.all_eq_false]
  exact ⟨k, by simpa using hk, by simpa using h⟩
theorem takesW_amt {cs : List Nat} {p b l : Nat} (ok : OkR cs p b l) (k : Nat) : takesW p b (nth cs k) ≤ 2139095040 := by
  have tf := (takes_facts ok.back (ok.car k)).2.2
  unfold takesW
  exact Nat.le_trans (Nat.min_le_left _ _) (by omega)

theorem isEmpty_b (cs : List Nat) (p b l : Nat) (ok : OkR cs p b l) (w : World) :
    Calls Try.prog 21 #[.agg (rd cs p b l)] w fun e w' => e = .returned (.bool (emptyW l cs)) ∧ Below w.heap.size w w' := by
  have A0 := At.new w (rd cs p b l) 28
  have hc := (cars_facts ok).2
  have hlt := lt_amt (x := carsW cs l) (y := 981467136) hc (by omega)
  rw [show decide (carsW cs l < 981467136) = emptyW l cs from rfl] at hlt
  clear hc
  go_enter Try.func21, Try.ntmps21
  go_wp2_with (((with_reducible refine is_load 28 _ rfl ?_); refine wpList_load_at rfl 28 _ rfl _ rfl (rd cs p b l) _ A0 19 (rd_size ok.len p b l) _ Try.underlying28 rfl (by kernel_rfl) ?_))
  refine (carsOn_any cs p b l ok _).mono ?_
  rintro e w1 ⟨rfl, hb1⟩
  go_wp2_with fail
  go_ret
  exact ⟨rfl, bthen (b0 _ _) hb1⟩

theorem isFull_b (cs : List Nat) (p b l : Nat) (ok : OkR cs p b l) (w : World) :
    Calls Try.prog 32 #[.agg (rd cs p b l)] w fun e w' => e = .returned (.bool (fullW p b cs)) ∧ Below w.heap.size w w' := by
  have A0 := At.new w (rd cs p b l) 28
  have B0 := Lib.hid (b0 w (.cells (rd cs p b l) 28))
  go_enter Try.func32, Try.ntmps32
  go_wp2
  go_loopw [4] (fun i wr => ∃ k : Nat, k ≤ 16 ∧ i = .int .i64 (k : Int) ∧ Hid (fullN p b cs k = true) ∧ At wr w.heap.size (rd cs p b l) 28 ∧ Hid (Below w.heap.size w wr)) (fun i _ => 16 - (intOf i).toNat)
  case atStart => exact ⟨0, by omega, rfl, Lib.hid rfl, A0, B0⟩
  case round =>
    clear A0 B0
    obtain ⟨k, hk, rfl, hall, A1, B1⟩ := hrel
    by_cases hlk : k < 16
    · have s2 : IntKind.i64.wrap ((k : Int) + 1) = (k : Int) + 1 := IntWalk.i64_in _ (by omega)
      have kd : decide ((k : Int) < 16) = true := decide_eq_true (by omega)
      have hg := gt_amt (x := takesW p b (nth cs k)) (y := 981467136) (takesW_amt ok k) (by omega)
      have KT := fun w => takesAt_any k hlk cs p b l ok w
      by_cases hle : takesW p b (nth cs k) ≤ 981467136
      · rw [decide_eq_false (by omega)] at hg
        have hall2 : Hid (fullN p b cs (k + 1) = true) := Lib.hid (by rw [fullN_succ, hall.out, decide_eq_true hle]; rfl)
        clear hle
        generalize takesW p b (nth cs k) = tk at hg KT
        go_wp2_with (((with_reducible refine is_load 28 _ rfl ?_); refine wpList_load_at rfl 28 _ rfl _ rfl (rd cs p b l) _ A1 19 (rd_size ok.len p b l) _ Try.underlying28 rfl (by kernel_rfl) ?_))
        refine (KT _).mono ?_
        rintro e w2 ⟨rfl, hb2⟩
        have A2 := A1.step hb2
        have B2 := Lib.hid (bthen B1.out hb2)
        clear KT A1 B1 hb2
        go_wp2_with fail
        exact ⟨⟨k + 1, by omega, by go_num, hall2, A2, B2⟩, by simp [intOf]; omega⟩
      · rw [decide_eq_true (by omega)] at hg
        have hno : Hid (fullW p b cs = false) := Lib.hid (fullN_no hlk hle)
        clear hle
        generalize takesW p b (nth cs k) = tk at hg KT
        go_wp2_with (((with_reducible refine is_load 28 _ rfl ?_); refine wpList_load_at rfl 28 _ rfl _ rfl (rd cs p b l) _ A1 19 (rd_size ok.len p b l) _ Try.underlying28 rfl (by kernel_rfl) ?_))
        refine (KT _).mono ?_
        rintro e w2 ⟨rfl, hb2⟩
        have B2 := Lib.hid (bthen B1.out hb2)
        clear KT A1 B1 hb2
        go_wp2_with fail
        go_ret
        exact ⟨by rw [hno.out]; rfl, B2.out⟩
    · obtain rfl : k = 16 := by omega
      go_wp2
      go_ret
      exact ⟨by rw [show fullW p b cs = true from hall.out]; rfl, B1.out⟩

theorem l02Full_b (g : Nat) (cs : List Nat) (p b l : Nat) (ok : OkR cs p b l) (w : World) (hr : RoadAt w g cs p b l) :
    Calls Try.prog 34 #[.pointer (some ⟨g, 0, none⟩)] w (Rd (.bool (fullW p b cs)) w) := by
  go_enter Try.func34, Try.ntmps34
  go_wp2
  go_loopw [3] (fun i wr => ∃ k n : Nat, k ≤ 16 ∧ i = .int .i64 (k : Int) ∧ Hid (fullN p b cs k = true) ∧ wr = w.drewN n) (fun i _ => 16 - (intOf i).toNat)
  case atStart => exact ⟨0, 0, by omega, rfl, Lib.hid rfl, rfl⟩
  case round =>
    obtain ⟨k, n, hk, rfl, hall, rfl⟩ := hrel
    by_cases hlk : k < 16
    · have s2 : IntKind.i64.wrap ((k : Int) + 1) = (k : Int) + 1 := IntWalk.i64_in _ (by omega)
      have kd : decide ((k : Int) < 16) = true := decide_eq_true (by omega)
      have hg := gt_amt (x := takesW p b (nth cs k)) (y := 981467136) (takesW_amt ok k) (by omega)
      have KT := fun w hr => l01Takes_any g k hlk cs p b l ok w hr
      by_cases hle : takesW p b (nth cs k) ≤ 981467136
      · rw [decide_eq_false (by omega)] at hg
        have hall2 : Hid (fullN p b cs (k + 1) = true) := Lib.hid (by rw [fullN_succ, hall.out, decide_eq_true hle]; rfl)
        clear hle
        generalize takesW p b (nth cs k) = tk at hg KT
        go_wp2_with fail
        refine (KT _ (hr.drewN n)).mono ?_
        rintro e w2 ⟨rfl, n2, rfl⟩
        clear KT
        go_wp2_with fail
        exact ⟨⟨k + 1, _, by omega, by go_num, hall2, rfl⟩, by simp [intOf]; omega⟩
      · rw [decide_eq_true (by omega)] at hg
        have hno : Hid (fullW p b cs = false) := Lib.hid (fullN_no hlk hle)
        clear hle
        generalize takesW p b (nth cs k) = tk at hg KT
        go_wp2_with fail
        refine (KT _ (hr.drewN n)).mono ?_
        rintro e w2 ⟨rfl, n2, rfl⟩
        clear KT
        go_wp2_with fail
        go_ret
        rw [hno.out]
        exact ⟨rfl, _, rfl⟩
    · obtain rfl : k = 16 := by omega
      go_wp2
      go_ret
      rw [show fullW p b cs = true from hall.out]
      exact ⟨rfl, _, rfl⟩

end Go.Proofs.Ytpcobfcnpeoihaa
