/-
  SEVERAL TEXTS IN ONE.
-/
import Derived.Test.YtiaflomabgnmaaaG13
import Derived.Test.YtiaflomabgnmaaaSeqL
import Derived.Test.YtiaflomabgnmaaaSteps
import Derived.Test.YtiaflomabgnmaaaG6
import Derived.Test.YtiaflomabgnmaaaG15
import Derived.Test.YtiaflomabgnmaaaG9

/-
  CONTRACTS: DelayOf, the program's.
-/
namespace Go.Proofs.Ytiaflomabgnmaaa
open Go Go.RowKit Go.Shelf
attribute [local go_sem] Oper.semAt_some
set_option maxRecDepth 100000

section
variable {l n i : Nat} {P : Program} {ops : Array Oper} {Q : Exit → Act → World → Prop} {K : Act → World → Prop} {o : Oper} {a : Act} {w w' : World} {v : Value}
theorem opI_value (ho : ops[i]? = some o) (hg : o.guard = none) (hd : ∀ c, o.op ≠ .defer c) (hx : (execOp a.eval o).run P w = .ok (.value v) w') (hK : K (a.put o.dst v) w') : wpOpIn (Fence.wide.inRound l) n P ops Q i K a w := by
  unfold wpOpIn
  simp only [ho, wanted_none hg, if_true]
  refine ⟨fun _ _ => trivial, ?_⟩
  rw [show (Fence.wide.inRound l).round = some l from rfl, Oper.semAt_some l _ o hd, hx]
  exact hK

theorem opI_skip (ho : ops[i]? = some o) (hg : o.guard = none) (hd : ∀ c, o.op ≠ .defer c) (hx : (execOp a.eval o).run P w = .ok .skip w') (hK : K (a.put o.dst undef) w') : wpOpIn (Fence.wide.inRound l) n P ops Q i K a w := by
  unfold wpOpIn
  simp only [ho, wanted_none hg, if_true]
  refine ⟨fun _ _ => trivial, ?_⟩
  rw [show (Fence.wide.inRound l).round = some l from rfl, Oper.semAt_some l _ o hd, hx]
  exact hK

theorem opI_call {f : FuncId} {args : Array Value} (ho : ops[i]? = some o) (hg : o.guard = none) (hd : ∀ c, o.op ≠ .defer c) (hx : (execOp a.eval o).run P w = .ok (.enter f args) w) (hc : Calls P f args w fun e w' => ∃ v, e = .returned v ∧ K (a.put o.dst v) w') : wpOpIn (Fence.wide.inRound l) n P ops Q i K a w := by
  unfold wpOpIn
  simp only [ho, wanted_none hg, if_true]
  refine ⟨fun _ _ => trivial, ?_⟩
  rw [show (Fence.wide.inRound l).round = some l from rfl, Oper.semAt_some l _ o hd, hx]
  refine ⟨fun h => (by cases h), CallsIn.inRound l (callsIn_wide.2 (hc.mono ?_))⟩
  rintro e w2 ⟨v, rfl, hK⟩
  exact hK
end

end Go.Proofs.Ytiaflomabgnmaaa

/-
  CONTRACTS: DelayOf, at all arguments; the model's.
-/
namespace Go.Proofs.Ytiaflomabgnmaaa
open Go Go.RowKit Go.Shelf
set_option maxRecDepth 100000

theorem stepsC_zero' {ok : Bool} {o m : Nat} {n : Int} (h : stepsC ok o m n = 0) : givenC ok o m = 0 ∧ 0 ≤ n ∧ n ≤ 400 := by
  unfold stepsC at h
  by_cases g : givenC ok o m = 0
  · rw [if_pos g] at h
    by_cases c : 0 ≤ n ∧ n ≤ 400
    · exact ⟨g, c⟩
    · rw [if_neg c] at h; cases h
  · rw [if_neg g] at h; exact absurd h g

def vDelayOf (cs : List Nat) (p b l o m : Nat) (n : Int) : Nat × Int := if stepsC (okB cs p b l) o m n = 0 then (mulB (dAll p b cs (fun _ => o) (fun _ => m) n.toNat) l, 0) else (0, stepsC (okB cs p b l) o m n)

theorem vDelayOf_good {cs : List Nat} (hl : cs.length = 16) (p b l o m : Nat) (n : Int) : (vDelayOf cs p b l o m n).1 < 4294967296 ∧ nanB (vDelayOf cs p b l o m n).1 = false := by
  unfold vDelayOf
  by_cases h : stepsC (okB cs p b l) o m n = 0
  · rw [if_pos h]
    have z := stepsC_zero' h
    have d := delay_facts (OkR.of hl (given_zero z.1).1) (fun _ => o) (fun _ => m) (k := n.toNat) (by omega)
    exact ⟨d.2.1, d.2.2.2⟩
  · rw [if_neg h]; exact ⟨show 0 < 4294967296 by decide, show nanB 0 = false by decide⟩

end Go.Proofs.Ytiaflomabgnmaaa

/-
  FnEmptied's numbers: a delay is not below 0, nearly; on an empty road it is 0.
  No Go text in it. Conditions: those of each theorem.
-/
namespace Go.Proofs.Ytiaflomabgnmaaa
open Go Go.RowKit
set_option maxRecDepth 100000

/-- a word's number is at least less c -/
def LowW (x c : Nat) : Prop := ∃ s m, x = S32.word s m ∧ m < 2139095040 ∧ (s = true → m ≤ c)

theorem low_mono {x c d : Nat} (h : LowW x c) (hc : c ≤ d) : LowW x d := by
  obtain ⟨s, m, e, hm, h⟩ := h
  exact ⟨s, m, e, hm, fun hs => Nat.le_trans (h hs) hc⟩

theorem low_amt {x : Nat} (h : x < 2139095040) (c : Nat) : LowW x c := ⟨false, x, by rw [word_false], h, fun h => by cases h⟩

theorem low_round {z : Bool} {T : Int} {c : Nat} (hf : RU 23 T.natAbs 0 < 2139095040) (h : -(rv 23 c : Int) ≤ T) : LowW (roundInt S32 z T) c := by
  refine ⟨if T = 0 then z else decide (T < 0), min (RU 23 T.natAbs 0) 2139095040, ?_, ?_, ?_⟩
  · unfold roundInt; rw [s_fb, s_inf]
  · omega
  · intro hs
    have hle : T.natAbs ≤ rv 23 c := by
      by_cases h0 : T = 0
      · subst h0; simp
      · rw [if_neg h0, decide_eq_true_eq] at hs; omega
    exact Nat.le_trans (Nat.min_le_left _ _) (RU_le (by rw [Nat.pow_zero, Nat.mul_one]; exact hle))

theorem sg_low {s : Bool} {m a : Nat} (h : s = true → m ≤ a) : -(rv 23 a : Int) ≤ sg s (rv 23 m) := by
  cases s
  · show _ ≤ ((rv 23 m : Nat) : Int); omega
  · show _ ≤ -((rv 23 m : Nat) : Int)
    have := rv_le (p := 23) (h rfl)
    omega

theorem add_low {x y a b c : Nat} (hx : LowW x a) (hy : LowW y b) (h : rv 23 a + rv 23 b ≤ rv 23 c) (hf : addB x y % 2147483648 < 2139095040) : LowW (addB x y) c := by
  obtain ⟨s, m, rfl, hm, h1⟩ := hx
  obtain ⟨t, n, rfl, hn, h2⟩ := hy
  have k := add_fin S32 s t (r := m) (q := n) (by rw [s_inf]; omega) (by rw [s_inf]; omega)
  rw [s_fb] at k
  have e : addB (S32.word s m) (S32.word t n) = roundInt S32 (s && t) (sg s (rv 23 m) + sg t (rv 23 n)) := by unfold addB; rw [k, Option.getD_some]
  rw [e] at hf ⊢
  have l1 := sg_low h1
  have l2 := sg_low h2
  obtain ⟨T, hT⟩ : ∃ T, T = sg s (rv 23 m) + sg t (rv 23 n) := ⟨_, rfl⟩
  rw [← hT] at hf ⊢
  refine low_round ?_ (by omega)
  unfold roundInt at hf
  rw [s_fb, s_inf] at hf
  generalize (if T = 0 then (s && t) else decide (T < 0)) = z at hf
  rcases Nat.lt_or_ge (RU 23 T.natAbs 0) 2139095040 with c | c
  · exact c
  · rw [Nat.min_eq_right c] at hf
    cases z
    · rw [word_false] at hf; omega
    · rw [word_true, s_sw] at hf; omega

/-- how far a quotient by what a number was multiplied with goes above it -/
theorem quo_back {p x F : Nat} (hp : 1015021568 ≤ p ∧ p ≤ 1065353216) (hx : x ≤ 1065353216) (hF : F ≤ mulB p x) : rv 23 (divB F p) ≤ rv 23 x + 2 ^ 128 ∧ divB F p < 2139095040 := by
  have hm1 : mulB p x ≤ p := by
    have := mul_share (x := x) (y := p) hx (by omega)
    rwa [show mulB x p = mulB p x from by
      rw [(mul_eq (x := x) (y := p) (by omega) (by omega)).2, (mul_eq (x := p) (y := x) (by omega) (by omega)).2, Nat.mul_comm]] at this
  have hq := quo_facts hp (show F ≤ 1065353216 by omega)
  obtain ⟨k, hk1, hk2, hk3⟩ : ∃ k, p ≤ k * 8388608 ∧ 1 ≤ k ∧ 2 ^ (k - 1) * 2 ^ 22 ≤ rv 23 p := by
    refine ⟨p / 8388608 + 1, by omega, by omega, ?_⟩
    have e : rv 23 p = (2 ^ 23 + p % 2 ^ 23) * 2 ^ (p / 2 ^ 23 - 1) := by
      unfold rv; rw [if_neg (by show ¬ p < 8388608; omega)]
    rw [e, show (2 : Nat) ^ 23 = 8388608 from rfl, Nat.add_sub_cancel]
    have h1 : p / 8388608 = (p / 8388608 - 1) + 1 := by omega
    generalize p / 8388608 - 1 = q at h1
    rw [h1, Nat.pow_succ]
    have : 2 ^ q * 2 * 2 ^ 22 = 8388608 * 2 ^ q := by rw [Nat.mul_assoc, Nat.mul_comm]
    rw [this]
    exact Nat.mul_le_mul_right _ (by omega)
  have em := (mul_eq (x := p) (y := x) (by omega) (by omega)).2
  have hru : RU 23 (rv 23 p * rv 23 x) 149 = mulB p x := by omega
  have hup := RU_upK k (m := rv 23 p * rv 23 x) (D := 149) (by omega) hk2
  rw [hru] at hup
  have hFr := rv_le (p := 23) hF
  have hFu : rv 23 F * 2 ^ 149 ≤ rv 23 p * (rv 23 x + 2 ^ 127) := by
    have e1 : 2 ^ (k - 1) * 2 ^ 149 = 2 ^ (k - 1) * 2 ^ 22 * 2 ^ 127 := by rw [Nat.mul_assoc, ← Nat.pow_add]
    have e2 := Nat.mul_le_mul_right (2 ^ 127) hk3
    rw [Nat.mul_add]
    rw [← e1] at e2
    exact Nat.le_trans (Nat.mul_le_mul_right (2 ^ 149) hFr) (Nat.le_trans hup (Nat.add_le_add_left e2 _))
  refine ⟨?_, by omega⟩
  have hle2 : divB F p ≤ 1073741824 := div_le (by omega) (by omega) (by omega) (by
    have e2 : rv 23 1073741824 = 2 * 2 ^ 149 := by decide +kernel
    have hx1 := rv_le (p := 23) hx
    have e1 : rv 23 1065353216 = 2 ^ 149 := by decide +kernel
    rw [e1] at hx1
    rw [e2, Nat.mul_comm (2 * 2 ^ 149)]
    refine Nat.le_trans hFu (Nat.mul_le_mul_left _ ?_)
    have : (2 : Nat) ^ 127 ≤ 2 ^ 149 := Nat.pow_le_pow_right (by omega) (by omega)
    omega)
  generalize hqq : divB F p = q at hle2
  cases q with
  | zero => rw [rv_zero]; omega
  | succ s =>
    have h1 : rv 23 s ≤ rv 23 x + 2 ^ 127 := by
      rcases Nat.lt_or_ge (rv 23 x + 2 ^ 127) (rv 23 s) with c | c
      · have := div_le (x := F) (y := p) (c := s) (by omega) (by omega) (by omega) (Nat.le_trans hFu (by rw [Nat.mul_comm (rv 23 s)]; exact Nat.mul_le_mul_left _ (Nat.le_of_lt c)))
        omega
      · exact c
    have h2 := rv_gapK 128 (s := s) (by omega) (by omega)
    have e : (2 : Nat) ^ 128 = 2 ^ 127 + 2 ^ 127 := by decide +kernel
    rw [show 128 - 1 = 127 from rfl] at h2
    omega

/-- words of k and of 16 k times the least bound -/
def cL (k : Nat) : Nat := RU 23 (k * 2 ^ 128) 0

def cM (k : Nat) : Nat := RU 23 (k * 2 ^ 132) 0

theorem cL_rv : ∀ k, k < 17 → rv 23 (cL k) = k * 2 ^ 128 := by decide +kernel

theorem cM_rv : ∀ k, k < 6 → rv 23 (cM k) = k * 2 ^ 132 := by decide +kernel

theorem cell_low {p x F : Nat} (hp : 1015021568 ≤ p ∧ p ≤ 1065353216) (hx : x ≤ 1065353216) (hF : F ≤ mulB p x) : LowW (subB x (divB F p)) (cL 1) := by
  obtain ⟨h1, h2⟩ := quo_back hp hx hF
  have k := sub_fin S32 false false (r := x) (q := divB F p) (by rw [s_inf]; omega) (by rw [s_inf]; omega)
  rw [word_false, word_false, s_fb] at k
  have e : subB x (divB F p) = roundInt S32 (false && !false) (sg false (rv 23 x) - sg false (rv 23 (divB F p))) := by unfold subB; rw [k, Option.getD_some]
  rw [e]
  have e1 := cL_rv 1 (by omega)
  refine low_round ?_ ?_
  · have a1 := rv_le (p := 23) hx
    have hq2 : rv 23 (divB F p) ≤ rv 23 1073741824 := by
      have e2 : rv 23 1073741824 = rv 23 1065353216 + 2 ^ 149 := by decide +kernel
      have : (2 : Nat) ^ 128 ≤ 2 ^ 149 := Nat.pow_le_pow_right (by omega) (by omega)
      omega
    have hle : RU 23 (sg false (rv 23 x) - sg false (rv 23 (divB F p))).natAbs 0 ≤ 1073741824 := RU_le (by
      rw [Nat.pow_zero, Nat.mul_one]
      have a2 : rv 23 1065353216 ≤ rv 23 1073741824 := rv_le (by omega)
      show (((rv 23 x : Nat) : Int) - ((rv 23 (divB F p) : Nat) : Int)).natAbs ≤ _
      omega)
    omega
  · rw [e1]
    show _ ≤ ((rv 23 x : Nat) : Int) - ((rv 23 (divB F p) : Nat) : Int)
    omega

end Go.Proofs.Ytiaflomabgnmaaa
