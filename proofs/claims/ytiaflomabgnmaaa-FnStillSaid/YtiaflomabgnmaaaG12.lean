/-
  SEVERAL TEXTS IN ONE.
-/
import Derived.Test.YtiaflomabgnmaaaStep
import Derived.Test.YtiaflomabgnmaaaG11
import Derived.Test.YtiaflomabgnmaaaG10

/-
  CONTRACTS: a step, the model's.
-/
namespace Go.Proofs.Ytiaflomabgnmaaa
open Go Go.RowKit
set_option maxRecDepth 100000

end Go.Proofs.Ytiaflomabgnmaaa

/-
  SEVERAL STEPS: the shares behind n of them, and the sums of what has flowed in and out: of numbers, no Go text. What is offered and the room may be other at each step.
-/
namespace Go.Proofs.Ytiaflomabgnmaaa
open Go Go.RowKit

/-- the flows of the step from these shares -/
def nextL (p b : Nat) (cs : List Nat) (o m : Nat) : List Nat := stepL cs (intoL (fluxL p b cs o m)) (outL (fluxL p b cs o m))

theorem nextL_len (p b : Nat) (cs : List Nat) (o m : Nat) : (nextL p b cs o m).length = 16 := stepL_len _ _ _

theorem nextL_ok {cs : List Nat} {p b l : Nat} (ok : OkR cs p b l) (o m : Nat) : OkR (nextL p b cs o m) p b l :=
  ⟨nextL_len _ _ _ _ _, stepL_le _ _ _, ok.pace, ok.back, ok.lanes⟩

/-- the shares behind k steps -/
def itL (p b : Nat) (cs : List Nat) (oo mm : Nat → Nat) : Nat → List Nat
  | 0 => cs
  | k + 1 => nextL p b (itL p b cs oo mm k) (oo k) (mm k)

theorem itL_succ (p b : Nat) (cs : List Nat) (oo mm : Nat → Nat) (k : Nat) : itL p b cs oo mm (k + 1) = nextL p b (itL p b cs oo mm k) (oo k) (mm k) := rfl

theorem itL_ok {cs : List Nat} {p b l : Nat} (ok : OkR cs p b l) (oo mm : Nat → Nat) : ∀ k, OkR (itL p b cs oo mm k) p b l
  | 0 => ok
  | k + 1 => nextL_ok (itL_ok ok oo mm k) _ _

/-- the flows of step k + 1 -/
def itF (p b : Nat) (cs : List Nat) (oo mm : Nat → Nat) (k : Nat) : List Nat := fluxL p b (itL p b cs oo mm k) (oo k) (mm k)

theorem itF_len (p b : Nat) (cs : List Nat) (oo mm : Nat → Nat) (k : Nat) : (itF p b cs oo mm k).length = 17 := fluxL_len _ _ _ _ _

theorem itF_le {cs : List Nat} {p b l : Nat} (ok : OkR cs p b l) (oo mm : Nat → Nat) (k : Nat) : ∀ x ∈ itF p b cs oo mm k, x ≤ 1065353216 := fluxL_le (itL_ok ok oo mm k) _ _

theorem itL_next (p b : Nat) (cs : List Nat) (oo mm : Nat → Nat) (k : Nat) : itL p b cs oo mm (k + 1) = stepL (itL p b cs oo mm k) (intoL (itF p b cs oo mm k)) (outL (itF p b cs oo mm k)) := rfl

/-- what has flowed through border i in k steps -/
def itS (p b : Nat) (cs : List Nat) (oo mm : Nat → Nat) (i : Nat) : Nat → Nat
  | 0 => 0
  | k + 1 => addB (itS p b cs oo mm i k) (nth (itF p b cs oo mm k) i)

theorem itS_succ (p b : Nat) (cs : List Nat) (oo mm : Nat → Nat) (i k : Nat) : itS p b cs oo mm i (k + 1) = addB (itS p b cs oo mm i k) (nth (itF p b cs oo mm k) i) := rfl

theorem itS_facts {cs : List Nat} {p b l : Nat} (ok : OkR cs p b l) (oo mm : Nat → Nat) (i : Nat) : ∀ k, itS p b cs oo mm i k ≤ 2139095040
  | 0 => by unfold itS; omega
  | k + 1 => by rw [itS_succ]; exact (add_any (itS_facts ok oo mm i k) (Nat.le_trans (nth_le (itF_le ok oo mm k) i) (by omega))).2

theorem itS_add {cs : List Nat} {p b l : Nat} (ok : OkR cs p b l) (oo mm : Nat → Nat) (i k : Nat) : floatBits .add .f32 (itS p b cs oo mm i k) (nth (itF p b cs oo mm k) i) = some (itS p b cs oo mm i (k + 1)) :=
  (add_any (itS_facts ok oo mm i k) (Nat.le_trans (nth_le (itF_le ok oo mm k) i) (by omega))).1

/-- the code of several steps -/
def stepsC (ok : Bool) (o m : Nat) (n : Int) : Int := if givenC ok o m = 0 then (if 0 ≤ n ∧ n ≤ 400 then 0 else 2) else givenC ok o m
end Go.Proofs.Ytiaflomabgnmaaa

/-
  CONTRACTS: CarsOn.
-/
namespace Go.Proofs.Ytiaflomabgnmaaa
open Go Go.RowKit

/-- the sum of the first shares, from the first one on -/
def sumW (cs : List Nat) : Nat → Nat
  | 0 => 0
  | 1 => nth cs 0
  | k + 2 => addB (sumW cs (k + 1)) (nth cs (k + 1))

theorem sumW_one (cs : List Nat) : sumW cs 1 = nth cs 0 := rfl

theorem sumW_succ (cs : List Nat) {k : Nat} (h : 1 ≤ k) : sumW cs (k + 1) = addB (sumW cs k) (nth cs k) := by
  obtain ⟨j, rfl⟩ : ∃ j, k = j + 1 := ⟨k - 1, by omega⟩
  rfl

theorem sumW_le {cs : List Nat} {p b l : Nat} (ok : OkR cs p b l) : ∀ k, sumW cs k ≤ 2139095040
  | 0 => by unfold sumW; omega
  | 1 => by rw [sumW_one]; exact Nat.le_trans (ok.car 0) (by omega)
  | k + 2 => by rw [sumW_succ cs (by omega)]; exact (add_any (sumW_le ok (k + 1)) (Nat.le_trans (ok.car _) (by omega))).2

def carsW (cs : List Nat) (l : Nat) : Nat := mulB (sumW cs 16) l

theorem cars_facts {cs : List Nat} {p b l : Nat} (ok : OkR cs p b l) : floatBits .mul .f32 (sumW cs 16) l = some (carsW cs l) ∧ carsW cs l ≤ 2139095040 := by
  have h1 := sumW_le ok 16
  have h2 := ok.lanes
  exact mul_any h1 (by omega) (by omega)

theorem sum_step {P : Program} {cs : List Nat} {p b l k : Nat} (ok : OkR cs p b l) (h : 1 ≤ k) (t : TypeId) (w : World) : (binOp .add t (.float .f32 (sumW cs k)) (.float .f32 (nth cs k))).run P w = .ok (.float .f32 (sumW cs (k + 1))) w :=
  run_float_arith w .add t .f32 _ _ _ (by rw [sumW_succ cs h]; exact (add_any (sumW_le ok k) (Nat.le_trans (ok.car _) (by omega))).1)

def vCarsOn (cs : List Nat) (p b l : Nat) : Nat × Int := if okB cs p b l then (carsW cs l, 0) else (0, 1)

theorem vCarsOn_yes {cs : List Nat} {p b l : Nat} (h : okB cs p b l = true) : vCarsOn cs p b l = (carsW cs l, 0) := by unfold vCarsOn; rw [if_pos h]

theorem vCarsOn_no {cs : List Nat} {p b l : Nat} (h : okB cs p b l = false) : vCarsOn cs p b l = (0, 1) := by unfold vCarsOn; rw [h]; rfl

theorem RoadAt.ofAt {W : World} {g : Nat} {cs : List Nat} {p b l : Nat} {T : TypeId} (h : At W g (rd cs p b l) T) : RoadAt W g cs p b l := ⟨T, _, h⟩

theorem vCarsOn_good {cs : List Nat} (hl : cs.length = 16) (p b l : Nat) : (vCarsOn cs p b l).1 < 4294967296 ∧ nanB (vCarsOn cs p b l).1 = false := by
  cases h : okB cs p b l
  · rw [vCarsOn_no h]; exact ⟨by decide, by decide⟩
  · rw [vCarsOn_yes h]
    have h2 := (cars_facts (OkR.of hl h)).2
    generalize carsW cs l = x at h2 ⊢
    have h3 := nan_le h2 (Nat.le_refl _)
    exact h3
end Go.Proofs.Ytiaflomabgnmaaa

/-
  NARROW FLOATS OF EITHER SIGN: how large sums, differences and products are; the numbers behind a delay.
  No Go text in it. Conditions: those of each theorem.
-/
namespace Go.Proofs.Ytiaflomabgnmaaa
open Go Go.RowKit
set_option maxRecDepth 100000

theorem word_mag (s : Bool) {m c : Nat} (hm : m ≤ c) (hc : c < 2139095040) : S32.word s m < 4294967296 ∧ S32.word s m % 2147483648 ≤ c := by
  have hs := s_sw
  cases s
  · rw [word_false]; exact ⟨by omega, by omega⟩
  · rw [word_true, hs]; exact ⟨by omega, by omega⟩
theorem word_of {x : Nat} (h : x < 4294967296) : ∃ s r, x = S32.word s r ∧ r = x % 2147483648 := by
  have hs := split32 h
  exact ⟨_, _, hs, rfl⟩
theorem sg_abs (s t : Bool) (a b : Nat) : (sg s a + sg t b).natAbs ≤ a + b ∧ (sg s a - sg t b).natAbs ≤ a + b := by
  cases s <;> cases t <;> simp [sg] <;> omega
theorem roundInt_mag (z : Bool) {T : Int} {c : Nat} (h : T.natAbs ≤ rv 23 c) (hc : c < 2139095040) : roundInt S32 z T < 4294967296 ∧ roundInt S32 z T % 2147483648 ≤ c := by
  unfold roundInt
  rw [s_fb]
  have h1 : RU 23 T.natAbs 0 ≤ c := RU_le (by rw [Nat.pow_zero, Nat.mul_one]; exact h)
  exact word_mag _ (Nat.le_trans (Nat.min_le_left _ _) h1) hc
theorem addM {x y cx cy c : Nat} (hx : x < 4294967296) (hy : y < 4294967296) (mx : x % 2147483648 ≤ cx) (my : y % 2147483648 ≤ cy) (bx : cx < 2139095040) (byy : cy < 2139095040) (bc : c < 2139095040) (h : rv 23 cx + rv 23 cy ≤ rv 23 c) :
    floatBits .add .f32 x y = some (addB x y) ∧ addB x y < 4294967296 ∧ addB x y % 2147483648 ≤ c := by
  obtain ⟨s, r, hxr, rfl⟩ := word_of hx
  obtain ⟨t, q, hyq, rfl⟩ := word_of hy
  have k := add_fin S32 s t (r := x % 2147483648) (q := y % 2147483648) (by rw [s_inf]; omega) (by rw [s_inf]; omega)
  rw [← hxr, ← hyq, s_fb] at k
  have e : addB x y = roundInt S32 (s && t) (sg s (rv 23 (x % 2147483648)) + sg t (rv 23 (y % 2147483648))) := by unfold addB; rw [k, Option.getD_some]
  refine ⟨by show S32.add x y = _; rw [k, e], ?_⟩
  rw [e]
  exact roundInt_mag _ (Nat.le_trans (sg_abs s t _ _).1 (Nat.le_trans (Nat.add_le_add (rv_le mx) (rv_le my)) h)) bc
theorem subM {x y cx cy c : Nat} (hx : x < 4294967296) (hy : y < 4294967296) (mx : x % 2147483648 ≤ cx) (my : y % 2147483648 ≤ cy) (bx : cx < 2139095040) (byy : cy < 2139095040) (bc : c < 2139095040) (h : rv 23 cx + rv 23 cy ≤ rv 23 c) :
    floatBits .sub .f32 x y = some (subB x y) ∧ subB x y < 4294967296 ∧ subB x y % 2147483648 ≤ c := by
  obtain ⟨s, r, hxr, rfl⟩ := word_of hx
  obtain ⟨t, q, hyq, rfl⟩ := word_of hy
  have k := sub_fin S32 s t (r := x % 2147483648) (q := y % 2147483648) (by rw [s_inf]; omega) (by rw [s_inf]; omega)
  rw [← hxr, ← hyq, s_fb] at k
  have e : subB x y = roundInt S32 (s && !t) (sg s (rv 23 (x % 2147483648)) - sg t (rv 23 (y % 2147483648))) := by unfold subB; rw [k, Option.getD_some]
  refine ⟨by show S32.sub x y = _; rw [k, e], ?_⟩
  rw [e]
  exact roundInt_mag _ (Nat.le_trans (sg_abs s t _ _).2 (Nat.le_trans (Nat.add_le_add (rv_le mx) (rv_le my)) h)) bc
theorem mulM {x y cx cy c : Nat} (hx : x < 4294967296) (hy : y < 4294967296) (mx : x % 2147483648 ≤ cx) (my : y % 2147483648 ≤ cy) (bx : cx < 2139095040) (byy : cy < 2139095040) (bc : c < 2139095040) (h : rv 23 cx * rv 23 cy ≤ rv 23 c * 2 ^ 149) :
    floatBits .mul .f32 x y = some (mulB x y) ∧ mulB x y < 4294967296 ∧ mulB x y % 2147483648 ≤ c := by
  obtain ⟨s, r, hxr, rfl⟩ := word_of hx
  obtain ⟨t, q, hyq, rfl⟩ := word_of hy
  have k := mul_fin S32 (by rw [s_L]; omega) s t (r := x % 2147483648) (q := y % 2147483648) (by rw [s_inf]; omega) (by rw [s_inf]; omega)
  rw [← hxr, ← hyq, s_fb, s_L, show (- -149 : Int).toNat = 149 from rfl] at k
  have e : mulB x y = S32.word (s ^^ t) (min (RU 23 (rv 23 (x % 2147483648) * rv 23 (y % 2147483648)) 149) S32.infRung) := by unfold mulB; rw [k, Option.getD_some]
  refine ⟨by show S32.mul x y = _; rw [k, e], ?_⟩
  rw [e]
  exact word_mag _ (Nat.le_trans (Nat.min_le_left _ _) (RU_le (Nat.le_trans (Nat.mul_le_mul (rv_le mx) (rv_le my)) h))) bc

/-- the narrow float of a whole number -/
def cI (n : Nat) : Nat := RU 23 (n * 2 ^ 149) 0
theorem cI_65 : ∀ n : Fin 18, rv 23 (cI (65 * n.val)) = 65 * n.val * rv 23 1065353216 ∧ cI (65 * n.val) < 2139095040 := by decide +kernel
theorem cI_1040 : ∀ n : Fin 402, rv 23 (cI (1040 * n.val)) = 1040 * n.val * rv 23 1065353216 ∧ cI (1040 * n.val) < 2139095040 := by decide +kernel
theorem low_mod {x c : Nat} (h : x ≤ c) (hc : c < 2139095040) : x < 4294967296 ∧ x % 2147483648 ≤ c := ⟨by omega, by omega⟩

/-- what the share of a cell is more than on a free road -/
def dAt (p : Nat) (L F : List Nat) (i : Nat) : Nat := subB (nth L i) (divB (nth F (i + 1)) p)
/-- of the cells 0 .. m together -/
def dS (p : Nat) (L F : List Nat) : Nat → Nat
  | 0 => dAt p L F 0
  | m + 1 => addB (dS p L F m) (dAt p L F (m + 1))
theorem quo_facts {p x : Nat} (hp : 1015021568 ≤ p ∧ p ≤ 1065353216) (hx : x ≤ 1065353216) : floatBits .quo .f32 x p = some (divB x p) ∧ divB x p ≤ 1115684864 := by
  refine ⟨(div_some (by omega) (by omega) (by omega)).1, div_le (by omega) (by omega) (by omega) ?_⟩
  have h1 : rv 23 x ≤ rv 23 1065353216 := rv_le hx
  have h2 : rv 23 1015021568 ≤ rv 23 p := rv_le hp.1
  have e1 : rv 23 1065353216 * 2 ^ 149 = rv 23 1115684864 * rv 23 1015021568 := by decide +kernel
  calc rv 23 x * 2 ^ 149 ≤ rv 23 1065353216 * 2 ^ 149 := Nat.mul_le_mul_right _ h1
    _ = rv 23 1115684864 * rv 23 1015021568 := e1
    _ ≤ rv 23 1115684864 * rv 23 p := Nat.mul_le_mul_left _ h2
theorem dAt_facts {p : Nat} {L F : List Nat} (hp : 1015021568 ≤ p ∧ p ≤ 1065353216) (hL : ∀ i, nth L i ≤ 1065353216) (hF : ∀ i, nth F i ≤ 1065353216) (i : Nat) :
    floatBits .quo .f32 (nth F (i + 1)) p = some (divB (nth F (i + 1)) p) ∧ floatBits .sub .f32 (nth L i) (divB (nth F (i + 1)) p) = some (dAt p L F i) ∧ dAt p L F i < 4294967296 ∧ dAt p L F i % 2147483648 ≤ cI 65 := by
  have q := quo_facts hp (hF (i + 1))
  have l := low_mod (hL i) (by omega)
  have m := low_mod q.2 (by omega)
  have e := cI_65 ⟨1, by omega⟩
  exact ⟨q.1, subM l.1 m.1 l.2 m.2 (by omega) (by omega) e.2 (by
    have e1 := e.1
    have e2 : rv 23 1065353216 + rv 23 1115684864 ≤ 65 * 1 * rv 23 1065353216 := by decide +kernel
    simp only at e1
    rw [show (65 : Nat) = 65 * 1 from rfl, e1]; exact e2)⟩
theorem dS_facts {p : Nat} {L F : List Nat} (hp : 1015021568 ≤ p ∧ p ≤ 1065353216) (hL : ∀ i, nth L i ≤ 1065353216) (hF : ∀ i, nth F i ≤ 1065353216) : ∀ m, m < 17 → dS p L F m < 4294967296 ∧ dS p L F m % 2147483648 ≤ cI (65 * (m + 1))
  | 0, _ => (dAt_facts hp hL hF 0).2.2
  | m + 1, hm => by
    have ih := dS_facts hp hL hF m (by omega)
    have d := (dAt_facts hp hL hF (m + 1)).2.2
    have e0 := cI_65 ⟨1, by omega⟩
    have e1 := cI_65 ⟨m + 1, by omega⟩
    have e2 := cI_65 ⟨m + 2, by omega⟩
    simp only at e0 e1 e2
    exact (addM ih.1 d.1 ih.2 d.2 e1.2 e0.2 e2.2 (by
      rw [e1.1, show (65 : Nat) = 65 * 1 from rfl, e0.1, e2.1, ← Nat.add_mul]; exact Nat.le_of_eq (by congr 1))).2
theorem dS_add {p : Nat} {L F : List Nat} (hp : 1015021568 ≤ p ∧ p ≤ 1065353216) (hL : ∀ i, nth L i ≤ 1065353216) (hF : ∀ i, nth F i ≤ 1065353216) {m : Nat} (hm : m < 16) : floatBits .add .f32 (dS p L F m) (dAt p L F (m + 1)) = some (dS p L F (m + 1)) := by
  have ih := dS_facts hp hL hF m (by omega)
  have d := (dAt_facts hp hL hF (m + 1)).2.2
  have e0 := cI_65 ⟨1, by omega⟩
  have e1 := cI_65 ⟨m + 1, by omega⟩
  have e2 := cI_65 ⟨m + 2, by omega⟩
  simp only at e0 e1 e2
  exact (addM ih.1 d.1 ih.2 d.2 e1.2 e0.2 e2.2 (by
    rw [e1.1, show (65 : Nat) = 65 * 1 from rfl, e0.1, e2.1, ← Nat.add_mul]; exact Nat.le_of_eq (by congr 1))).1

/-- the delays of the first k steps -/
def dAll (p b : Nat) (cs : List Nat) (oo mm : Nat → Nat) : Nat → Nat
  | 0 => 0
  | k + 1 => addB (dAll p b cs oo mm k) (dS p (itL p b cs oo mm k) (itF p b cs oo mm k) 15)
theorem nth_all_le {L : List Nat} {c : Nat} (h : ∀ x ∈ L, x ≤ c) (i : Nat) : nth L i ≤ c := by
  unfold nth
  rw [List.getD_eq_getElem?_getD]
  rcases Nat.lt_or_ge i L.length with k | k
  · rw [List.getElem?_eq_getElem k]; exact h _ (List.getElem_mem k)
  · rw [List.getElem?_eq_none k]; exact Nat.zero_le _
theorem it_facts {cs : List Nat} {p b l : Nat} (ok : OkR cs p b l) (oo mm : Nat → Nat) (k : Nat) : (∀ i, nth (itL p b cs oo mm k) i ≤ 1065353216) ∧ ∀ i, nth (itF p b cs oo mm k) i ≤ 1065353216 :=
  ⟨fun i => (itL_ok ok oo mm k).car i, fun i => nth_all_le (itF_le ok oo mm k) i⟩
theorem dAll_facts {cs : List Nat} {p b l : Nat} (ok : OkR cs p b l) (oo mm : Nat → Nat) : ∀ k, k ≤ 400 → dAll p b cs oo mm k < 4294967296 ∧ dAll p b cs oo mm k % 2147483648 ≤ cI (1040 * k)
  | 0, _ => by unfold dAll; exact ⟨by omega, by omega⟩
  | k + 1, hk => by
    have ih := dAll_facts ok oo mm k (by omega)
    have f := it_facts ok oo mm k
    have d := dS_facts ok.pace f.1 f.2 15 (by omega)
    have e0 := cI_1040 ⟨1, by omega⟩
    have e1 := cI_1040 ⟨k, by omega⟩
    have e2 := cI_1040 ⟨k + 1, by omega⟩
    simp only at e0 e1 e2
    exact (addM ih.1 d.1 ih.2 d.2 e1.2 e0.2 e2.2 (by
      rw [e1.1, show (65 * (15 + 1) : Nat) = 1040 * 1 from rfl, e0.1, e2.1, ← Nat.add_mul]; exact Nat.le_of_eq (by congr 1))).2
theorem dAll_add {cs : List Nat} {p b l : Nat} (ok : OkR cs p b l) (oo mm : Nat → Nat) {k : Nat} (hk : k < 400) : floatBits .add .f32 (dAll p b cs oo mm k) (dS p (itL p b cs oo mm k) (itF p b cs oo mm k) 15) = some (dAll p b cs oo mm (k + 1)) := by
  have ih := dAll_facts ok oo mm k (by omega)
  have f := it_facts ok oo mm k
  have d := dS_facts ok.pace f.1 f.2 15 (by omega)
  have e0 := cI_1040 ⟨1, by omega⟩
  have e1 := cI_1040 ⟨k, by omega⟩
  have e2 := cI_1040 ⟨k + 1, by omega⟩
  simp only at e0 e1 e2
  exact (addM ih.1 d.1 ih.2 d.2 e1.2 e0.2 e2.2 (by
    rw [e1.1, show (65 * (15 + 1) : Nat) = 1040 * 1 from rfl, e0.1, e2.1, ← Nat.add_mul]; exact Nat.le_of_eq (by congr 1))).1
theorem delay_facts {cs : List Nat} {p b l : Nat} (ok : OkR cs p b l) (oo mm : Nat → Nat) {k : Nat} (hk : k ≤ 400) : floatBits .mul .f32 (dAll p b cs oo mm k) l = some (mulB (dAll p b cs oo mm k) l) ∧ mulB (dAll p b cs oo mm k) l < 4294967296 ∧ finB (mulB (dAll p b cs oo mm k) l) = true ∧ nanB (mulB (dAll p b cs oo mm k) l) = false := by
  have d := dAll_facts ok oo mm k hk
  have e1 := cI_1040 ⟨k, by omega⟩
  simp only at e1
  have hl := ok.lanes
  have l1 := low_mod (c := 1132462080) (x := l) (by omega) (by omega)
  have hle : cI (1040 * k) ≤ cI (1040 * 400) := by
    unfold cI
    exact RU_mono 23 0 (Nat.mul_le_mul_right _ (Nat.mul_le_mul_left _ hk))
  have h4 : cI (1040 * 400) < 2139095040 := (cI_1040 ⟨400, by omega⟩).2
  have m := mulM (c := 1593835520) d.1 l1.1 (Nat.le_trans d.2 hle) l1.2 h4 (by omega) (by omega) (by decide +kernel)
  refine ⟨m.1, m.2.1, ?_, ?_⟩
  · unfold finB; exact decide_eq_true (by omega)
  · unfold nanB; exact decide_eq_false (by omega)
end Go.Proofs.Ytiaflomabgnmaaa
