/-
  SEVERAL TEXTS IN ONE.
-/
import Derived.Test.YtiaflomabgnmaaaG2
import Derived.Deep.Slices
import Derived.Test.YtiaflomabgnmaaaG1
import Derived.Test.YtiaflomabgnmaaaProg
import Derived.WalkSpells
import Derived.Deep.QuietTactic
import Derived.BigQuiet
import Derived.Outline
import Derived.KernelRfl

/-
  THE FRAME OF A LAW's PROOF where slices come in: the walk is told of the memory that is read; the shape of a slice of numbers.
-/
namespace Go.Proofs.Ytiaflomabgnmaaa
open Go Go.ChangeShapes Go.WideShapes Go.ChangeAt Go.RowKit Go.Deep
set_option maxRecDepth 100000

theorem law_liftedS {f : FuncId} {fn : Func} {s : ChangeSpec} {apart : Bool} {H : Type} (enc : TypeId × Value → H) (os : Os) (started : os.Started)
    (noInit : Try.checked.prog.inits.idxOf? f = none) (hfn : Try.prog.funcs[f]? = some fn)
    (witness : ∃ (w : World) (tape : Tape) (i : Input), w.os = os ∧ (w.forCall tape i).Shaped Try.checked.prog ∧ i.vars = [] ∧ Input.okWide Try.checked.prog (w.forCall tape i) .any w.heap.size f i ∧
      s.pre6 enc Try.checked.prog fn [] apart (w.forCall tape i).memory i.args ∧ ({} : Assume).holds Try.checked.prog (lone (Frame.enter Try.checked.prog f i.args .normal) [] (w.forCall tape i)))
    (hvars : s.vars = []) (hrt : fn.resultTypes = #[4]) (hts : ∀ t ∈ fn.params.toList, Try.prog.readableRec t = true ∧ t < Try.prog.types.size)
    (hspec : ∀ ds : List (DataW H), ds.length = fn.params.toList.length → s.fn H ds = { results := [.lit (.bool true)], args := ds })
    (walk : ∀ (W : World) (base : Nat) (args : Array Value) (ds : List (DataW H)) (ps : List MemPlace), args.toList.length = fn.params.toList.length → (∀ (j : Nat) t v, fn.params[j]? = some t → args[j]? = some v → Value.okWide Try.prog W .any base t v) →
      DataW.TrodAll enc Try.prog W 0 (fun _ => true) true fn.params.toList args.toList ds ps → Calls Try.prog f args W (True? W)) :
    ReturnsInHanded {} Try.checked os f .any (s.pre6 enc Try.checked.prog fn [] apart) (s.post enc Try.checked.prog fn apart true false false) := by
  refine returnsInHanded_of_change (C := Try.checked) own started noInit hfn witness ?_
  intro W base args ds gs before hval hW _ _
  have hW' := hW
  obtain ⟨p, q, hA, hV, hpq, hfz, hnd⟩ := hW
  rw [hvars] at hV
  obtain ⟨rfl, rfl⟩ := trodVars_none hV
  rw [List.append_nil] at hpq
  subst hpq
  obtain ⟨hl1, hl2⟩ := trodAll_len hA
  refine (walk W base args ds _ hl1 hval hA).mono fun e W' ⟨he, hb⟩ => ?_
  subst he
  have hlt : ∀ x ∈ before, x.block < W.heap.size := fun x hx => hW'.lt x hx
  have hs : s.fn H (ds ++ []) = { results := [.lit (.bool true)], args := ds } := by rw [List.append_nil]; exact hspec ds hl2
  refine ⟨_, rfl, ds, [], before, [], before, [], hW', ?_, ?_, ?_, hb.frame _, fun h => by cases h⟩
  · rw [hs, hrt]
    exact trodAll_mk1 (shut_bool Try.underlying4 _)
  · rw [hs]
    exact trodAll_keep laidOut hb hts hA hlt (fun x hx => by simpa using hlt x hx)
  · rw [hs, hvars]; rfl

/-- a slice of narrow floats that came in -/
structure FSl (w : World) (v : Value) (xs : List Nat) : Prop where
  val : (xs = [] ∧ ∃ a cap, v = .slice a 0 cap) ∨ ∃ g off cap, v = .slice (some ⟨g, off, none⟩) xs.length cap ∧ g < w.heap.size ∧ ∀ i, i < xs.length → w.cell? ⟨g, off + i, none⟩ = some (.float .f32 (nth xs i))
  lt : ∀ x ∈ xs, x < 4294967296
  len : xs.length ≤ maxLen
theorem FSl.step {B : Nat} {w w' : World} {v : Value} {xs : List Nat} (h : FSl w v xs) (hB : w.heap.size ≤ B) (hb : Below B w w') : FSl w' v xs := by
  refine ⟨h.val.imp id ?_, h.lt, h.len⟩
  rintro ⟨g, off, cap, rfl, hg, hc⟩
  refine ⟨g, off, cap, rfl, Nat.lt_of_lt_of_le hg hb.size, fun i hi => ?_⟩
  rw [← hc i hi]
  unfold World.cell?
  rw [hb.block g (by omega)]

theorem trod_float1 {H : Type} {enc : TypeId × Value → H} {P : Program} {w : World} {base : Nat} {sp : Nat → Bool} {hd : Bool} {t : TypeId} {n : Nat} {v : Value} {x : DataW H × List MemPlace} (ht : P.underlying t = some (.float .f32)) (h : DataW.trod enc P w base sp hd n t [v] = some x) : ∃ b, v = .float .f32 b ∧ b < 4294967296 := by
  cases n with
  | zero => simp [DataW.trod] at h
  | succ n =>
    unfold DataW.trod at h
    rw [ht] at h
    split at h <;> simp_all
    rename_i k1 k2 b1 hk
    obtain ⟨⟨-, h1⟩, -⟩ := h
    subst hk
    simpa [Lit.wf] using h1

theorem cell_block {w : World} {a : Addr} {v : Value} (h : w.cell? a = some v) : a.block < w.heap.size := by
  unfold World.cell? at h
  rcases Nat.lt_or_ge a.block w.heap.size with c | c
  · exact c
  · rw [Array.getElem?_eq_none c] at h; simp at h

theorem shape_f32s {H : Type} {enc : TypeId × Value → H} {W : World} {v : Value} {d : DataW H} {ps : List MemPlace} {t e : TypeId} (ht : Try.prog.underlying t = some (.slice e)) (he : Try.prog.underlying e = some (.float .f32)) (hc : Try.prog.cellsOf e = 1)
    (hv : ∃ a len cap, v = .slice a len cap) (h : DataW.Trod enc Try.prog W 0 (fun _ => true) true t v d ps) : ∃ xs, FSl W v xs := by
  obtain ⟨fuel, h⟩ := h
  obtain ⟨a0, l0, c0, rfl⟩ := hv
  have e1 : (Value.slice a0 l0 c0).cells.toList = [.slice a0 l0 c0] := rfl
  rw [e1] at h
  rcases open_slice1 ht hc h with ⟨h0, -⟩ | ⟨a, len, cap, m, n, V, D, Pl, h0, -, hl, hm, hmm, -, hx⟩
  · exact ⟨[], ⟨.inl ⟨rfl, none, 0, by simpa using h0⟩, by simp, by simp⟩⟩
  · have hm2 : len ≤ m := by rw [hmm]; simp; exact hl
    have hv : Value.slice a0 l0 c0 = .slice (some a) len cap := by simpa using h0
    rw [hv]
    clear h0 hv
    by_cases hz : len = 0
    · subst hz
      exact ⟨[], ⟨.inl ⟨rfl, some a, cap, rfl⟩, by simp, by simp⟩⟩
    obtain ⟨g, off, spot⟩ := a
    have h00 := (hx 0 (by omega)).1
    have hs : spot = none := by
      unfold World.cell? at h00
      rw [show (Addr.add ⟨g, off, spot⟩ 0) = ⟨g, off, spot⟩ from rfl] at h00
      cases spot with
      | none => rfl
      | some s => split at h00 <;> simp at h00
    subst hs
    have hadd : ∀ i, Addr.add ⟨g, off, none⟩ i = ⟨g, off + i, none⟩ := fun i => by
      unfold Addr.add
      by_cases h : i = 0
      · subst h; rfl
      · rw [if_neg h]
    let xs : List Nat := (List.range len).map fun i => match V i with | .float _ x => x | _ => 0
    have hxs : xs.length = len := by simp [xs]
    have key : ∀ i, i < len → V i = .float .f32 (nth xs i) ∧ nth xs i < 4294967296 := by
      intro i hi
      obtain ⟨h1, h2⟩ := hx i (by omega)
      obtain ⟨b, hb, hb2⟩ := trod_float1 he h2
      have : nth xs i = b := by
        unfold nth
        simp only [xs, List.getD_eq_getElem?_getD, List.getElem?_map, List.getElem?_range hi, Option.map_some, Option.getD_some, hb]
      rw [this]; exact ⟨hb, hb2⟩
    refine ⟨xs, ⟨.inr ⟨g, off, cap, by rw [hxs], cell_block h00, fun i hi => ?_⟩, fun x hx' => ?_, by omega⟩⟩
    · rw [hxs] at hi
      obtain ⟨h1, -⟩ := hx i (by omega)
      rw [(key i hi).1, hadd] at h1
      exact h1
    · obtain ⟨i, hi, rfl⟩ := List.mem_iff_getElem.1 hx'
      have := (key i (by omega)).2
      unfold nth at this
      rwa [List.getD_eq_getElem?_getD, List.getElem?_eq_getElem hi, Option.getD_some] at this
end Go.Proofs.Ytiaflomabgnmaaa

/-
  CONTRACTS: numbers that are the same, amounts, shares.
-/
namespace Go.Proofs.Ytiaflomabgnmaaa
open Go Go.RowKit

/-- 'returns v; the world has at most drawn' -/
def Rd (v : Value) (w : World) (e : Ending) (w' : World) : Prop := e = .returned v ∧ ∃ n, w' = w.drewN n
theorem Rd.mk0 {v : Value} {w : World} : Rd v w (.returned v) w := ⟨rfl, 0, rfl⟩
theorem Rd.mk1 {v : Value} {w : World} : Rd v w (.returned v) w.drew := ⟨rfl, 1, rfl⟩
theorem Rd.mkN {v : Value} {w : World} {n : Nat} : Rd v w (.returned v) (w.drewN n) := ⟨rfl, n, rfl⟩
theorem Grown.drewN {W w' : World} (h : Grown W w') (n : Nat) : Grown W (w'.drewN n) := h

theorem call_f64bits (b : Nat) (w : World) : (callFunc 47 #[.float .f64 b]).run Try.prog w = .ok (.value (.int .u64 b)) w := by kernel_rfl

theorem wide_nan_at {x : Nat} (h : x < 4294967296) (hn : nanB x = true) (w : World) :
    (convert 24 78 (.float .f32 x)).run Try.prog w = .ok (.float .f64 (tapeNan (.nanConv .f64 x) w)) w.drew :=
  run_wide_nan w 24 78 x (by rw [Try.underlying24]; rfl) Try.underlying78 h hn
theorem wide_at {x : Nat} (h : x < 4294967296) (hn : nanB x = false) (w : World) :
    (convert 24 78 (.float .f32 x)).run Try.prog w = .ok (.float .f64 (wideB x)) w :=
  run_wide w 24 78 x (by rw [Try.underlying24]; rfl) Try.underlying78 h hn

/-- the same number? -/
def sameB (a b : Nat) : Bool := if nanB a || nanB b then nanB a && nanB b else (a : Int) == (b : Int)

/-- the bits of a number, one pattern for each NaN -/
def nbits (a : Nat) : Nat := if nanB a then 2143289344 else a

theorem sameB_nbits (a b : Nat) : ((nbits a : Int) == (nbits b : Int)) = sameB a b := by
  unfold nbits sameB nanB
  by_cases h1 : 2139095040 < a % 2147483648 <;> by_cases h2 : 2139095040 < b % 2147483648 <;> simp [h1, h2] <;> omega

/-- is a finite word greater than 0? -/
theorem gt0_word {a : Nat} (ha : a < 4294967296) (h : finB a = true) : (FloatKind.f32.format.order a 0 == some .gt) = decide (0 < a ∧ a < 2147483648) := by
  unfold finB at h
  have h' : a % 2147483648 < 2139095040 := by simpa using h
  by_cases c : a < 2147483648
  · rw [gt_amt (x := a) (y := 0) (by omega) (by omega)]; simp [c]
  · rw [decide_eq_false (by omega)]
    obtain ⟨r, rfl⟩ : ∃ r, a = 2147483648 + r := ⟨a - 2147483648, by omega⟩
    by_cases z : r = 0
    · subst z; rw [Nat.add_zero, order_negzero (by omega)]; rfl
    · rw [order_neg (by omega) (by omega) (by omega)]; rfl

/-- 'at least 0' and 'at most the greatest', of any word -/
theorem ge0_word {a : Nat} (ha : a < 4294967296) : (FloatKind.f32.format.order a 0 == some .gt || FloatKind.f32.format.order a 0 == some .eq) = decide (a ≤ 2139095040 ∨ a = 2147483648) := by
  by_cases n : nanB a = true
  · rw [order_nanL ha n, decide_eq_false (by unfold nanB at n; simp at n; omega)]; rfl
  · have n' : a % 2147483648 ≤ 2139095040 := by unfold nanB at n; simp at n; omega
    by_cases c : a < 2147483648
    · rw [ge_amt (x := a) (y := 0) (by omega) (by omega), decide_eq_true (by omega), decide_eq_true (by omega)]
    · obtain ⟨r, rfl⟩ : ∃ r, a = 2147483648 + r := ⟨a - 2147483648, by omega⟩
      by_cases z : r = 0
      · subst z; rw [Nat.add_zero, order_negzero (by omega)]; rfl
      · rw [order_neg (by omega) (by omega) (by omega), decide_eq_false (by omega)]; rfl

theorem Signbit_any (a : Nat) (ha : a < 4294967296) (hn : nanB a = false) (w : World) :
    Calls Try.prog 44 #[.float .f64 (wideB a)] w fun e w' => e = .returned (.bool (decide (2147483648 ≤ a))) ∧ w = w' := by
  have hc := call_f64bits
  obtain ⟨h1, h2⟩ := wide_sign ha hn
  generalize wideB a = x at *
  by_cases c : 2147483648 ≤ a
  · rw [decide_eq_true c]
    have h3 : decide (wrap64 (x : Int) < 0) = true := decide_eq_true (by unfold wrap64; omega)
    clear h1 h2 c
    go_enter Try.func44, Try.ntmps44
    go_wp2
    go_ret
    exact ⟨rfl, rfl⟩
  · rw [decide_eq_false c]
    have h3 : decide (wrap64 (x : Int) < 0) = false := decide_eq_false (by unfold wrap64; omega)
    clear h1 h2 c
    go_enter Try.func44, Try.ntmps44
    go_wp2
    go_ret
    exact ⟨rfl, rfl⟩

theorem IsAmount_any (a : Nat) (ha : a < 4294967296) (w : World) :
    Calls Try.prog 37 #[.float .f32 a] w (Rd (.bool (amtB a)) w) := by
  have hg := ge0_word ha
  by_cases c : a ≤ 2139095040 ∨ a = 2147483648
  · rw [decide_eq_true c] at hg
    have hn : nanB a = false := by unfold nanB; simp; omega
    by_cases z : a = 2147483648
    · subst z
      have hm : (FloatKind.f32.format.order 2147483648 2139095039 == some .lt || FloatKind.f32.format.order 2147483648 2139095039 == some .eq) = true := by decide
      have hw := wide_at ha hn
      have hr : amtB 2147483648 = false := rfl
      rw [hr]
      clear c hr
      go_enter Try.func37, Try.ntmps37
      go_wp2_with (go_at_call 44; refine (Signbit_any _ ha hn _).mono ?_; rintro e w' ⟨rfl, rfl⟩)
      go_ret
      exact Rd.mk0
    · have hx : a ≤ 2139095040 := by omega
      have hm := le_amt (x := a) (y := 2139095039) hx (by omega)
      by_cases y : a < 2139095040
      · rw [decide_eq_true (by omega)] at hm
        have hw := wide_at ha hn
        have hr : amtB a = true := by unfold amtB; simpa using y
        rw [hr]
        have hs : decide (2147483648 ≤ a) = false := decide_eq_false (by omega)
        clear c z hx y hr
        go_enter Try.func37, Try.ntmps37
        go_wp2_with (go_at_call 44; refine (Signbit_any _ ha hn _).mono ?_; rintro e w' ⟨rfl, rfl⟩)
        go_ret
        exact Rd.mk0
      · rw [decide_eq_false (by omega)] at hm
        have hr : amtB a = false := by unfold amtB; simpa using y
        rw [hr]
        clear c z hx y hr
        go_enter Try.func37, Try.ntmps37
        go_wp2
        go_ret
        exact Rd.mk0
  · rw [decide_eq_false c] at hg
    have hr : amtB a = false := by unfold amtB; simp; omega
    rw [hr]
    clear c hr
    go_enter Try.func37, Try.ntmps37
    go_wp2
    go_ret
    exact Rd.mk0

theorem IsShare_any (a : Nat) (ha : a < 4294967296) (w : World) :
    Calls Try.prog 21 #[.float .f32 a] w (Rd (.bool (shrB a)) w) := by
  cases h : amtB a
  · have hr : shrB a = false := by unfold amtB at h; unfold shrB; simp at h ⊢; omega
    rw [hr]; clear hr
    go_enter Try.func21, Try.ntmps21
    go_wp2_with (go_at_call 37; refine (IsAmount_any a ha _).mono ?_; rintro e w' ⟨rfl, n, rfl⟩)
    go_ret
    exact Rd.mkN
  · have hm := le_amt (x := a) (y := 1065353216) (by unfold amtB at h; simp at h; omega) (by omega)
    rw [show decide (a ≤ 1065353216) = shrB a from rfl] at hm
    go_enter Try.func21, Try.ntmps21
    go_wp2_with (go_at_call 37; refine (IsAmount_any a ha _).mono ?_; rintro e w' ⟨rfl, n, rfl⟩)
    go_ret
    exact Rd.mkN

end Go.Proofs.Ytiaflomabgnmaaa
