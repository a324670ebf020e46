/-
  SEVERAL TEXTS IN ONE.
-/
import Derived.Test.YtkaghfoaicbngabToPlan

/-
  CONTRACTS: rows of plans.
-/
namespace Go.Proofs.Ytkaghfoaicbngab
open Go Go.ChangeShapes Go.WideShapes Go.ChangeAt Go.RowKit
set_option maxRecDepth 100000

/-- rows of plans: the slice, two numbers -/
abbrev Pv := List (Value × Int × Int)
abbrev Ps := List (Slots × Int × Int)
def pvl (p : Value × Int × Int) : List Value := [p.1, .int .i64 p.2.1, .int .i64 p.2.2]
def pvC (l : Pv) : Array Value := (l.flatMap pvl).toArray
def pS (ps : Ps) (i : Nat) : Slots := (ps.getD i ([], 0, 0)).1
def pB (ps : Ps) (i : Nat) : Int := (ps.getD i ([], 0, 0)).2.1
def pO (ps : Ps) (i : Nat) : Int := (ps.getD i ([], 0, 0)).2.2
theorem pvL_len : ∀ l : Pv, (l.flatMap pvl).length = l.length * 3
  | [] => rfl
  | p :: l => by
    rw [List.flatMap_cons, List.length_append, pvL_len l, List.length_cons]
    show 3 + l.length * 3 = _
    omega
theorem pvC_size (l : Pv) : (pvC l).size = l.length * 3 := by unfold pvC; rw [List.size_toArray, pvL_len]
theorem pvL_get : ∀ (l : Pv) {i j : Nat} (_ : i < l.length) (_ : j < 3), (l.flatMap pvl)[i * 3 + j]? = (pvl (l.getD i (.slice none 0 0, 0, 0)))[j]?
  | [], i, j, h, _ => by simp at h
  | p :: l, 0, j, _, hj => by
    rw [List.flatMap_cons, List.getElem?_append_left (by show 0 * 3 + j < 3; omega), Nat.zero_mul, Nat.zero_add]
    rfl
  | p :: l, i + 1, j, h, hj => by
    rw [List.flatMap_cons, List.getElem?_append_right (by show 3 ≤ (i + 1) * 3 + j; omega), show (i + 1) * 3 + j - (pvl p).length = i * 3 + j from by show (i + 1) * 3 + j - 3 = _; omega]
    rw [pvL_get l (by simpa using h) hj]
    rfl
theorem pvC_get {l : Pv} {i j : Nat} (hi : i < l.length) (hj : j < 3) {v : Value} {b o : Int} (h : l.getD i (.slice none 0 0, 0, 0) = (v, b, o)) : (pvC l)[i * 3 + j]? = (plC v b o)[j]? := by
  rw [← Array.getElem?_toList]
  show (l.flatMap pvl)[i * 3 + j]? = _
  rw [pvL_get l hi hj, h, ← List.getElem?_toArray]
  rfl
theorem pvL_take : ∀ (l : Pv) (i : Nat), (l.flatMap pvl).take (i * 3) = (l.take i).flatMap pvl
  | [], i => by simp
  | p :: l, 0 => by simp
  | p :: l, i + 1 => by
    rw [List.take_succ_cons, List.flatMap_cons, List.flatMap_cons, ← pvL_take l i, List.take_append, show (i + 1) * 3 - (pvl p).length = i * 3 from by show (i + 1) * 3 - 3 = _; omega, List.take_of_length_le (by show 3 ≤ (i + 1) * 3; omega)]
theorem pvL_drop : ∀ (l : Pv) (i : Nat), (l.flatMap pvl).drop (i * 3) = (l.drop i).flatMap pvl
  | [], i => by simp
  | p :: l, 0 => by simp
  | p :: l, i + 1 => by
    rw [List.drop_succ_cons, List.flatMap_cons, ← pvL_drop l i, List.drop_append, show (i + 1) * 3 - (pvl p).length = i * 3 from by show (i + 1) * 3 - 3 = _; omega, List.drop_eq_nil_of_le (by show 3 ≤ (i + 1) * 3; omega), List.nil_append]
theorem pvC_at {l : Pv} {i k : Nat} (hi : i < l.length) {v : Value} {b o : Int} (h : l.getD i (.slice none 0 0, 0, 0) = (v, b, o)) (hk : k = i * 3) : (pvC l).extract k (k + 3) = plC v b o := by
  subst hk
  have hs := pvC_size l
  apply Array.ext_getElem?
  intro j
  rw [Array.getElem?_extract]
  by_cases c : j < 3
  · rw [if_pos (by omega), pvC_get hi c h]
  · rw [if_neg (by omega), Array.getElem?_eq_none (by rw [plC_size]; omega)]
theorem pvC_set {l : Pv} {i off : Nat} (hi : i < l.length) (ho : off = i * 3) (v : Value) (b o : Int) : splice (pvC l) off (plC v b o) = pvC (l.set i (v, b, o)) := by
  subst ho
  apply Array.ext'
  unfold splice
  show (l.flatMap pvl).take (i * 3) ++ pvl (v, b, o) ++ (l.flatMap pvl).drop (i * 3 + 3) = (l.set i (v, b, o)).flatMap pvl
  rw [pvL_take, show i * 3 + 3 = (i + 1) * 3 from by omega, pvL_drop, List.set_eq_take_append_cons_drop, if_pos hi, List.flatMap_append, List.flatMap_cons, List.append_assoc]
theorem pv_one : ∀ (l : Pv), (∀ p ∈ l, p.1.oneCell' = true) → (pvC l).all (·.oneCell') = true := by
  intro l h
  unfold pvC
  rw [List.all_toArray, List.all_eq_true]
  intro u hu
  obtain ⟨p, hp, hu⟩ := List.mem_flatMap.1 hu
  simp only [pvl, List.mem_cons, List.mem_nil_iff, or_false] at hu
  rcases hu with rfl | rfl | rfl
  · exact h p hp
  · rfl
  · rfl

end Go.Proofs.Ytkaghfoaicbngab

/-
  CONTRACTS: a plan loaded whole.
-/
namespace Go.Proofs.Ytkaghfoaicbngab
open Go Go.ChangeShapes Go.WideShapes Go.ChangeAt Go.RowKit
set_option maxRecDepth 100000

theorem run_plan {w : World} {g : Nat} {s : Value} {b o : Int} {T : TypeId} (ty : TypeId) (fs : Array Field) (h : At w g (plC s b o) T) (hu : Try.prog.underlying ty = some (.struct fs)) (hi : (Try.prog.info? ty).map (·.size) = some 3) :
    (Instr.loadAt ty (.pointer (some ⟨g, 0, none⟩))).run Try.prog w = .ok (.agg (plC s b o)) w :=
  run_loadAt_part w g 0 3 ty (plC s b o) T (0, 0) _ h hu rfl hi (by rw [plC_size]; omega)

end Go.Proofs.Ytkaghfoaicbngab
