/-
  SEVERAL TEXTS IN ONE.
-/
import Derived.Test.YtboahhipobcabaaGreatToPlan

/-
  CONTRACTS: rows of plans.
-/
namespace Go.Proofs.YtboahhipobcabaaGreat
open Go Go.ChangeShapes Go.WideShapes Go.ChangeAt Go.RowKit
set_option maxRecDepth 100000

/-- rows of plans: the slice, two numbers -/
abbrev Pv := List (Value × Int × Int)
abbrev Ps := List (Slots × Int × Int)
def pvl (p : Value × Int × Int) : List Value := [p.1, .int .i64 p.2.1, .int .i64 p.2.2]
def pvC (l : Pv) : Array Value := (l.flatMap pvl).toArray
def pS (ps : Ps) (i : Nat) : Slots := (ps.getD i ([], 0, 0)).1
def pB (ps : Ps) (i : Nat) : Int := (ps.getD i ([], 0, 0)).2.1
def pO (ps : Ps) (i : Nat) : Int := (ps.getD i ([], 0, 0)).2.2
theorem pvL_len : ∀ l : Pv, (l.flatMap pvl).length = l.length * 3
  | [] => rfl
  | p :: l => by
    rw [List.flatMap_cons, List.length_append, pvL_len l, List.length_cons]
    show 3 + l.length * 3 = _
    omega
theorem pvC_size (l : Pv) : (pvC l).size = l.length * 3 := by unfold pvC; rw [List.size_toArray, pvL_len]
theorem pvL_get : ∀ (l : Pv) {i j : Nat} (_ : i < l.length) (_ : j < 3), (l.flatMap pvl)[i * 3 + j]? = (pvl (l.getD i (.slice none 0 0, 0, 0)))[j]?
  | [], i, j, h, _ => by simp at h
  | p :: l, 0, j, _, hj => by
    rw [List.flatMap_cons, List.getElem?_append_left (by show 0 * 3 + j < 3; omega), Nat.zero_mul, Nat.zero_add]
    rfl
  | p :: l, i + 1, j, h, hj => by
    rw [List.flatMap_cons, List.getElem?_append_right (by show 3 ≤ (i + 1) * 3 + j; omega), show (i + 1) * 3 + j - (pvl p).length = i * 3 + j from by show (i + 1) * 3 + j - 3 = _; omega]
    rw [pvL_get l (by simpa using h) hj]
    rfl
theorem pvC_get {l : Pv} {i j : Nat} (hi : i < l.length) (hj : j < 3) {v : Value} {b o : Int} (h : l.getD i (.slice none 0 0, 0, 0) = (v, b, o)) : (pvC l)[i * 3 + j]? = (plC v b o)[j]? := by
  rw [← Array.getElem?_toList]
  show (l.flatMap pvl)[i * 3 + j]? = _
  rw [pvL_get l hi hj, h, ← List.getElem?_toArray]
  rfl
theorem pvL_take : ∀ (l : Pv) (i : Nat), (l.flatMap pvl).take (i * 3) = (l.take i).flatMap pvl
  | [], i => by simp
  | p :: l, 0 => by simp
  | p :: l, i + 1 => by
    rw [List.take_succ_cons, List.flatMap_cons, List.flatMap_cons, ← pvL_take l i, List.take_append, show (i + 1) * 3 - (pvl p).length = i * 3 from by show (i + 1) * 3 - 3 = _; omega, List.take_of_length_le (by show 3 ≤ (i + 1) * 3; omega)]
theorem pvL_drop : ∀ (l : Pv) (i : Nat), (l.flatMap pvl).drop (i * 3) = (l.drop i).flatMap pvl
  | [], i => by simp
  | p :: l, 0 => by simp
  | p :: l, i + 1 => by
    rw [List.drop_succ_cons, List.flatMap_cons, ← pvL_drop l i, List.drop_append, show (i + 1) * 3 - (pvl p).length = i * 3 from by show (i + 1) * 3 - 3 = _; omega, List.drop_eq_nil_of_le (by show 3 ≤ (i + 1) * 3; omega), List.nil_append]
theorem pvC_at {l : Pv} {i k : Nat} (hi : i < l.length) {v : Value} {b o : Int} (h : l.getD i (.slice none 0 0, 0, 0) = (v, b, o)) (hk : k = i * 3) : (pvC l).extract k (k + 3) = plC v b o := by
  subst hk
  have hs := pvC_size l
  apply Array.ext_getElem?
  intro j
  rw [Array.getElem?_extract]
  by_cases c : j < 3
  · rw [if_pos (by omega), pvC_get hi c h]
  · rw [if_neg (by omega), Array.getElem?_eq_none (by rw [plC_size]; omega)]
theorem pvC_set {l : Pv} {i off : Nat} (hi : i < l.length) (ho : off = i * 3) (v : Value) (b o : Int) : splice (pvC l) off (plC v b o) = pvC (l.set i (v, b, o)) := by
  subst ho
  apply Array.ext'
  unfold splice
  show (l.flatMap pvl).take (i * 3) ++ pvl (v, b, o) ++ (l.flatMap pvl).drop (i * 3 + 3) = (l.set i (v, b, o)).flatMap pvl
  rw [pvL_take, show i * 3 + 3 = (i + 1) * 3 from by omega, pvL_drop, List.set_eq_take_append_cons_drop, if_pos hi, List.flatMap_append, List.flatMap_cons, List.append_assoc]
theorem pv_one : ∀ (l : Pv), (∀ p ∈ l, p.1.oneCell' = true) → (pvC l).all (·.oneCell') = true := by
  intro l h
  unfold pvC
  rw [List.all_toArray, List.all_eq_true]
  intro u hu
  obtain ⟨p, hp, hu⟩ := List.mem_flatMap.1 hu
  simp only [pvl, List.mem_cons, List.mem_nil_iff, or_false] at hu
  rcases hu with rfl | rfl | rfl
  · exact h p hp
  · rfl
  · rfl

end Go.Proofs.YtboahhipobcabaaGreat

/-
  CONTRACTS: a plan loaded whole.
-/
namespace Go.Proofs.YtboahhipobcabaaGreat
open Go Go.ChangeShapes Go.WideShapes Go.ChangeAt Go.RowKit
set_option maxRecDepth 100000

theorem run_plan {w : World} {g : Nat} {s : Value} {b o : Int} {T : TypeId} (ty : TypeId) (fs : Array Field) (h : At w g (plC s b o) T) (hu : Tryz.prog.underlying ty = some (.struct fs)) (hi : (Tryz.prog.info? ty).map (·.size) = some 3) :
    (Instr.loadAt ty (.pointer (some ⟨g, 0, none⟩))).run Tryz.prog w = .ok (.agg (plC s b o)) w :=
  run_loadAt_part w g 0 3 ty (plC s b o) T (0, 0) _ h hu rfl hi (by rw [plC_size]; omega)

end Go.Proofs.YtboahhipobcabaaGreat

/-
  CONTRACTS: slices of plans wherever they lie; their sizes.
-/
namespace Go.Proofs.YtboahhipobcabaaGreat
open Go Go.ChangeShapes Go.WideShapes Go.ChangeAt Go.RowKit
set_option maxRecDepth 100000

/-- the numbers of all slots fit their words -/
def PsW (ps : Ps) : Prop := ∀ p ∈ ps, SlW p.1
/-- how many values a slice of plans has -/
def psN (ps : Ps) : Nat → Nat
  | 0 => 0
  | k + 1 => psN ps k + (pS ps k).length
/-- what is left -/
def szV (left t : Int) : Int := if left < t then -1 else left - t
theorem szV_lt {left t : Int} (h : left < t) : szV left t = -1 := if_pos h
theorem szV_ge {left t : Int} (h : ¬ left < t) : szV left t = left - t := if_neg h
/-- a slice of plans, wherever it lies -/
structure PSl (w : World) (v : Value) (ps : Ps) : Prop where
  val : (ps = [] ∧ ∃ a cap, v = .slice a 0 cap) ∨ ∃ g off cap, v = .slice (some ⟨g, off, none⟩) ps.length cap ∧ g < w.heap.size ∧ ∀ i, i < ps.length → ∃ a c, SSl w (.slice a (pS ps i).length c) (pS ps i) ∧ ∀ j, j < 3 → w.cell? ⟨g, off + i * 3 + j, none⟩ = (plC (.slice a (pS ps i).length c) (pB ps i) (pO ps i))[j]?
  len : ps.length ≤ maxLen
theorem PSl.step {B : Nat} {w w' : World} {v : Value} {ps : Ps} (h : PSl w v ps) (hB : w.heap.size ≤ B) (hb : Below B w w') : PSl w' v ps := by
  refine ⟨h.val.imp id ?_, h.len⟩
  rintro ⟨g, off, cap, rfl, hg, hc⟩
  refine ⟨g, off, cap, rfl, Nat.lt_of_lt_of_le hg hb.size, fun i hi => ?_⟩
  obtain ⟨a, c, hs, hj⟩ := hc i hi
  refine ⟨a, c, hs.step hB hb, fun j hj' => ?_⟩
  rw [← hj j hj']
  unfold World.cell?
  rw [hb.block g (by omega)]
theorem PSl.any {w : World} {v : Value} {ps : Ps} (h : PSl w v ps) : ∃ a cap, v = .slice a ps.length cap := by
  rcases h.val with ⟨rfl, a, cap, rfl⟩ | ⟨g, off, cap, rfl, -⟩
  · exact ⟨a, cap, rfl⟩
  · exact ⟨_, cap, rfl⟩
/-- a slice that is not empty: its elements are loaded -/
theorem PSl.get {w : World} {v : Value} {ps : Ps} (h : PSl w v ps) (hz : ps.length ≠ 0) (ty : TypeId) (fs : Array Field) (hu : Tryz.prog.underlying ty = some (.struct fs)) (hi : (Tryz.prog.info? ty).map (·.size) = some 3) : ∃ g off cap, v = .slice (some ⟨g, off, none⟩) ps.length cap ∧
    ∀ k, k < ps.length → ∃ ak ck, SSl w (.slice ak (pS ps k).length ck) (pS ps k) ∧ ∀ w', Below w.heap.size w w' → (Instr.loadAt ty (.pointer (some ⟨g, off + k * 3, none⟩))).run Tryz.prog w' = .ok (.agg (plC (.slice ak (pS ps k).length ck) (pB ps k) (pO ps k))) w' := by
  rcases h.val with ⟨rfl, -⟩ | ⟨g, off, cap, rfl, hg, hc⟩
  · exact absurd rfl hz
  · refine ⟨g, off, cap, rfl, fun k hk => ?_⟩
    obtain ⟨a, c, hs, hj⟩ := hc k hk
    refine ⟨a, c, hs, fun w' hb => run_loadAt_cells (P := Tryz.prog) w' g (off + k * 3) 3 ty (plC (.slice a (pS ps k).length c) (pB ps k) (pO ps k)) _ (plC_size _ _ _) hu rfl hi (fun j hj' => ?_)⟩
    rw [← hj j hj']
    unfold World.cell?
    rw [hb.block g hg]

set_option maxHeartbeats 1000000 in
theorem szPlanS_any (v : Value) (ps : Ps) (left : Int) (hl : 0 ≤ left ∧ left ≤ 1048576) (w : World) (hF : PSl w v ps) :
    Calls Tryz.prog 24 #[v, .int .i64 left] w fun e w' => e = .returned (.int .i64 (szV left ((ps.length : Int) + (psN ps ps.length : Int)))) ∧ Below w.heap.size w w' := by
  have hm : ps.length ≤ 9223372036854775807 := Nat.le_trans hF.len (by decide)
  have s1 : IntKind.i64.wrap (left - (ps.length : Int)) = left - (ps.length : Int) := IntWalk.i64_in _ (by omega)
  by_cases hb : left < (ps.length : Int)
  · obtain ⟨a, cap, rfl⟩ := hF.any
    rw [szV_lt (by omega)]
    have h1 : left - (ps.length : Int) < 0 := by omega
    clear hF
    go_enter Tryz.func24, Tryz.ntmps24
    go_wp2
    go_ret
    exact ⟨rfl, Below.refl _ _⟩
  · have h1 : ¬ left - (ps.length : Int) < 0 := by omega
    by_cases z : ps.length = 0
    · obtain rfl := List.length_eq_zero_iff.1 z
      obtain ⟨a, cap, rfl⟩ := hF.any
      rw [szV_ge (show ¬ left < (([] : Ps).length : Int) + (psN [] ([] : Ps).length : Int) from by show ¬ left < 0 + 0; omega), show left - ((([] : Ps).length : Int) + (psN [] ([] : Ps).length : Int)) = left from by show left - (0 + 0) = left; omega]
      have h0 : ¬ left < 0 := by omega
      have s0 : IntKind.i64.wrap left = left := IntWalk.i64_in _ (by omega)
      clear hF s1 h1 hb hm z
      go_enter Tryz.func24, Tryz.ntmps24
      go_wp2
      go_loopw [1, 5] (fun s i wr => s = .int .i64 left ∧ i = .int .i64 0 ∧ wr = w) (fun _ _ _ => 0)
      case atStart => exact ⟨by simp, rfl, rfl⟩
      case round =>
        obtain ⟨rfl, rfl, rfl⟩ := hrel
        go_wp2
        go_ret
        exact ⟨rfl, Below.refl _ _⟩
    · obtain ⟨g, off, cap, rfl, HG⟩ := hF.get z 122 _ Tryz.underlying122 (by kernel_rfl)
      have HL := Lib.hid HG
      clear HG hF
      obtain ⟨n, hnn⟩ : ∃ n, n = ps.length := ⟨_, rfl⟩
      rw [← hnn] at hb h1 s1 hm z ⊢
      have HN := Lib.hid hnn
      clear hnn
      go_enter Tryz.func24, Tryz.ntmps24
      go_wp2
      go_loopw [1, 5] (fun s i wr => ∃ k : Nat, ∃ m : Int, k ≤ n ∧ i = .int .i64 (k : Int) ∧ s = .int .i64 m ∧ Hid (m = left - (n : Int) - (psN ps k : Int)) ∧ 0 ≤ m ∧ Hid (Below w.heap.size w wr)) (fun _ i _ => n - (intOf i).toNat)
      case atStart => exact ⟨0, left - (n : Int), by omega, rfl, rfl, Lib.hid (by show _ = _ - ((0 : Nat) : Int); omega), by omega, Lib.hid (Below.refl _ _)⟩
      case round =>
        obtain ⟨k, m, hk, rfl, rfl, hmq, hm0, B1⟩ := hrel
        by_cases hlt : k < n
        · have s2 : IntKind.i64.wrap ((k : Int) + 1) = (k : Int) + 1 := IntWalk.i64_in _ (by omega)
          have kd : (k : Int) < (n : Int) := by omega
          obtain ⟨ak, ck, hs, hld⟩ := HL.out k (by rw [← HN.out]; exact hlt)
          have hm1 : m ≤ 1048576 := by have := hmq.out; omega
          have KS := fun w' => szPlan_any ak (pS ps k).length ck (pB ps k) (pO ps k) m ⟨hm0, hm1⟩ hs.len w'
          have hld2 := Lib.hid (hld _ B1.out)
          have hN1 := Lib.hid (show psN ps (k + 1) = psN ps k + (pS ps k).length from rfl)
          clear hs hld hm1
          by_cases hq : m < ((pS ps k).length : Int)
          · rw [if_pos hq] at KS
            have hgt := Lib.hid (show left < (n : Int) + (psN ps n : Int) from by
              have hmono : ∀ {a b : Nat}, a ≤ b → psN ps a ≤ psN ps b := by
                intro a b hab
                induction hab with
                | refl => exact Nat.le_refl _
                | step _ ih => exact Nat.le_trans ih (Nat.le_add_right _ _)
              have h3 := hmono (show k + 1 ≤ n from hlt)
              have h4 := hmq.out
              have h5 := hN1.out
              omega)
            generalize (pS ps k).length = ln at *
            clear hq hmq hN1
            go_wp2_with ((with_reducible refine is_load 122 _ rfl ?_); refine wpList_load_of rfl 122 _ rfl _ rfl _ hld2.out ?_)
            refine (KS _).mono ?_
            rintro e w2 ⟨rfl, hb2⟩
            go_wp2_with fail
            go_ret
            exact ⟨by rw [szV_lt hgt.out]; rfl, bthen B1.out hb2⟩
          · rw [if_neg hq] at KS
            have hm2 : ¬ m - ((pS ps k).length : Int) < 0 := by omega
            have hmm : 0 ≤ m - ((pS ps k).length : Int) := by omega
            have hme := Lib.hid (show m - ((pS ps k).length : Int) = left - (n : Int) - (psN ps (k + 1) : Int) from by have := hmq.out; have := hN1.out; omega)
            generalize (pS ps k).length = ln at *
            clear hq hmq hN1
            go_wp2_with ((with_reducible refine is_load 122 _ rfl ?_); refine wpList_load_of rfl 122 _ rfl _ rfl _ hld2.out ?_)
            refine (KS _).mono ?_
            rintro e w2 ⟨rfl, hb2⟩
            have B2 := Lib.hid (bthen B1.out hb2)
            clear B1 hb2 hld2 KS
            go_wp2_with fail
            exact ⟨⟨k + 1, m - (ln : Int), by omega, by go_num, rfl, hme, hmm, B2⟩, by simp [intOf]; omega⟩
        · obtain rfl : n = k := by omega
          have hh := hmq.out
          have hne := Lib.hid (show ¬ left < (n : Int) + (psN ps n : Int) from by omega)
          clear hh
          go_wp2
          go_ret
          exact ⟨by rw [szV_ge (left := left) (t := (n : Int) + (psN ps n : Int)) (by have := hne.out; omega), show left - ((n : Int) + (psN ps n : Int)) = m from by have := hmq.out; omega]; rfl, B1.out⟩

end Go.Proofs.YtboahhipobcabaaGreat
