/-
  CONTRACTS: shared green: what refuses it.
-/
import Derived.Test.YtlpbehokcogcpaaShr
import Derived.Test.YtlpbehokcogcpaaRefuseP
import Derived.Test.YtlpbehokcogcpaaCyc
import Derived.Test.YtlpbehokcogcpaaVPlanI
namespace Go.Proofs.Ytlpbehokcogcpaa
open Go Go.ChangeShapes Go.WideShapes Go.ChangeAt Go.RowKit Go.Deep
set_option maxRecDepth 100000

/-- may green be shared out so -/
def gOk (n : Nat) (ds : List Nat) (cy bt : Int) : Prop := 1 ≤ n ∧ n ≤ 8 ∧ ds.all amtB = true ∧ 0 ≤ bt ∧ bt ≤ 240 ∧ (n : Int) * (1 + bt) ≤ cy ∧ cy ≤ 240

instance (n : Nat) (ds : List Nat) (cy bt : Int) : Decidable (gOk n ds cy bt) := by unfold gOk; infer_instance

def gC (n : Nat) (ds : List Nat) (cy bt : Int) : Int := if gOk n ds cy bt then 0 else 2

theorem gC_yes {n : Nat} {ds : List Nat} {cy bt : Int} (h : gOk n ds cy bt) : gC n ds cy bt = 0 := by unfold gC; rw [if_pos h]

theorem gC_no {n : Nat} {ds : List Nat} {cy bt : Int} (h : ¬ gOk n ds cy bt) : gC n ds cy bt = 2 := by unfold gC; rw [if_neg h]

/-- shared green, and a code -/
def vShg (ps : List P8) (ds : List Nat) (cy bt : Int) : Slots × Int × Int × Int := if gOk ps.length ds cy bt then (shr ds (ones ps) (cy - (ps.length : Int) * (1 + bt)).toNat, bt, 0, 0) else ([], 0, 0, 2)

theorem vShg_yes {ps : List P8} {ds : List Nat} {cy bt : Int} (h : gOk ps.length ds cy bt) : vShg ps ds cy bt = (shr ds (ones ps) (cy - (ps.length : Int) * (1 + bt)).toNat, bt, 0, 0) := by unfold vShg; rw [if_pos h]

theorem vShg_no {ps : List P8} {ds : List Nat} {cy bt : Int} (h : ¬ gOk ps.length ds cy bt) : vShg ps ds cy bt = ([], 0, 0, 2) := by unfold vShg; rw [if_neg h]

theorem g_mul {n : Nat} {bt : Int} (hn : n ≤ 8) (h1 : 0 ≤ bt) (h2 : bt ≤ 240) : 0 ≤ (n : Int) * (1 + bt) ∧ (n : Int) * (1 + bt) ≤ 8 * 241 :=
  ⟨Int.mul_nonneg (by omega) (by omega), Int.mul_le_mul (by omega) (by omega) (by omega) (by omega)⟩

theorem vShg_w (ps : List P8) (ds : List Nat) (cy bt : Int) : SlW (vShg ps ds cy bt).1 ∧ (vShg ps ds cy bt).1.length ≤ ps.length := by
  by_cases h : gOk ps.length ds cy bt
  · rw [vShg_yes h]
    have h' := h
    unfold gOk at h'
    have hm := g_mul h'.2.1 h'.2.2.2.1 h'.2.2.2.2.1
    refine ⟨(shr_facts ds (by omega) _ (by omega)).1, ?_⟩
    show (shr ds (ones ps) _).length ≤ _
    rw [shr_len, ones_len]
    exact Nat.le_refl _
  · rw [vShg_no h]
    exact ⟨fun s hs => by simp at hs, by simp⟩

theorem amts_nth {ds : List Nat} (h : ds.all amtB = true) (k : Nat) : nth ds k < 2139095040 := by
  by_cases c : k < ds.length
  · have := List.all_eq_true.1 h (nth ds k) (by
      show (ds[k]?).getD 0 ∈ ds
      rw [List.getElem?_eq_getElem c, Option.getD_some]; exact List.getElem_mem c)
    unfold amtB at this
    simpa using this
  · show (ds[k]?).getD 0 < _
    rw [List.getElem?_eq_none (by omega)]
    show 0 < 2139095040
    omega

set_option maxHeartbeats 1000000 in
theorem ShareGreen1_any (g1 g2 g3 g4 : Nat) (T1 T2 T3 T4 : TypeId) (n : Nat) (hn : n ≤ 9223372036854775807) (ds : List Nat) (hl : ds.length = 8) (hx : ∀ x ∈ ds, x < 4294967296) (cy bt : Int) (w : World) (N0 : At w g1 #[.int .i64 (n : Int)] T1) (D0 : At w g2 (fl ds) T2) (R0 : At w g3 #[.int .i64 bt] T3) (C0 : At w g4 #[.int .i64 cy] T4) :
    Calls Try.prog 24 #[.pointer (some ⟨g1, 0, none⟩), .pointer (some ⟨g2, 0, none⟩), .pointer (some ⟨g3, 0, none⟩), .pointer (some ⟨g4, 0, none⟩)] w fun e w' => Chk (gC n ds cy bt) e ∧ Below w.heap.size w w' := by
  have cn : w.cell? ⟨g1, 0, none⟩ = some (.int .i64 (n : Int)) := N0.cell rfl
  have B1 := Lib.hid (Below.refl w.heap.size w)
  by_cases h1 : 1 ≤ (n : Int)
  · by_cases h2 : (n : Int) ≤ 8
    · have KA := needAmounts_any g2 0 8 ds hx (by omega) w D0.fl_cells
      rw [hl] at KA
      go_enter Try.func24, Try.ntmps24
      go_wp2_with fail
      refine (need_ok 2 _).mono ?_
      rintro e w9 ⟨rfl, rfl⟩
      clear cn B1
      go_wp2_with fail
      refine KA.mono ?_
      rintro e w1 ⟨⟨ha, rfl⟩ | ⟨ha, x, hxx, rfl⟩, m1, rfl⟩
      · have B1 := Lib.hid (bdrew (Below.refl w9.heap.size w9) m1)
        have N1 := N0.drewN m1
        have R1 := R0.drewN m1
        have C1 := C0.drewN m1
        generalize World.drewN w9 m1 = w1 at B1 N1 R1 C1 ⊢
        clear N0 D0 R0 C0 KA
        have hall : ds.all amtB = true := by
          cases hq : ds.all amtB
          · unfold amtC at ha; rw [hq] at ha; cases ha
          · rfl
        have cb : w1.cell? ⟨g3, 0, none⟩ = some (.int .i64 bt) := R1.cell rfl
        have KB := isBetween_b bt w1
        by_cases h3 : 0 ≤ bt
        · by_cases h4 : bt ≤ 240
          · have e : btw bt = true := by unfold btw; simp; omega
            rw [e] at KB
            go_wp2_with fail
            refine KB.mono ?_
            rintro e w2 ⟨rfl, m2, rfl⟩
            have B2 := Lib.hid (bdrew B1.out m2)
            have N2 := N1.drewN m2
            have R2 := R1.drewN m2
            have C2 := C1.drewN m2
            generalize World.drewN w1 m2 = w2 at B2 N2 R2 C2 ⊢
            clear B1 N1 R1 C1 KB cb
            have B1 := B2
            have cb : w2.cell? ⟨g3, 0, none⟩ = some (.int .i64 bt) := R2.cell rfl
            have cc : w2.cell? ⟨g4, 0, none⟩ = some (.int .i64 cy) := C2.cell rfl
            have cn : w2.cell? ⟨g1, 0, none⟩ = some (.int .i64 (n : Int)) := N2.cell rfl
            have hm := g_mul (n := n) (by omega) h3 h4
            have s1 : IntKind.i64.wrap (1 + bt) = 1 + bt := IntWalk.i64_in _ (by omega)
            have s2 : IntKind.i64.wrap ((n : Int) * (1 + bt)) = (n : Int) * (1 + bt) := IntWalk.i64_in _ (by omega)
            by_cases h5 : (n : Int) * (1 + bt) ≤ cy
            · by_cases h6 : cy ≤ 240
              · have hg := Lib.hid (gC_yes (n := n) (ds := ds) (cy := cy) (bt := bt) ⟨by omega, by omega, hall, h3, h4, h5, h6⟩)
                clear hm
                go_wp2_with fail
                refine (need_ok 2 _).mono ?_
                rintro e w3 ⟨rfl, rfl⟩
                go_wp2_with fail
                refine (need_ok 2 _).mono ?_
                rintro e w4 ⟨rfl, rfl⟩
                go_wp2_with fail
                go_end0
                exact ⟨.inl ⟨hg.out, rfl⟩, B1.out⟩
              · have hg := Lib.hid (gC_no (n := n) (ds := ds) (cy := cy) (bt := bt) (fun h => h6 h.2.2.2.2.2.2))
                have d6 : decide (cy ≤ 240) = false := decide_eq_false h6
                clear hm
                go_wp2_with fail
                refine (need_ok 2 _).mono ?_
                rintro e w3 ⟨rfl, rfl⟩
                go_wp2_with fail
                refine (need_bad 2 _).mono ?_
                rintro e w9 ⟨rfl, rfl⟩
                go_wp2_with fail
                exact ⟨rfl, .inr ⟨by rw [hg.out]; decide, _, .inl (by rw [hg.out]), rfl⟩, B1.out⟩
            · have hg := Lib.hid (gC_no (n := n) (ds := ds) (cy := cy) (bt := bt) (fun h => h5 h.2.2.2.2.2.1))
              clear hm
              go_wp2_with fail
              refine (need_ok 2 _).mono ?_
              rintro e w3 ⟨rfl, rfl⟩
              go_wp2_with fail
              refine (need_bad 2 _).mono ?_
              rintro e w9 ⟨rfl, rfl⟩
              go_wp2_with fail
              exact ⟨rfl, .inr ⟨by rw [hg.out]; decide, _, .inl (by rw [hg.out]), rfl⟩, B1.out⟩
          · have hg := Lib.hid (gC_no (n := n) (ds := ds) (cy := cy) (bt := bt) (fun h => h4 h.2.2.2.2.1))
            have e : btw bt = false := by unfold btw; simp; omega
            rw [e] at KB
            go_wp2_with fail
            refine KB.mono ?_
            rintro e w2 ⟨rfl, m2, rfl⟩
            replace B1 := Lib.hid (bdrew B1.out m2)
            go_wp2_with fail
            refine (need_bad 2 _).mono ?_
            rintro e w9 ⟨rfl, rfl⟩
            go_wp2_with fail
            exact ⟨rfl, .inr ⟨by rw [hg.out]; decide, _, .inl (by rw [hg.out]), rfl⟩, B1.out⟩
        · have hg := Lib.hid (gC_no (n := n) (ds := ds) (cy := cy) (bt := bt) (fun h => h3 h.2.2.2.1))
          have e : btw bt = false := by unfold btw; simp; omega
          rw [e] at KB
          go_wp2_with fail
          refine KB.mono ?_
          rintro e w2 ⟨rfl, m2, rfl⟩
          replace B1 := Lib.hid (bdrew B1.out m2)
          go_wp2_with fail
          refine (need_bad 2 _).mono ?_
          rintro e w9 ⟨rfl, rfl⟩
          go_wp2_with fail
          exact ⟨rfl, .inr ⟨by rw [hg.out]; decide, _, .inl (by rw [hg.out]), rfl⟩, B1.out⟩
      · have hg := Lib.hid (gC_no (n := n) (ds := ds) (cy := cy) (bt := bt) (fun h => by
          have := h.2.2.1
          unfold amtC at ha
          rw [if_pos this] at ha
          exact ha rfl))
        have e2 : amtC ds = 2 := by
          unfold amtC at ha ⊢
          split at ha
          · exact absurd rfl ha
          · rename_i c; rw [if_neg c]
        rw [e2] at hxx
        go_wp2_with fail
        exact ⟨rfl, .inr ⟨by rw [hg.out]; decide, x, by rw [hg.out]; exact hxx, rfl⟩, bdrew (Below.refl _ _) m1⟩
    · have hg := Lib.hid (gC_no (n := n) (ds := ds) (cy := cy) (bt := bt) (fun h => h2 (by have := h.2.1; omega)))
      have d2 : decide ((n : Int) ≤ 8) = false := decide_eq_false h2
      go_enter Try.func24, Try.ntmps24
      go_wp2_with fail
      refine (need_bad 2 _).mono ?_
      rintro e w9 ⟨rfl, rfl⟩
      go_wp2_with fail
      exact ⟨rfl, .inr ⟨by rw [hg.out]; decide, _, .inl (by rw [hg.out]), rfl⟩, B1.out⟩
  · have hg := Lib.hid (gC_no (n := n) (ds := ds) (cy := cy) (bt := bt) (fun h => h1 (by have := h.1; omega)))
    go_enter Try.func24, Try.ntmps24
    go_wp2_with fail
    refine (need_bad 2 _).mono ?_
    rintro e w9 ⟨rfl, rfl⟩
    go_wp2_with fail
    exact ⟨rfl, .inr ⟨by rw [hg.out]; decide, _, .inl (by rw [hg.out]), rfl⟩, B1.out⟩

end Go.Proofs.Ytlpbehokcogcpaa
