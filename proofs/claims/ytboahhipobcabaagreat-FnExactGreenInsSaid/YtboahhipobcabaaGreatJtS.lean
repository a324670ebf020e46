/-
  CONTRACTS: slices of joints.
-/
import Derived.Test.YtboahhipobcabaaGreatJt
namespace Go.Proofs.YtboahhipobcabaaGreat
open Go Go.ChangeShapes Go.WideShapes Go.ChangeAt Go.RowKit
set_option maxRecDepth 100000

/-- a joint's slices, wherever they lie -/
def jrOf (j : Jt) (a : Option Addr) (c : Nat) (a' : Option Addr) (c' : Nat) : Jr := (j, .slice a j.ns.length c, .slice a' j.us.length c')

/-- a slice of joints, wherever it lies -/
structure JSl (w : World) (v : Value) (js : List Jt) : Prop where
  val : (js = [] ∧ ∃ a cap, v = .slice a 0 cap) ∨ ∃ g off cap, v = .slice (some ⟨g, off, none⟩) js.length cap ∧ g < w.heap.size ∧ ∀ i, i < js.length → ∃ a c a' c', ISl w (.slice a (fe zJ js i).ns.length c) (fe zJ js i).ns ∧ ISl w (.slice a' (fe zJ js i).us.length c') (fe zJ js i).us ∧ ∀ t, t < 25 → w.cell? ⟨g, off + i * 25 + t, none⟩ = (jrC (jrOf (fe zJ js i) a c a' c'))[t]?
  len : js.length ≤ maxLen

theorem JSl.step {B : Nat} {w w' : World} {v : Value} {js : List Jt} (h : JSl w v js) (hB : w.heap.size ≤ B) (hb : Below B w w') : JSl w' v js := by
  refine ⟨h.val.imp id ?_, h.len⟩
  rintro ⟨g, off, cap, rfl, hg, hc⟩
  refine ⟨g, off, cap, rfl, Nat.lt_of_lt_of_le hg hb.size, fun i hi => ?_⟩
  obtain ⟨a, c, a', c', hs, hs', hj⟩ := hc i hi
  refine ⟨a, c, a', c', hs.step hB hb, hs'.step hB hb, fun j hj' => ?_⟩
  rw [← hj j hj']
  unfold World.cell?
  rw [hb.block g (by omega)]

theorem JSl.any {w : World} {v : Value} {js : List Jt} (h : JSl w v js) : ∃ a cap, v = .slice a js.length cap := by
  rcases h.val with ⟨rfl, a, cap, rfl⟩ | ⟨g, off, cap, rfl, -⟩
  · exact ⟨a, cap, rfl⟩
  · exact ⟨_, cap, rfl⟩

/-- a slice that is not empty: its elements are loaded -/
theorem JSl.get {w : World} {v : Value} {js : List Jt} (h : JSl w v js) (hz : js.length ≠ 0) (ty : TypeId) (fs : Array Field) (hu : Tryz.prog.underlying ty = some (.struct fs)) (hi : (Tryz.prog.info? ty).map (·.size) = some 25) : ∃ g off cap, v = .slice (some ⟨g, off, none⟩) js.length cap ∧
    ∀ k, k < js.length → ∃ a c a' c', ISl w (.slice a (fe zJ js k).ns.length c) (fe zJ js k).ns ∧ ISl w (.slice a' (fe zJ js k).us.length c') (fe zJ js k).us ∧ ∀ w', Below w.heap.size w w' → (Instr.loadAt ty (.pointer (some ⟨g, off + k * 25, none⟩))).run Tryz.prog w' = .ok (.agg (jrC (jrOf (fe zJ js k) a c a' c'))) w' := by
  rcases h.val with ⟨rfl, -⟩ | ⟨g, off, cap, rfl, hg, hc⟩
  · exact absurd rfl hz
  · refine ⟨g, off, cap, rfl, fun k hk => ?_⟩
    obtain ⟨a, c, a', c', hs, hs', hj⟩ := hc k hk
    refine ⟨a, c, a', c', hs, hs', fun w' hb => run_loadAt_cells (P := Tryz.prog) w' g (off + k * 25) 25 ty (jrC (jrOf (fe zJ js k) a c a' c')) _ (jrC_size _) hu rfl hi (fun j hj' => ?_)⟩
    rw [← hj j hj']
    unfold World.cell?
    rw [hb.block g hg]

/-- how many values the slices of joints have -/
def jsN (js : List Jt) : Nat → Nat
  | 0 => 0
  | k + 1 => jsN js k + ((fe zJ js k).ns.length + (fe zJ js k).us.length)

theorem jsN_mono {js : List Jt} : ∀ {a b : Nat}, a ≤ b → jsN js a ≤ jsN js b := by
  intro a b hab
  induction hab with
  | refl => exact Nat.le_refl _
  | step _ ih => exact Nat.le_trans ih (Nat.le_add_right _ _)

theorem jsN_le {js : List Jt} {n k : Nat} (h : k < n) : (fe zJ js k).ns.length ≤ jsN js n ∧ (fe zJ js k).us.length ≤ jsN js n := by
  have h1 := jsN_mono (js := js) (show k + 1 ≤ n from h)
  have h2 : jsN js (k + 1) = jsN js k + ((fe zJ js k).ns.length + (fe zJ js k).us.length) := rfl
  omega

theorem made_joints (n : Nat) : madeCells (jrC zJr) (n * 25) = fm jrC (List.replicate n zJr) := made_fm jrC_size zJr n

theorem run_make_joints (W : World) (n : Nat) (hn : n ≤ 1048576) : (Instr.makeSlice 34 (.int .i64 (n : Int)) (.int .i64 (n : Int))).run Tryz.prog W = .ok (.slice (some ⟨W.heap.size, 0, none⟩) n n) (W.alloc (.cells (fm jrC (List.replicate n zJr)) 73)) := by
  have hi : (Tryz.prog.info? 73).map (fun i => (i.zero, i.size, i.bytes)) = some (some (.agg (jrC zJr)), 25, 152) := by kernel_rfl
  obtain ⟨i, h1, h2, h3, h4⟩ := info_parts hi
  have := run_make (P := Tryz.prog) W 34 73 i (.agg (jrC zJr)) Tryz.underlying34 h1 h2 .i64 .i64 (n : Int) (n : Int) (by omega) (by omega) (by rw [h4]; omega) (by omega)
  rw [Int.toNat_natCast, h3] at this
  rw [← made_fm jrC_size zJr n]
  exact this

/-- rows whose slices are at blocks of their own -/
def JOk (w : World) (G : Nat) (ys : List Jr) (js : List Jt) : Prop := ∀ i, i < ys.length → ∃ g h, fe zJr ys i = jrOf (fe zJ js i) (some ⟨g, 0, none⟩) (fe zJ js i).ns.length (some ⟨h, 0, none⟩) (fe zJ js i).us.length ∧ At w g (il (fe zJ js i).ns) 2 ∧ At w h (il (fe zJ js i).us) 2 ∧ G < g ∧ G < h

theorem JOk.step {w w' : World} {G : Nat} {ys : List Jr} {js : List Jt} (h : JOk w G ys js) (hb : Below w.heap.size w w') : JOk w' G ys js := fun i hi => by
  obtain ⟨g, k, h1, h2, h3, h4⟩ := h i hi
  exact ⟨g, k, h1, h2.step hb, h3.step hb, h4⟩

theorem JOk.set {w : World} {G : Nat} {ys : List Jr} {js : List Jt} (h : JOk w G ys js) (c : Array Value) : JOk (w.setRow G c) G ys js := fun i hi => by
  obtain ⟨g, k, h1, h2, h3, h4⟩ := h i hi
  exact ⟨g, k, h1, h2.setRow_other (by omega) _, h3.setRow_other (by omega) _, h4⟩

theorem JOk.setRow_other {w : World} {G k : Nat} {ys : List Jr} {js : List Jt} (h : JOk w G ys js) (hk : k < G) (c : Array Value) : JOk (w.setRow k c) G ys js := fun i hi => by
  obtain ⟨g, k, h1, h2, h3, h4⟩ := h i hi
  exact ⟨g, k, h1, h2.setRow_other (by omega) _, h3.setRow_other (by omega) _, h4⟩

theorem JOk.snoc {w : World} {G : Nat} {ys : List Jr} {js : List Jt} (h : JOk w G ys js) {g k : Nat} (h2 : At w g (il (fe zJ js ys.length).ns) 2) (h3 : At w k (il (fe zJ js ys.length).us) 2) (hg : G < g) (hk : G < k) :
    JOk w G (ys ++ [jrOf (fe zJ js ys.length) (some ⟨g, 0, none⟩) (fe zJ js ys.length).ns.length (some ⟨k, 0, none⟩) (fe zJ js ys.length).us.length]) js := by
  intro i hi
  rw [List.length_append, List.length_cons, List.length_nil] at hi
  by_cases c : i < ys.length
  · obtain ⟨a, b, h1, hr⟩ := h i c
    refine ⟨a, b, ?_, hr⟩
    rw [← h1]
    simp only [fe, List.getD_eq_getElem?_getD, List.getElem?_append_left c]
  · obtain rfl : i = ys.length := by omega
    refine ⟨g, k, ?_, h2, h3, hg, hk⟩
    unfold fe
    rw [List.getD_eq_getElem?_getD, List.getElem?_append_right (Nat.le_refl _), Nat.sub_self]
    rfl

theorem snoc_rep {α : Type} {ys : List α} {n : Nat} (z y : α) (h : ys.length < n) : (ys ++ List.replicate (n - ys.length) z).set ys.length y = (ys ++ [y]) ++ List.replicate (n - (ys ++ [y]).length) z := by
  rw [List.set_append_right _ _ (Nat.le_refl _), Nat.sub_self, List.length_append, List.length_cons, List.length_nil, show n - ys.length = (n - (ys.length + 0 + 1)) + 1 from by omega, List.replicate_succ]
  simp

theorem JSl.of_at {w : World} {G cap : Nat} {ys : List Jr} {js : List Jt} {T : TypeId} (h : At w G (fm jrC ys) T) (hl : ys.length = js.length) (hm : js.length ≤ maxLen) (hk : JOk w G ys js) (hN : ∀ i, i < js.length → (fe zJ js i).ns.length ≤ maxLen ∧ (fe zJ js i).us.length ≤ maxLen) : JSl w (.slice (some ⟨G, 0, none⟩) js.length cap) js :=
  ⟨.inr ⟨G, 0, cap, rfl, h.lt, fun i hi => by
    obtain ⟨g, k, h1, h2, h3, -, -⟩ := hk i (by omega)
    refine ⟨some ⟨g, 0, none⟩, (fe zJ js i).ns.length, some ⟨k, 0, none⟩, (fe zJ js i).us.length, ISl.of_at h2 (hN i hi).1 (fe zJ js i).hns, ISl.of_at h3 (hN i hi).2 (fe zJ js i).hus, fun t ht => ?_⟩
    rw [cell_of_row _ _ _ _ _ _ h, Nat.zero_add, ← h1]
    exact fm_get jrC_size (by omega) ht⟩, hm⟩

set_option maxHeartbeats 1000000 in
theorem szJointS_any (v : Value) (js : List Jt) (left : Int) (hl : 0 ≤ left ∧ left ≤ 1048576) (w : World) (hF : JSl w v js) :
    Calls Tryz.prog 23 #[v, .int .i64 left] w fun e w' => e = .returned (.int .i64 (szV left ((js.length : Int) + (jsN js js.length : Int)))) ∧ Below w.heap.size w w' := by
  have hm : js.length ≤ 9223372036854775807 := Nat.le_trans hF.len (by decide)
  have s1 : IntKind.i64.wrap (left - (js.length : Int)) = left - (js.length : Int) := IntWalk.i64_in _ (by omega)
  by_cases hb : left < (js.length : Int)
  · obtain ⟨a, cap, rfl⟩ := hF.any
    rw [szV_lt (by omega)]
    have h1 : left - (js.length : Int) < 0 := by omega
    clear hF
    go_enter Tryz.func23, Tryz.ntmps23
    go_wp2
    go_ret
    exact ⟨rfl, Below.refl _ _⟩
  · have h1 : ¬ left - (js.length : Int) < 0 := by omega
    by_cases z : js.length = 0
    · obtain rfl := List.length_eq_zero_iff.1 z
      obtain ⟨a, cap, rfl⟩ := hF.any
      rw [szV_ge (show ¬ left < (([] : List Jt).length : Int) + (jsN [] ([] : List Jt).length : Int) from by show ¬ left < 0 + 0; omega), show left - ((([] : List Jt).length : Int) + (jsN [] ([] : List Jt).length : Int)) = left from by show left - (0 + 0) = left; omega]
      have h0 : ¬ left < 0 := by omega
      have s0 : IntKind.i64.wrap left = left := IntWalk.i64_in _ (by omega)
      clear hF s1 h1 hb hm z
      go_enter Tryz.func23, Tryz.ntmps23
      go_wp2
      go_loopw [1, 5] (fun s i wr => s = .int .i64 left ∧ i = .int .i64 0 ∧ wr = w) (fun _ _ _ => 0)
      case atStart => exact ⟨by simp, rfl, rfl⟩
      case round =>
        obtain ⟨rfl, rfl, rfl⟩ := hrel
        go_wp2
        go_ret
        exact ⟨rfl, Below.refl _ _⟩
    · obtain ⟨g, off, cap, rfl, HG⟩ := hF.get z 118 _ Tryz.underlying118 (by kernel_rfl)
      have HL := Lib.hid HG
      clear HG hF
      obtain ⟨n, hnn⟩ : ∃ n, n = js.length := ⟨_, rfl⟩
      rw [← hnn] at hb h1 s1 hm z ⊢
      have HN := Lib.hid hnn
      clear hnn
      go_enter Tryz.func23, Tryz.ntmps23
      go_wp2
      go_loopw [1, 5] (fun s i wr => ∃ k : Nat, ∃ m : Int, k ≤ n ∧ i = .int .i64 (k : Int) ∧ s = .int .i64 m ∧ Hid (m = left - (n : Int) - (jsN js k : Int)) ∧ 0 ≤ m ∧ Hid (Below w.heap.size w wr)) (fun _ i _ => n - (intOf i).toNat)
      case atStart => exact ⟨0, left - (n : Int), by omega, rfl, rfl, Lib.hid (by show _ = _ - ((0 : Nat) : Int); omega), by omega, Lib.hid (Below.refl _ _)⟩
      case round =>
        obtain ⟨k, m, hk, rfl, rfl, hmq, hm0, B1⟩ := hrel
        by_cases hlt : k < n
        · have s2 : IntKind.i64.wrap ((k : Int) + 1) = (k : Int) + 1 := IntWalk.i64_in _ (by omega)
          have kd : (k : Int) < (n : Int) := by omega
          obtain ⟨a1, c1, a2, c2, hs, hs', hld⟩ := HL.out k (by rw [← HN.out]; exact hlt)
          have hm1 : m ≤ 1048576 := by have := hmq.out; omega
          have KS := fun w' => szJoint_any (fe zJ js k).i (fe zJ js k).o (fe zJ js k).ts (fe zJ js k).ps (fe zJ js k).hlt (fe zJ js k).hlp a1 a2 (fe zJ js k).ns.length c1 (fe zJ js k).us.length c2 (fe zJ js k).p hs.len hs'.len m ⟨hm0, hm1⟩ w'
          have hld2 := Lib.hid (hld _ B1.out)
          have hN1 := Lib.hid (show jsN js (k + 1) = jsN js k + ((fe zJ js k).ns.length + (fe zJ js k).us.length) from rfl)
          change ∀ w', Calls Tryz.prog 53 #[.agg (jrC (jrOf (fe zJ js k) a1 c1 a2 c2)), _] w' _ at KS
          clear hs hs' hld hm1
          obtain ⟨ln, hln⟩ : ∃ ln : Nat, ln = (fe zJ js k).ns.length + (fe zJ js k).us.length := ⟨_, rfl⟩
          have hli : (((fe zJ js k).ns.length : Int) + ((fe zJ js k).us.length : Int)) = (ln : Int) := by omega
          rw [hli] at KS
          rw [← hln] at hN1
          clear hln hli
          generalize jrOf (fe zJ js k) a1 c1 a2 c2 = row at *
          by_cases hq : m < (ln : Int)
          · rw [szV_lt hq] at KS
            have hgt := Lib.hid (show left < (n : Int) + (jsN js n : Int) from by
              have h3 := jsN_mono (js := js) (show k + 1 ≤ n from hlt)
              have h4 := hmq.out
              have h5 := hN1.out
              omega)
            clear hq hmq hN1
            go_wp2_with ((with_reducible refine is_load 118 _ rfl ?_); refine wpList_load_of rfl 118 _ rfl _ rfl _ hld2.out ?_)
            refine (KS _).mono ?_
            rintro e w2 ⟨rfl, hb2⟩
            go_wp2_with fail
            go_ret
            exact ⟨by rw [szV_lt hgt.out]; rfl, bthen B1.out hb2⟩
          · rw [szV_ge hq] at KS
            have hm2 : ¬ m - (ln : Int) < 0 := by omega
            have hmm : 0 ≤ m - (ln : Int) := by omega
            have hme := Lib.hid (show m - (ln : Int) = left - (n : Int) - (jsN js (k + 1) : Int) from by have := hmq.out; have := hN1.out; omega)
            clear hq hmq hN1
            go_wp2_with ((with_reducible refine is_load 118 _ rfl ?_); refine wpList_load_of rfl 118 _ rfl _ rfl _ hld2.out ?_)
            refine (KS _).mono ?_
            rintro e w2 ⟨rfl, hb2⟩
            have B2 := Lib.hid (bthen B1.out hb2)
            clear B1 hb2 hld2 KS
            go_wp2_with fail
            exact ⟨⟨k + 1, m - (ln : Int), by omega, by go_num, rfl, hme, hmm, B2⟩, by simp [intOf]; omega⟩
        · obtain rfl : n = k := by omega
          have hh := hmq.out
          have hne := Lib.hid (show ¬ left < (n : Int) + (jsN js n : Int) from by omega)
          clear hh
          go_wp2
          go_ret
          exact ⟨by rw [szV_ge (left := left) (t := (n : Int) + (jsN js n : Int)) (by have := hne.out; omega), show left - ((n : Int) + (jsN js n : Int)) = m from by have := hmq.out; omega]; rfl, B1.out⟩

set_option maxHeartbeats 1000000 in
theorem toJointS_any (v : Value) (js : List Jt) (w : World) (hF : JSl w v js) (hn : js.length ≤ 1048576) (hN : jsN js js.length ≤ 1048576) :
    Calls Tryz.prog 29 #[v] w fun e w' => e = .returned (.slice (some ⟨w.heap.size, 0, none⟩) js.length js.length) ∧ (∃ ys : List Jr, ys.length = js.length ∧ At w' w.heap.size (fm jrC ys) 73 ∧ JOk w' w.heap.size ys js) ∧ Below w.heap.size w w' := by
  have hmk := run_make_joints w js.length hn
  have A0 := At.new w (fm jrC (List.replicate js.length zJr)) 73
  have B0 := Lib.hid (b0 w (.cells (fm jrC (List.replicate js.length zJr)) 73))
  by_cases z : js.length = 0
  · obtain ⟨a, cap, rfl⟩ := hF.any
    obtain rfl := List.length_eq_zero_iff.1 z
    have hmk' : (Instr.makeSlice 34 (.int .i64 0) (.int .i64 0)).run Tryz.prog w = .ok (.slice (some ⟨w.heap.size, 0, none⟩) 0 0) (w.alloc (.cells (fm jrC (List.replicate 0 zJr)) 73)) := hmk
    clear hmk hF
    go_enter Tryz.func29, Tryz.ntmps29
    go_wp2_with ((at_make; refine wpList_make_runI rfl _ _ _ rfl _ _ _ rfl rfl hmk' ?_))
    go_loopw [4] (fun i wr => i = .int .i64 0 ∧ wr = w.alloc (.cells (fm jrC (List.replicate 0 zJr)) 73)) (fun _ _ => 0)
    case atStart => exact ⟨rfl, rfl⟩
    case round =>
      obtain ⟨rfl, rfl⟩ := hrel
      go_wp2
      go_ret
      exact ⟨rfl, ⟨[], rfl, A0, fun i hi => absurd hi (by simp)⟩, B0.out⟩
  · obtain ⟨g, off, cap, rfl, HG⟩ := hF.get z 118 _ Tryz.underlying118 (by kernel_rfl)
    have HL := Lib.hid HG
    have HM := Lib.hid hF.len
    clear HG hF
    obtain ⟨n, hnn⟩ : ∃ n, n = js.length := ⟨_, rfl⟩
    rw [← hnn] at hn hmk A0 B0 z HM hN ⊢
    have HNn := Lib.hid hnn
    have HP := Lib.hid (fun k (hk : k < n) => And.intro (Nat.le_trans (jsN_le (js := js) hk).1 hN) (Nat.le_trans (jsN_le (js := js) hk).2 hN))
    have A0' : At (w.alloc (.cells (fm jrC (List.replicate n zJr)) 73)) w.heap.size (fm jrC (([] : List Jr) ++ List.replicate (n - ([] : List Jr).length) zJr)) 73 := A0
    have HA := Lib.hid A0'
    clear hnn A0 A0' hN
    go_enter Tryz.func29, Tryz.ntmps29
    go_wp2_with ((at_make; refine wpList_make_runI rfl _ _ _ rfl _ _ _ rfl rfl hmk ?_))
    clear hmk
    go_loopw [4] (fun i wr => ∃ ys : List Jr, ys.length ≤ n ∧ i = .int .i64 (ys.length : Int) ∧ At wr w.heap.size (fm jrC (ys ++ List.replicate (n - ys.length) zJr)) 73 ∧ Hid (JOk wr w.heap.size ys js) ∧ Hid (Below w.heap.size w wr)) (fun i _ => n - (intOf i).toNat)
    case atStart => exact ⟨[], by simp, rfl, HA.out, Lib.hid (fun i hi => absurd hi (by simp)), B0⟩
    case round =>
      clear B0
      obtain ⟨ys, hk, rfl, A1, HS, B1⟩ := hrel
      obtain ⟨k, hkk⟩ : ∃ k, k = ys.length := ⟨_, rfl⟩
      have hsz := fm_size jrC_size (ys ++ List.replicate (n - ys.length) zJr)
      rw [List.length_append, List.length_replicate, show ys.length + (n - ys.length) = n from by omega] at hsz
      by_cases hlt : ys.length < n
      · have hld0 := HL.out ys.length (by rw [← HNn.out]; exact hlt)
        obtain ⟨a1, c1, a2, c2, hs, hs', hld⟩ := hld0
        have hp := HP.out ys.length hlt
        have KT := toJoint_any (fe zJ js ys.length).i (fe zJ js ys.length).o (fe zJ js ys.length).ts (fe zJ js ys.length).ps (fe zJ js ys.length).hlt (fe zJ js ys.length).hlp (fe zJ js ys.length).hi (fe zJ js ys.length).ho (fe zJ js ys.length).hct (fe zJ js ys.length).hcp a1 a2 c1 c2 (fe zJ js ys.length).ns (fe zJ js ys.length).us (fe zJ js ys.length).p wr (hs.step (Nat.le_refl _) B1.out) (hs'.step (Nat.le_refl _) B1.out) hp.1 hp.2
        have hld2 := Lib.hid (hld _ B1.out)
        have hlw := A1.lt
        have HSn := Lib.hid (fun (w' : World) (h : JOk w' w.heap.size ys js) (g k : Nat) => h.snoc (g := g) (k := k))
        have e3 := Lib.hid (fun y => (fm_set jrC_size (xs := ys ++ List.replicate (n - ys.length) zJr) (i := ys.length) (off := ys.length * 25) (by rw [List.length_append, List.length_replicate]; omega) rfl y).trans (congrArg (fm jrC) (snoc_rep zJr y hlt)))
        have hkl := Lib.hid (fun y : Jr => show (ys ++ [y]).length = k + 1 from by rw [List.length_append, ← hkk]; rfl)
        obtain ⟨j, hj⟩ : ∃ j, j = fe zJ js ys.length := ⟨_, rfl⟩
        rw [← hj] at KT hld2 HSn
        clear hs hs' hld hp hj
        rw [← hkk] at hlt hld2 e3 hk ⊢
        have s2 : IntKind.i64.wrap ((k : Int) + 1) = (k : Int) + 1 := IntWalk.i64_in _ (by omega)
        have kd : (k : Int) < (n : Int) := by omega
        obtain ⟨R, hR⟩ : ∃ R, R = fm jrC (ys ++ List.replicate (n - ys.length) zJr) := ⟨_, rfl⟩
        rw [← hR] at A1 hsz
        rw [← hkk] at hR
        rw [← hR] at e3
        clear hR
        change Calls Tryz.prog 58 #[.agg (jrC (jrOf j a1 c1 a2 c2))] wr (fun e w' => ∃ G H, e = .returned (.agg (jrC (jrOf j (some ⟨G, 0, none⟩) j.ns.length (some ⟨H, 0, none⟩) j.us.length))) ∧ _) at KT
        have ho := jr_one
        clear hkk
        go_wp2_with ((with_reducible refine is_load 118 _ rfl ?_); refine wpList_load_of rfl 118 _ rfl _ rfl _ hld2.out ?_)
        refine KT.mono ?_
        rintro e w2 ⟨G, H, rfl, hG, hH, hge, hhe, hb2⟩
        have h9 := HSn.out w2 (HS.out.step hb2) G H hG hH (by omega) (by omega)
        obtain ⟨y, hy⟩ : ∃ y : Jr, y = jrOf j (some ⟨G, 0, none⟩) j.ns.length (some ⟨H, 0, none⟩) j.us.length := ⟨_, rfl⟩
        have hone : (jrC y).all (·.oneCell') = true := by rw [hy]; exact jr_one _ _ _ _ _ _ _ rfl rfl
        rw [← hy] at h9 ⊢
        have A2 := A1.step hb2
        have B2 := Lib.hid (bthen B1.out hb2)
        have e4 := e3.out y
        have k4 := Lib.hid (hkl.out y)
        have A3 := A2.setRow (fm jrC (ys ++ [y] ++ List.replicate (n - (ys ++ [y]).length) zJr))
        have B3 := Lib.hid (bset B2.out (g := w.heap.size) (Nat.le_refl _) (fm jrC (ys ++ [y] ++ List.replicate (n - (ys ++ [y]).length) zJr)))
        have H3 := Lib.hid (h9.set (fm jrC (ys ++ [y] ++ List.replicate (n - (ys ++ [y]).length) zJr)))
        generalize ys ++ [y] = ys' at *
        clear A1 B1 HS hb2 hG hH hge hhe hld2 KT B2 h9 hy HSn e3 hkl
        go_wp2_with (((with_reducible refine is_store 73 _ _ rfl ?_); refine wpList_store_part rfl 73 _ _ rfl _ _ rfl (jrC y) rfl R _ (by with_reducible assumption) 25 (jrC_size _) (by rw [hsz]; omega) (by kernel_rfl) hone _ e4 ?_))
        exact ⟨⟨ys', by have := k4.out; omega, by rw [k4.out]; go_num, A3, H3, B3⟩, by simp [intOf]; omega⟩
      · have he : ys.length = n := by omega
        have hz : n - ys.length = 0 := by omega
        rw [hz, List.replicate_zero, List.append_nil] at A1
        have hjl : ys.length = js.length := by rw [he, HNn.out]
        have HR := Lib.hid (show ∃ ys : List Jr, ys.length = n ∧ At wr w.heap.size (fm jrC ys) 73 ∧ JOk wr w.heap.size ys js from ⟨ys, he, A1, HS.out⟩)
        clear hz hjl A1 HS hkk hsz
        rw [he]
        clear he
        go_wp2
        go_ret
        exact ⟨rfl, HR.out, B1.out⟩

set_option maxHeartbeats 1000000 in
theorem eqJointS_st (v1 v2 : Value) (js : List Jt) (hn : js.length ≤ 1048576) (hN : jsN js js.length ≤ 1048576) (w : World) (h1 : JSl w v1 js) (h2 : JSl w v2 js) :
    Calls Tryz.prog 36 #[v1, v2] w fun e w' => e = .returned (.bool true) ∧ Below w.heap.size w w' := by
  by_cases z : js.length = 0
  · obtain ⟨a1, c1, rfl⟩ := h1.any
    obtain ⟨a2, c2, rfl⟩ := h2.any
    rw [z]
    clear h1 h2
    go_enter Tryz.func36, Tryz.ntmps36
    go_wp2
    go_loopw [5] (fun i wr => i = .int .i64 0 ∧ wr = w) (fun _ _ => 0)
    case atStart => exact ⟨rfl, rfl⟩
    case round =>
      obtain ⟨rfl, rfl⟩ := hrel
      go_wp2
      go_ret
      exact ⟨rfl, Below.refl _ _⟩
  · obtain ⟨g1, off1, cap1, rfl, L1⟩ := h1.get z 73 _ Tryz.underlying73 (by kernel_rfl)
    obtain ⟨g2, off2, cap2, rfl, L2⟩ := h2.get z 73 _ Tryz.underlying73 (by kernel_rfl)
    have HL := Lib.hid (And.intro L1 (And.intro L2 hN))
    clear h1 h2 L1 L2 hN
    obtain ⟨n, hnn⟩ : ∃ n, n = js.length := ⟨_, rfl⟩
    rw [← hnn] at hn z ⊢
    have HN := Lib.hid hnn
    clear hnn
    go_enter Tryz.func36, Tryz.ntmps36
    go_wp2
    go_loopw [5] (fun i wr => ∃ k : Nat, k ≤ n ∧ i = .int .i64 (k : Int) ∧ Hid (Below w.heap.size w wr)) (fun i _ => n - (intOf i).toNat)
    case atStart => exact ⟨0, by omega, rfl, Lib.hid (Below.refl _ _)⟩
    case round =>
      obtain ⟨k, hk, rfl, B1⟩ := hrel
      by_cases hlt : k < n
      · have s2 : IntKind.i64.wrap ((k : Int) + 1) = (k : Int) + 1 := IntWalk.i64_in _ (by omega)
        have kd : (k : Int) < (n : Int) := by omega
        have hkl : k < js.length := by rw [← HN.out]; exact hlt
        obtain ⟨a1, c1, a2, c2, S1, S2, M1⟩ := HL.out.1 k hkl
        obtain ⟨b1, d1, b2, d2, S3, S4, M2⟩ := HL.out.2.1 k hkl
        have hq := jsN_le (js := js) hkl
        have hq2 := HL.out.2.2
        have KE := fun w' (hb : Below w.heap.size w w') => eqJoint_st (fe zJ js k).i (fe zJ js k).o (fe zJ js k).ts (fe zJ js k).ps (fe zJ js k).hlt (fe zJ js k).hlp (fe zJ js k).hct (fe zJ js k).hcp a1 a2 b1 b2 c1 c2 d1 d2 (fe zJ js k).ns (fe zJ js k).us (fe zJ js k).p w' (S1.step (Nat.le_refl _) hb) (S2.step (Nat.le_refl _) hb) (S3.step (Nat.le_refl _) hb) (S4.step (Nat.le_refl _) hb) (by omega) (by omega)
        change ∀ w', Below w.heap.size w w' → Calls Tryz.prog 63 #[.agg (jrC (jrOf (fe zJ js k) a1 c1 a2 c2)), .agg (jrC (jrOf (fe zJ js k) b1 d1 b2 d2))] w' _ at KE
        have M1 := Lib.hid M1
        have M2 := Lib.hid M2
        have KE := Lib.hid KE
        have hC := Cb.const wr
        clear hkl S1 S2 S3 S4 hq hq2
        generalize jrOf (fe zJ js k) a1 c1 a2 c2 = r1 at *
        generalize jrOf (fe zJ js k) b1 d1 b2 d2 = r2 at *
        go_wp2
        refine wp_region_cb (by kernel_rfl) (by kernel_rfl) ?_
        repeat (first
          | go_big_quiet_skip
          | (go_big_quiet_want; first
            | (refine q_load 73 _ rfl ⟨g1, off1 + k * 25, none⟩ rfl (.agg (jrC r1)) (fun w' hw' => M1.out w' (bthen B1.out hw')) ?_; go_simp; go_big_quiet_on)
            | (refine q_load 73 _ rfl ⟨g2, off2 + k * 25, none⟩ rfl (.agg (jrC r2)) (fun w' hw' => M2.out w' (bthen B1.out hw')) ?_; go_simp; go_big_quiet_on)
            | (go_big_quiet_op; go_big_quiet_on)
            | (go_big_quiet_op; apply Exists.intro; refine ⟨fun w' hw' => ?_, ?_⟩; (go_at_call 63; exact (KE.out _ (bthen B1.out hw')).mono fun _ _ h => ⟨h.1, hw'.step h.2⟩); go_big_quiet_on)))
        refine wpQuiet_nil ?_
        intro w2 hw2
        have B2 := Lib.hid (bthen B1.out hw2)
        clear M1 M2 hC B1 hw2 KE
        go_wp2
        exact ⟨⟨k + 1, by omega, by go_num, B2⟩, by simp [intOf]; omega⟩
      · obtain rfl : n = k := by omega
        go_wp2
        go_ret
        exact ⟨rfl, B1.out⟩

end Go.Proofs.YtboahhipobcabaaGreat
