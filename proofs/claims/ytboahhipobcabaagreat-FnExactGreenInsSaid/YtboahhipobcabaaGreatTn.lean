/-
  CONTRACTS: towns: sizes, made the program's, held against each other.
-/
import Derived.Test.YtboahhipobcabaaGreatJtS
import Derived.Test.YtboahhipobcabaaGreatG14
import Derived.Test.YtboahhipobcabaaGreatPlTo
import Derived.Test.YtboahhipobcabaaGreatSlices
namespace Go.Proofs.YtboahhipobcabaaGreat
open Go Go.ChangeShapes Go.WideShapes Go.ChangeAt Go.RowKit
set_option maxRecDepth 100000

def tnC (vr : Value) (vf : Value) (vj : Value) (vp : Value) (tk : Int) (ca : Nat) (we : Nat) : Array Value := #[vr, vf, vj, vp, .int .i64 tk, .float .f32 ca, .float .f32 we]

theorem tnC_size (vr : Value) (vf : Value) (vj : Value) (vp : Value) (tk : Int) (ca : Nat) (we : Nat) : (tnC vr vf vj vp tk ca we).size = 7 := rfl

theorem tnC_one (vr : Value) (vf : Value) (vj : Value) (vp : Value) (tk : Int) (ca : Nat) (we : Nat) (h0 : vr.oneCell' = true) (h1 : vf.oneCell' = true) (h2 : vj.oneCell' = true) (h3 : vp.oneCell' = true) : (tnC vr vf vj vp tk ca we).all (·.oneCell') = true := by unfold tnC; rw [List.all_toArray]; simp only [List.all_cons, List.all_nil, h0, h1, h2, h3, Bool.and_true]; try rfl

theorem tnC_0 (vr : Value) (vf : Value) (vj : Value) (vp : Value) (tk : Int) (ca : Nat) (we : Nat) : (tnC vr vf vj vp tk ca we)[0]? = some (vr) := rfl

theorem tnC_1 (vr : Value) (vf : Value) (vj : Value) (vp : Value) (tk : Int) (ca : Nat) (we : Nat) : (tnC vr vf vj vp tk ca we)[1]? = some (vf) := rfl

theorem tnC_2 (vr : Value) (vf : Value) (vj : Value) (vp : Value) (tk : Int) (ca : Nat) (we : Nat) : (tnC vr vf vj vp tk ca we)[2]? = some (vj) := rfl

theorem tnC_3 (vr : Value) (vf : Value) (vj : Value) (vp : Value) (tk : Int) (ca : Nat) (we : Nat) : (tnC vr vf vj vp tk ca we)[3]? = some (vp) := rfl

theorem tnC_4 (vr : Value) (vf : Value) (vj : Value) (vp : Value) (tk : Int) (ca : Nat) (we : Nat) : (tnC vr vf vj vp tk ca we)[4]? = some (.int .i64 tk) := rfl

theorem tnC_5 (vr : Value) (vf : Value) (vj : Value) (vp : Value) (tk : Int) (ca : Nat) (we : Nat) : (tnC vr vf vj vp tk ca we)[5]? = some (.float .f32 ca) := rfl

theorem tnC_6 (vr : Value) (vf : Value) (vj : Value) (vp : Value) (tk : Int) (ca : Nat) (we : Nat) : (tnC vr vf vj vp tk ca we)[6]? = some (.float .f32 we) := rfl

theorem tnC_s0 (vr : Value) (vf : Value) (vj : Value) (vp : Value) (tk : Int) (ca : Nat) (we : Nat) (x : Value) : (tnC vr vf vj vp tk ca we).setIfInBounds 0 (x) = tnC x vf vj vp tk ca we := rfl

theorem tnC_s1 (vr : Value) (vf : Value) (vj : Value) (vp : Value) (tk : Int) (ca : Nat) (we : Nat) (x : Value) : (tnC vr vf vj vp tk ca we).setIfInBounds 1 (x) = tnC vr x vj vp tk ca we := rfl

theorem tnC_s2 (vr : Value) (vf : Value) (vj : Value) (vp : Value) (tk : Int) (ca : Nat) (we : Nat) (x : Value) : (tnC vr vf vj vp tk ca we).setIfInBounds 2 (x) = tnC vr vf x vp tk ca we := rfl

theorem tnC_s3 (vr : Value) (vf : Value) (vj : Value) (vp : Value) (tk : Int) (ca : Nat) (we : Nat) (x : Value) : (tnC vr vf vj vp tk ca we).setIfInBounds 3 (x) = tnC vr vf vj x tk ca we := rfl

theorem tnC_s4 (vr : Value) (vf : Value) (vj : Value) (vp : Value) (tk : Int) (ca : Nat) (we : Nat) (x : Int) : (tnC vr vf vj vp tk ca we).setIfInBounds 4 (.int .i64 x) = tnC vr vf vj vp x ca we := rfl

theorem tnC_s5 (vr : Value) (vf : Value) (vj : Value) (vp : Value) (tk : Int) (ca : Nat) (we : Nat) (x : Nat) : (tnC vr vf vj vp tk ca we).setIfInBounds 5 (.float .f32 x) = tnC vr vf vj vp tk x we := rfl

theorem tnC_s6 (vr : Value) (vf : Value) (vj : Value) (vp : Value) (tk : Int) (ca : Nat) (we : Nat) (x : Nat) : (tnC vr vf vj vp tk ca we).setIfInBounds 6 (.float .f32 x) = tnC vr vf vj vp tk ca x := rfl

theorem tnC_sz (vr : Value) : (#[.slice none 0 0, .slice none 0 0, .slice none 0 0, .slice none 0 0, .int .i64 0, .float .f32 0, .float .f32 0] : Array Value).setIfInBounds 0 (vr) = (tnC vr (.slice none 0 0) (.slice none 0 0) (.slice none 0 0) 0 0 0) := rfl


/-- a town's parts -/
structure Tn where
  rs : List Rd4
  fs : List Nat
  js : List Jt
  ps : Ps
  tk : Int
  ca : Nat
  we : Nat

/-- what a law's town keeps of bounds -/
structure TnB (T : Tn) : Prop where
  hfs : ∀ x ∈ T.fs, x < 4294967296
  hW : ∀ i, i < T.ps.length → SlW (pS T.ps i)
  htk : I64j T.tk
  hca : T.ca < 4294967296
  hwe : T.we < 4294967296

/-- sizes below the law's bound -/
structure TnN (T : Tn) : Prop where
  r : T.rs.length ≤ 1048576
  f : T.fs.length ≤ 1048576
  j : T.js.length ≤ 1048576
  jn : jsN T.js T.js.length ≤ 1048576
  p : T.ps.length ≤ 1048576
  pn : psN T.ps T.ps.length ≤ 1048576

def tnN (T : Tn) : Nat := T.rs.length + T.fs.length + (T.js.length + jsN T.js T.js.length) + (T.ps.length + psN T.ps T.ps.length)

theorem TnN.of {T : Tn} (h : tnN T ≤ 1048576) : TnN T := by unfold tnN at h; exact ⟨by omega, by omega, by omega, by omega, by omega, by omega⟩

/-- a town's row -/
def tnR (T : Tn) (vr vf vj vp : Value) : Array Value := tnC vr vf vj vp T.tk T.ca T.we

/-- a town whose slices lie anywhere -/
structure TIn (w : World) (vr vf vj vp : Value) (T : Tn) : Prop where
  r : GSl rdr 19 zR w vr T.rs
  f : FSl w vf T.fs
  j : JSl w vj T.js
  p : PSl w vp T.ps

theorem TIn.step {B : Nat} {w w' : World} {vr vf vj vp : Value} {T : Tn} (h : TIn w vr vf vj vp T) (hB : w.heap.size ≤ B) (hb : Below B w w') : TIn w' vr vf vj vp T := ⟨h.r.step hB hb, h.f.step hB hb, h.j.step hB hb, h.p.step hB hb⟩

/-- plans at blocks of their own -/
def PkOk (w : World) (G : Nat) (gs : Nat → Nat) (ps : Ps) : Prop := ∀ i, i < ps.length → At w (gs i) (slC (pS ps i)) 55 ∧ G < gs i

theorem PkOk.step {w w' : World} {G : Nat} {gs : Nat → Nat} {ps : Ps} (h : PkOk w G gs ps) (hb : Below w.heap.size w w') : PkOk w' G gs ps := fun i hi => ⟨(h i hi).1.step hb, (h i hi).2⟩

theorem PkOk.setRow_other {w : World} {G k : Nat} {gs : Nat → Nat} {ps : Ps} (h : PkOk w G gs ps) (hk : k < G) (c : Array Value) : PkOk (w.setRow k c) G gs ps := fun i hi => ⟨(h i hi).1.setRow_other (by have := (h i hi).2; omega) _, (h i hi).2⟩

/-- a town at blocks of its own -/
structure TOwn (w : World) (gr gf gj gp : Nat) (T : Tn) : Prop where
  r : At w gr (fm rdr T.rs) 64
  f : At w gf (fl T.fs) 26
  j : ∃ ys : List Jr, ys.length = T.js.length ∧ At w gj (fm jrC ys) 73 ∧ JOk w gj ys T.js
  p : ∃ gs : Nat → Nat, At w gp (pvC (pvs gs T.ps T.ps.length T.ps.length)) 58 ∧ PkOk w gp gs T.ps

theorem TOwn.step {w w' : World} {gr gf gj gp : Nat} {T : Tn} (h : TOwn w gr gf gj gp T) (hb : Below w.heap.size w w') : TOwn w' gr gf gj gp T := by
  obtain ⟨h1, h2, ⟨ys, h3, h4, h5⟩, gs, h6, h7⟩ := h
  exact ⟨h1.step hb, h2.step hb, ⟨ys, h3, h4.step hb, h5.step hb⟩, gs, h6.step hb, h7.step hb⟩

def slN (g n : Nat) : Value := .slice (some ⟨g, 0, none⟩) n n

theorem TOwn.toIn {w : World} {gr gf gj gp : Nat} {T : Tn} (h : TOwn w gr gf gj gp T) (hN : TnN T) (hB : TnB T) : TIn w (slN gr T.rs.length) (slN gf T.fs.length) (slN gj T.js.length) (slN gp T.ps.length) T := by
  obtain ⟨h1, h2, ⟨ys, h3, h4, h5⟩, gs, h6, h7⟩ := h
  refine ⟨GSl.of_at rdr_size h1 (Nat.le_trans hN.r (by decide)), ⟨.inr ⟨gf, 0, _, rfl, h2.lt, fun i hi => ?_⟩, hB.hfs, Nat.le_trans hN.f (by decide)⟩, JSl.of_at h4 h3 (Nat.le_trans hN.j (by decide)) h5 (fun i hi => ?_), PSl.of_at h6 (fun i hi => (h7 i hi).1) hB.hW (fun i hi => ?_) (Nat.le_trans hN.p (by decide))⟩
  · rw [Nat.zero_add]
    exact h2.cell (fl_get hi)
  · have := jsN_le (js := T.js) hi
    have hm : jsN T.js T.js.length ≤ maxLen := Nat.le_trans hN.jn (by decide)
    omega
  · have := psN_le (ps := T.ps) hi
    exact Nat.le_trans this (Nat.le_trans hN.pn (by decide))

theorem szFloat32S_any (a : Option Addr) (n cap : Nat) (hn : n ≤ maxLen) (left : Int) (hl : 0 ≤ left ∧ left ≤ 1048576) (w : World) :
    Calls Tryz.prog 22 #[.slice a n cap, .int .i64 left] w fun e w' => e = .returned (.int .i64 (if left < (n : Int) then -1 else left - (n : Int))) ∧ Below w.heap.size w w' := by
  have hm : n ≤ 9223372036854775807 := Nat.le_trans hn (by decide)
  have s1 : IntKind.i64.wrap (left - (n : Int)) = left - (n : Int) := IntWalk.i64_in _ (by omega)
  by_cases hb : left < (n : Int)
  · rw [if_pos hb]
    have h1 : left - (n : Int) < 0 := by omega
    go_enter Tryz.func22, Tryz.ntmps22
    go_wp2
    go_ret
    exact ⟨rfl, Below.refl _ _⟩
  · rw [if_neg hb]
    have h1 : ¬ left - (n : Int) < 0 := by omega
    go_enter Tryz.func22, Tryz.ntmps22
    go_wp2
    go_ret
    exact ⟨rfl, Below.refl _ _⟩

theorem FSl.any {w : World} {v : Value} {xs : List Nat} (h : FSl w v xs) : ∃ a cap, v = .slice a xs.length cap := by
  rcases h.val with ⟨rfl, a, cap, rfl⟩ | ⟨g, off, cap, rfl, -⟩
  · exact ⟨a, cap, rfl⟩
  · exact ⟨_, cap, rfl⟩

set_option maxHeartbeats 1000000 in
theorem szTown_any (T : Tn) (vr vf vj vp : Value) (left : Int) (hl : 0 ≤ left ∧ left ≤ 1048576) (w : World) (h : TIn w vr vf vj vp T) :
    Calls Tryz.prog 5 #[.agg (tnR T vr vf vj vp), .int .i64 left] w fun e w' => e = .returned (.int .i64 (szV left (tnN T : Int))) ∧ Below w.heap.size w w' := by
  have A0 := At.new w (tnR T vr vf vj vp) 28
  have B0 := Lib.hid (b0 w (.cells (tnR T vr vf vj vp) 28))
  obtain ⟨a0, c0, e0⟩ := h.r.any
  have K0 := fun w' (_ : Below w.heap.size w w') => szRoadS_any a0 T.rs.length c0 h.r.len (left) (by omega) w'
  simp only [← e0] at K0
  clear e0
  by_cases h0 : left < (T.rs.length : Int)
  · rw [szV_lt (by unfold tnN; omega)]
    simp only [if_pos h0] at K0
    clear h0
    go_enter Tryz.func5, Tryz.ntmps5
    go_wp2_with (((with_reducible refine is_load 22 _ rfl ?_); refine wpList_load_cell rfl 22 _ rfl _ 0 rfl (tnR T vr vf vj vp) _ (by with_reducible assumption) _ Tryz.underlying22 rfl (vr) (tnC_0 _ _ _ _ _ _ _) ?_))
    refine (K0 _ B0.out).mono ?_
    rintro e w1 ⟨rfl, hb1⟩
    have A1 := A0.step hb1
    have B1 := Lib.hid (bthen B0.out hb1)
    clear A0 B0 hb1 K0
    go_wp2_with fail
    go_ret
    exact ⟨rfl, B1.out⟩
  · have d0 : ¬ left - (T.rs.length : Int) < 0 := by omega
    simp only [if_neg h0] at K0
    obtain ⟨a1, c1, e1⟩ := h.f.any
    have K1 := fun w' (_ : Below w.heap.size w w') => szFloat32S_any a1 T.fs.length c1 h.f.len (left - (T.rs.length : Int)) (by omega) w'
    simp only [← e1] at K1
    clear e1
    by_cases h1 : left - (T.rs.length : Int) < (T.fs.length : Int)
    · rw [szV_lt (by unfold tnN; omega)]
      simp only [if_pos h1] at K1
      clear h0 h1
      go_enter Tryz.func5, Tryz.ntmps5
      go_wp2_with (((with_reducible refine is_load 22 _ rfl ?_); refine wpList_load_cell rfl 22 _ rfl _ 0 rfl (tnR T vr vf vj vp) _ (by with_reducible assumption) _ Tryz.underlying22 rfl (vr) (tnC_0 _ _ _ _ _ _ _) ?_))
      refine (K0 _ B0.out).mono ?_
      rintro e w1 ⟨rfl, hb1⟩
      have A1 := A0.step hb1
      have B1 := Lib.hid (bthen B0.out hb1)
      clear A0 B0 hb1 K0
      go_wp2_with (((with_reducible refine is_load 23 _ rfl ?_); refine wpList_load_cell rfl 23 _ rfl _ 1 rfl (tnR T vr vf vj vp) _ (by with_reducible assumption) _ Tryz.underlying23 rfl (vf) (tnC_1 _ _ _ _ _ _ _) ?_))
      refine (K1 _ B1.out).mono ?_
      rintro e w2 ⟨rfl, hb2⟩
      have A2 := A1.step hb2
      have B2 := Lib.hid (bthen B1.out hb2)
      clear A1 B1 hb2 K1
      go_wp2_with fail
      go_ret
      exact ⟨rfl, B2.out⟩
    · have d1 : ¬ left - (T.rs.length : Int) - (T.fs.length : Int) < 0 := by omega
      simp only [if_neg h1] at K1
      have K2 := fun w' (hb : Below w.heap.size w w') => szJointS_any vj T.js (left - (T.rs.length : Int) - (T.fs.length : Int)) (by omega) w' (h.j.step (Nat.le_refl _) hb)
      by_cases h2 : left - (T.rs.length : Int) - (T.fs.length : Int) < ((T.js.length : Int) + (jsN T.js T.js.length : Int))
      · rw [szV_lt (by unfold tnN; omega)]
        simp only [szV_lt h2] at K2
        clear h0 h1 h2
        go_enter Tryz.func5, Tryz.ntmps5
        go_wp2_with (((with_reducible refine is_load 22 _ rfl ?_); refine wpList_load_cell rfl 22 _ rfl _ 0 rfl (tnR T vr vf vj vp) _ (by with_reducible assumption) _ Tryz.underlying22 rfl (vr) (tnC_0 _ _ _ _ _ _ _) ?_))
        refine (K0 _ B0.out).mono ?_
        rintro e w1 ⟨rfl, hb1⟩
        have A1 := A0.step hb1
        have B1 := Lib.hid (bthen B0.out hb1)
        clear A0 B0 hb1 K0
        go_wp2_with (((with_reducible refine is_load 23 _ rfl ?_); refine wpList_load_cell rfl 23 _ rfl _ 1 rfl (tnR T vr vf vj vp) _ (by with_reducible assumption) _ Tryz.underlying23 rfl (vf) (tnC_1 _ _ _ _ _ _ _) ?_))
        refine (K1 _ B1.out).mono ?_
        rintro e w2 ⟨rfl, hb2⟩
        have A2 := A1.step hb2
        have B2 := Lib.hid (bthen B1.out hb2)
        clear A1 B1 hb2 K1
        go_wp2_with (((with_reducible refine is_load 24 _ rfl ?_); refine wpList_load_cell rfl 24 _ rfl _ 2 rfl (tnR T vr vf vj vp) _ (by with_reducible assumption) _ Tryz.underlying24 rfl (vj) (tnC_2 _ _ _ _ _ _ _) ?_))
        refine (K2 _ B2.out).mono ?_
        rintro e w3 ⟨rfl, hb3⟩
        have A3 := A2.step hb3
        have B3 := Lib.hid (bthen B2.out hb3)
        clear A2 B2 hb3 K2
        go_wp2_with fail
        go_ret
        exact ⟨rfl, B3.out⟩
      · have d2 : ¬ left - (T.rs.length : Int) - (T.fs.length : Int) - ((T.js.length : Int) + (jsN T.js T.js.length : Int)) < 0 := by omega
        simp only [szV_ge h2] at K2
        have K3 := fun w' (hb : Below w.heap.size w w') => szPlanS_any vp T.ps (left - (T.rs.length : Int) - (T.fs.length : Int) - ((T.js.length : Int) + (jsN T.js T.js.length : Int))) (by omega) w' (h.p.step (Nat.le_refl _) hb)
        by_cases h3 : left - (T.rs.length : Int) - (T.fs.length : Int) - ((T.js.length : Int) + (jsN T.js T.js.length : Int)) < ((T.ps.length : Int) + (psN T.ps T.ps.length : Int))
        · rw [szV_lt (by unfold tnN; omega)]
          simp only [szV_lt h3] at K3
          clear h0 h1 h2 h3
          go_enter Tryz.func5, Tryz.ntmps5
          go_wp2_with (((with_reducible refine is_load 22 _ rfl ?_); refine wpList_load_cell rfl 22 _ rfl _ 0 rfl (tnR T vr vf vj vp) _ (by with_reducible assumption) _ Tryz.underlying22 rfl (vr) (tnC_0 _ _ _ _ _ _ _) ?_))
          refine (K0 _ B0.out).mono ?_
          rintro e w1 ⟨rfl, hb1⟩
          have A1 := A0.step hb1
          have B1 := Lib.hid (bthen B0.out hb1)
          clear A0 B0 hb1 K0
          go_wp2_with (((with_reducible refine is_load 23 _ rfl ?_); refine wpList_load_cell rfl 23 _ rfl _ 1 rfl (tnR T vr vf vj vp) _ (by with_reducible assumption) _ Tryz.underlying23 rfl (vf) (tnC_1 _ _ _ _ _ _ _) ?_))
          refine (K1 _ B1.out).mono ?_
          rintro e w2 ⟨rfl, hb2⟩
          have A2 := A1.step hb2
          have B2 := Lib.hid (bthen B1.out hb2)
          clear A1 B1 hb2 K1
          go_wp2_with (((with_reducible refine is_load 24 _ rfl ?_); refine wpList_load_cell rfl 24 _ rfl _ 2 rfl (tnR T vr vf vj vp) _ (by with_reducible assumption) _ Tryz.underlying24 rfl (vj) (tnC_2 _ _ _ _ _ _ _) ?_))
          refine (K2 _ B2.out).mono ?_
          rintro e w3 ⟨rfl, hb3⟩
          have A3 := A2.step hb3
          have B3 := Lib.hid (bthen B2.out hb3)
          clear A2 B2 hb3 K2
          go_wp2_with (((with_reducible refine is_load 25 _ rfl ?_); refine wpList_load_cell rfl 25 _ rfl _ 3 rfl (tnR T vr vf vj vp) _ (by with_reducible assumption) _ Tryz.underlying25 rfl (vp) (tnC_3 _ _ _ _ _ _ _) ?_))
          refine (K3 _ B3.out).mono ?_
          rintro e w4 ⟨rfl, hb4⟩
          have A4 := A3.step hb4
          have B4 := Lib.hid (bthen B3.out hb4)
          clear A3 B3 hb4 K3
          go_wp2_with fail
          go_ret
          exact ⟨rfl, B4.out⟩
        · have d3 : ¬ left - (T.rs.length : Int) - (T.fs.length : Int) - ((T.js.length : Int) + (jsN T.js T.js.length : Int)) - ((T.ps.length : Int) + (psN T.ps T.ps.length : Int)) < 0 := by omega
          simp only [szV_ge h3] at K3
          rw [szV_ge (by unfold tnN; omega)]
          have he : left - (tnN T : Int) = left - (T.rs.length : Int) - (T.fs.length : Int) - ((T.js.length : Int) + (jsN T.js T.js.length : Int)) - ((T.ps.length : Int) + (psN T.ps T.ps.length : Int)) := by unfold tnN; omega
          rw [he]
          clear he h0 h1 h2 h3
          go_enter Tryz.func5, Tryz.ntmps5
          go_wp2_with (((with_reducible refine is_load 22 _ rfl ?_); refine wpList_load_cell rfl 22 _ rfl _ 0 rfl (tnR T vr vf vj vp) _ (by with_reducible assumption) _ Tryz.underlying22 rfl (vr) (tnC_0 _ _ _ _ _ _ _) ?_))
          refine (K0 _ B0.out).mono ?_
          rintro e w1 ⟨rfl, hb1⟩
          have A1 := A0.step hb1
          have B1 := Lib.hid (bthen B0.out hb1)
          clear A0 B0 hb1 K0
          go_wp2_with (((with_reducible refine is_load 23 _ rfl ?_); refine wpList_load_cell rfl 23 _ rfl _ 1 rfl (tnR T vr vf vj vp) _ (by with_reducible assumption) _ Tryz.underlying23 rfl (vf) (tnC_1 _ _ _ _ _ _ _) ?_))
          refine (K1 _ B1.out).mono ?_
          rintro e w2 ⟨rfl, hb2⟩
          have A2 := A1.step hb2
          have B2 := Lib.hid (bthen B1.out hb2)
          clear A1 B1 hb2 K1
          go_wp2_with (((with_reducible refine is_load 24 _ rfl ?_); refine wpList_load_cell rfl 24 _ rfl _ 2 rfl (tnR T vr vf vj vp) _ (by with_reducible assumption) _ Tryz.underlying24 rfl (vj) (tnC_2 _ _ _ _ _ _ _) ?_))
          refine (K2 _ B2.out).mono ?_
          rintro e w3 ⟨rfl, hb3⟩
          have A3 := A2.step hb3
          have B3 := Lib.hid (bthen B2.out hb3)
          clear A2 B2 hb3 K2
          go_wp2_with (((with_reducible refine is_load 25 _ rfl ?_); refine wpList_load_cell rfl 25 _ rfl _ 3 rfl (tnR T vr vf vj vp) _ (by with_reducible assumption) _ Tryz.underlying25 rfl (vp) (tnC_3 _ _ _ _ _ _ _) ?_))
          refine (K3 _ B3.out).mono ?_
          rintro e w4 ⟨rfl, hb4⟩
          have A4 := A3.step hb4
          have B4 := Lib.hid (bthen B3.out hb4)
          clear A3 B3 hb4 K3
          go_wp2_with fail
          go_ret
          exact ⟨rfl, B4.out⟩

set_option maxHeartbeats 2000000 in
theorem toTown_any (T : Tn) (vr vf vj vp : Value) (w : World) (h : TIn w vr vf vj vp T) (hN : TnN T) :
    Calls Tryz.prog 7 #[.agg (tnR T vr vf vj vp)] w fun e w' => ∃ Gr Gf Gj Gp, e = .returned (.agg (tnR T (slN Gr T.rs.length) (slN Gf T.fs.length) (slN Gj T.js.length) (slN Gp T.ps.length))) ∧ TOwn w' Gr Gf Gj Gp T ∧ Below w.heap.size w w' := by
  have A0 : At (((w.alloc (.cells (tnR T vr vf vj vp) 28)).alloc (.cells (#[.slice none 0 0, .slice none 0 0, .slice none 0 0, .slice none 0 0, .int .i64 0, .float .f32 0, .float .f32 0]) 37)).alloc (.cells (#[.slice none 0 0, .slice none 0 0, .slice none 0 0, .slice none 0 0, .int .i64 0, .float .f32 0, .float .f32 0]) 37)) w.heap.size (tnR T vr vf vj vp) 28 := ((At.new w _ _).alloc _).alloc _
  have R0 : At (((w.alloc (.cells (tnR T vr vf vj vp) 28)).alloc (.cells (#[.slice none 0 0, .slice none 0 0, .slice none 0 0, .slice none 0 0, .int .i64 0, .float .f32 0, .float .f32 0]) 37)).alloc (.cells (#[.slice none 0 0, .slice none 0 0, .slice none 0 0, .slice none 0 0, .int .i64 0, .float .f32 0, .float .f32 0]) 37)) (w.heap.size + 1) (#[.slice none 0 0, .slice none 0 0, .slice none 0 0, .slice none 0 0, .int .i64 0, .float .f32 0, .float .f32 0]) 37 := (At.last1 w _ _ _).alloc _
  have L0 : At (((w.alloc (.cells (tnR T vr vf vj vp) 28)).alloc (.cells (#[.slice none 0 0, .slice none 0 0, .slice none 0 0, .slice none 0 0, .int .i64 0, .float .f32 0, .float .f32 0]) 37)).alloc (.cells (#[.slice none 0 0, .slice none 0 0, .slice none 0 0, .slice none 0 0, .int .i64 0, .float .f32 0, .float .f32 0]) 37)) (w.heap.size + 1 + 1) (#[.slice none 0 0, .slice none 0 0, .slice none 0 0, .slice none 0 0, .int .i64 0, .float .f32 0, .float .f32 0]) 37 := by
    have := At.new ((w.alloc (.cells (tnR T vr vf vj vp) 28)).alloc (.cells (#[.slice none 0 0, .slice none 0 0, .slice none 0 0, .slice none 0 0, .int .i64 0, .float .f32 0, .float .f32 0]) 37)) (#[.slice none 0 0, .slice none 0 0, .slice none 0 0, .slice none 0 0, .int .i64 0, .float .f32 0, .float .f32 0]) 37
    rwa [World.size_alloc, World.size_alloc] at this
  have B0 := Lib.hid (bnew (bnew (b0 w (.cells (tnR T vr vf vj vp) 28)) (.cells (#[.slice none 0 0, .slice none 0 0, .slice none 0 0, .slice none 0 0, .int .i64 0, .float .f32 0, .float .f32 0]) 37)) (.cells (#[.slice none 0 0, .slice none 0 0, .slice none 0 0, .slice none 0 0, .int .i64 0, .float .f32 0, .float .f32 0]) 37))
  have KS := toRoadS_any vr T.rs _ (h.r.step (Nat.le_refl _) B0.out) hN.r
  obtain ⟨Gr, hGd⟩ : ∃ g, g = ((((w.alloc (.cells (tnR T vr vf vj vp) 28)).alloc (.cells (#[.slice none 0 0, .slice none 0 0, .slice none 0 0, .slice none 0 0, .int .i64 0, .float .f32 0, .float .f32 0]) 37)).alloc (.cells (#[.slice none 0 0, .slice none 0 0, .slice none 0 0, .slice none 0 0, .int .i64 0, .float .f32 0, .float .f32 0]) 37))).heap.size := ⟨_, rfl⟩
  rw [← hGd] at KS
  have hg0 : w.heap.size + 1 + 1 < Gr := by have := L0.lt; omega
  have HGd := Lib.hid hGd
  clear hGd
  go_enter Tryz.func7, Tryz.ntmps7
  go_wp2_with (first | ((with_reducible refine is_load 22 _ rfl ?_); refine wpList_load_cell rfl 22 _ rfl _ 0 rfl (tnR T vr vf vj vp) _ (by with_reducible assumption) _ Tryz.underlying22 rfl (vr) (tnC_0 _ _ _ _ _ _ _) ?_))
  refine KS.mono ?_
  rintro e w1 ⟨rfl, G1, hb1⟩
  rw [HGd.out] at hb1
  clear KS HGd
  have A1 := A0.step hb1
  have R1 := R0.step hb1
  have L1 := L0.step hb1
  have B1 := Lib.hid (bthen B0.out hb1)
  clear A0 R0 L0 B0 hb1
  have A2 := A1.setRow_other (k := w.heap.size + 1 + 1) (by omega) (tnC (slN Gr T.rs.length) (.slice none 0 0) (.slice none 0 0) (.slice none 0 0) 0 0 0)
  have R2 := R1.setRow_other (k := w.heap.size + 1 + 1) (by omega) (tnC (slN Gr T.rs.length) (.slice none 0 0) (.slice none 0 0) (.slice none 0 0) 0 0 0)
  have L2 := L1.setRow (tnC (slN Gr T.rs.length) (.slice none 0 0) (.slice none 0 0) (.slice none 0 0) 0 0 0)
  have G2 := G1.setRow_other (k := w.heap.size + 1 + 1) (by omega) (tnC (slN Gr T.rs.length) (.slice none 0 0) (.slice none 0 0) (.slice none 0 0) 0 0 0)
  have B2 := Lib.hid (bset B1.out (g := w.heap.size + 1 + 1) (by omega) (tnC (slN Gr T.rs.length) (.slice none 0 0) (.slice none 0 0) (.slice none 0 0) 0 0 0))
  have KS := toFloat32S_any vf T.fs (h.f.step (Nat.le_refl _) B2.out) hN.f
  obtain ⟨Gf, hGd⟩ : ∃ g, g = (w1.setRow (w.heap.size + 1 + 1) (tnC (slN Gr T.rs.length) (.slice none 0 0) (.slice none 0 0) (.slice none 0 0) 0 0 0)).heap.size := ⟨_, rfl⟩
  rw [← hGd] at KS
  have hg1 : w.heap.size + 1 + 1 < Gf := by have := L2.lt; omega
  have HGd := Lib.hid hGd
  clear hGd
  go_wp2_with (first | ((with_reducible refine is_load 23 _ rfl ?_); refine wpList_load_cell rfl 23 _ rfl _ 1 rfl (tnR T vr vf vj vp) _ (by with_reducible assumption) _ Tryz.underlying23 rfl (vf) (tnC_1 _ _ _ _ _ _ _) ?_) | ((with_reducible refine is_store 33 _ _ rfl ?_); refine wpList_store_cell rfl 33 _ _ rfl _ 0 rfl (slN Gr T.rs.length) rfl (#[.slice none 0 0, .slice none 0 0, .slice none 0 0, .slice none 0 0, .int .i64 0, .float .f32 0, .float .f32 0]) _ (by with_reducible assumption) (by decide) (by kernel_rfl) rfl (tnC (slN Gr T.rs.length) (.slice none 0 0) (.slice none 0 0) (.slice none 0 0) 0 0 0) (tnC_sz _) ?_))
  refine KS.mono ?_
  rintro e w2 ⟨rfl, H3, hb2⟩
  rw [HGd.out] at hb2
  clear KS HGd
  have A3 := A2.step hb2
  have R3 := R2.step hb2
  have L3 := L2.step hb2
  have G3 := G2.step hb2
  have B3 := Lib.hid (bthen B2.out hb2)
  clear A2 R2 L2 G2 B2 hb2
  have A4 := A3.setRow_other (k := w.heap.size + 1 + 1) (by omega) (tnC (slN Gr T.rs.length) (slN Gf T.fs.length) (.slice none 0 0) (.slice none 0 0) 0 0 0)
  have R4 := R3.setRow_other (k := w.heap.size + 1 + 1) (by omega) (tnC (slN Gr T.rs.length) (slN Gf T.fs.length) (.slice none 0 0) (.slice none 0 0) 0 0 0)
  have L4 := L3.setRow (tnC (slN Gr T.rs.length) (slN Gf T.fs.length) (.slice none 0 0) (.slice none 0 0) 0 0 0)
  have G4 := G3.setRow_other (k := w.heap.size + 1 + 1) (by omega) (tnC (slN Gr T.rs.length) (slN Gf T.fs.length) (.slice none 0 0) (.slice none 0 0) 0 0 0)
  have H4 := H3.setRow_other (k := w.heap.size + 1 + 1) (by omega) (tnC (slN Gr T.rs.length) (slN Gf T.fs.length) (.slice none 0 0) (.slice none 0 0) 0 0 0)
  have B4 := Lib.hid (bset B3.out (g := w.heap.size + 1 + 1) (by omega) (tnC (slN Gr T.rs.length) (slN Gf T.fs.length) (.slice none 0 0) (.slice none 0 0) 0 0 0))
  have KS := toJointS_any vj T.js _ (h.j.step (Nat.le_refl _) B4.out) hN.j hN.jn
  obtain ⟨Gj, hGd⟩ : ∃ g, g = (w2.setRow (w.heap.size + 1 + 1) (tnC (slN Gr T.rs.length) (slN Gf T.fs.length) (.slice none 0 0) (.slice none 0 0) 0 0 0)).heap.size := ⟨_, rfl⟩
  rw [← hGd] at KS
  have hg2 : w.heap.size + 1 + 1 < Gj := by have := L4.lt; omega
  have HGd := Lib.hid hGd
  clear hGd
  go_wp2_with (first | ((with_reducible refine is_load 24 _ rfl ?_); refine wpList_load_cell rfl 24 _ rfl _ 2 rfl (tnR T vr vf vj vp) _ (by with_reducible assumption) _ Tryz.underlying24 rfl (vj) (tnC_2 _ _ _ _ _ _ _) ?_) | ((with_reducible refine is_store 23 _ _ rfl ?_); refine wpList_store_cell rfl 23 _ _ rfl _ 1 rfl (slN Gf T.fs.length) rfl (tnC (slN Gr T.rs.length) (.slice none 0 0) (.slice none 0 0) (.slice none 0 0) 0 0 0) _ (by with_reducible assumption) (by rw [tnC_size]; omega) (by kernel_rfl) rfl (tnC (slN Gr T.rs.length) (slN Gf T.fs.length) (.slice none 0 0) (.slice none 0 0) 0 0 0) (tnC_s1 _ _ _ _ _ _ _ _) ?_))
  refine KS.mono ?_
  rintro e w3 ⟨rfl, ⟨ys, hyl, J5, JK5⟩, hb3⟩
  rw [HGd.out] at hb3
  clear KS HGd
  have A5 := A4.step hb3
  have R5 := R4.step hb3
  have L5 := L4.step hb3
  have G5 := G4.step hb3
  have H5 := H4.step hb3
  have B5 := Lib.hid (bthen B4.out hb3)
  clear A4 R4 L4 G4 H4 B4 hb3
  have A6 := A5.setRow_other (k := w.heap.size + 1 + 1) (by omega) (tnC (slN Gr T.rs.length) (slN Gf T.fs.length) (slN Gj T.js.length) (.slice none 0 0) 0 0 0)
  have R6 := R5.setRow_other (k := w.heap.size + 1 + 1) (by omega) (tnC (slN Gr T.rs.length) (slN Gf T.fs.length) (slN Gj T.js.length) (.slice none 0 0) 0 0 0)
  have L6 := L5.setRow (tnC (slN Gr T.rs.length) (slN Gf T.fs.length) (slN Gj T.js.length) (.slice none 0 0) 0 0 0)
  have G6 := G5.setRow_other (k := w.heap.size + 1 + 1) (by omega) (tnC (slN Gr T.rs.length) (slN Gf T.fs.length) (slN Gj T.js.length) (.slice none 0 0) 0 0 0)
  have H6 := H5.setRow_other (k := w.heap.size + 1 + 1) (by omega) (tnC (slN Gr T.rs.length) (slN Gf T.fs.length) (slN Gj T.js.length) (.slice none 0 0) 0 0 0)
  have J6 := J5.setRow_other (k := w.heap.size + 1 + 1) (by omega) (tnC (slN Gr T.rs.length) (slN Gf T.fs.length) (slN Gj T.js.length) (.slice none 0 0) 0 0 0)
  have JK6 := JK5.setRow_other (k := w.heap.size + 1 + 1) (by omega) (tnC (slN Gr T.rs.length) (slN Gf T.fs.length) (slN Gj T.js.length) (.slice none 0 0) 0 0 0)
  have B6 := Lib.hid (bset B5.out (g := w.heap.size + 1 + 1) (by omega) (tnC (slN Gr T.rs.length) (slN Gf T.fs.length) (slN Gj T.js.length) (.slice none 0 0) 0 0 0))
  have KS := toPlanS_any vp T.ps _ (h.p.step (Nat.le_refl _) B6.out) hN.p hN.pn
  obtain ⟨Gp, hGd⟩ : ∃ g, g = (w3.setRow (w.heap.size + 1 + 1) (tnC (slN Gr T.rs.length) (slN Gf T.fs.length) (slN Gj T.js.length) (.slice none 0 0) 0 0 0)).heap.size := ⟨_, rfl⟩
  rw [← hGd] at KS
  have hg3 : w.heap.size + 1 + 1 < Gp := by have := L6.lt; omega
  have HGd := Lib.hid hGd
  clear hGd
  go_wp2_with (first | ((with_reducible refine is_load 25 _ rfl ?_); refine wpList_load_cell rfl 25 _ rfl _ 3 rfl (tnR T vr vf vj vp) _ (by with_reducible assumption) _ Tryz.underlying25 rfl (vp) (tnC_3 _ _ _ _ _ _ _) ?_) | ((with_reducible refine is_store 34 _ _ rfl ?_); refine wpList_store_cell rfl 34 _ _ rfl _ 2 rfl (slN Gj T.js.length) rfl (tnC (slN Gr T.rs.length) (slN Gf T.fs.length) (.slice none 0 0) (.slice none 0 0) 0 0 0) _ (by with_reducible assumption) (by rw [tnC_size]; omega) (by kernel_rfl) rfl (tnC (slN Gr T.rs.length) (slN Gf T.fs.length) (slN Gj T.js.length) (.slice none 0 0) 0 0 0) (tnC_s2 _ _ _ _ _ _ _ _) ?_))
  refine KS.mono ?_
  rintro e w4 ⟨rfl, ⟨gs, P7, PK70, -⟩, hb4⟩
  have PK7 : PkOk w4 Gp gs T.ps := PK70
  clear PK70
  rw [HGd.out] at hb4
  clear KS HGd
  have A7 := A6.step hb4
  have R7 := R6.step hb4
  have L7 := L6.step hb4
  have G7 := G6.step hb4
  have H7 := H6.step hb4
  have J7 := J6.step hb4
  have JK7 := JK6.step hb4
  have B7 := Lib.hid (bthen B6.out hb4)
  clear A6 R6 L6 G6 H6 J6 JK6 B6 hb4
  have A8 := A7.setRow_other (k := w.heap.size + 1 + 1) (by omega) (tnC (slN Gr T.rs.length) (slN Gf T.fs.length) (slN Gj T.js.length) (slN Gp T.ps.length) 0 0 0)
  have R8 := R7.setRow_other (k := w.heap.size + 1 + 1) (by omega) (tnC (slN Gr T.rs.length) (slN Gf T.fs.length) (slN Gj T.js.length) (slN Gp T.ps.length) 0 0 0)
  have L8 := L7.setRow (tnC (slN Gr T.rs.length) (slN Gf T.fs.length) (slN Gj T.js.length) (slN Gp T.ps.length) 0 0 0)
  have G8 := G7.setRow_other (k := w.heap.size + 1 + 1) (by omega) (tnC (slN Gr T.rs.length) (slN Gf T.fs.length) (slN Gj T.js.length) (slN Gp T.ps.length) 0 0 0)
  have H8 := H7.setRow_other (k := w.heap.size + 1 + 1) (by omega) (tnC (slN Gr T.rs.length) (slN Gf T.fs.length) (slN Gj T.js.length) (slN Gp T.ps.length) 0 0 0)
  have J8 := J7.setRow_other (k := w.heap.size + 1 + 1) (by omega) (tnC (slN Gr T.rs.length) (slN Gf T.fs.length) (slN Gj T.js.length) (slN Gp T.ps.length) 0 0 0)
  have JK8 := JK7.setRow_other (k := w.heap.size + 1 + 1) (by omega) (tnC (slN Gr T.rs.length) (slN Gf T.fs.length) (slN Gj T.js.length) (slN Gp T.ps.length) 0 0 0)
  have P8 := P7.setRow_other (k := w.heap.size + 1 + 1) (by omega) (tnC (slN Gr T.rs.length) (slN Gf T.fs.length) (slN Gj T.js.length) (slN Gp T.ps.length) 0 0 0)
  have PK8 := PK7.setRow_other (k := w.heap.size + 1 + 1) (by omega) (tnC (slN Gr T.rs.length) (slN Gf T.fs.length) (slN Gj T.js.length) (slN Gp T.ps.length) 0 0 0)
  have B8 := Lib.hid (bset B7.out (g := w.heap.size + 1 + 1) (by omega) (tnC (slN Gr T.rs.length) (slN Gf T.fs.length) (slN Gj T.js.length) (slN Gp T.ps.length) 0 0 0))
  have A9 := A8.setRow_other (k := w.heap.size + 1 + 1) (by omega) (tnC (slN Gr T.rs.length) (slN Gf T.fs.length) (slN Gj T.js.length) (slN Gp T.ps.length) T.tk 0 0)
  have R9 := R8.setRow_other (k := w.heap.size + 1 + 1) (by omega) (tnC (slN Gr T.rs.length) (slN Gf T.fs.length) (slN Gj T.js.length) (slN Gp T.ps.length) T.tk 0 0)
  have L9 := L8.setRow (tnC (slN Gr T.rs.length) (slN Gf T.fs.length) (slN Gj T.js.length) (slN Gp T.ps.length) T.tk 0 0)
  have G9 := G8.setRow_other (k := w.heap.size + 1 + 1) (by omega) (tnC (slN Gr T.rs.length) (slN Gf T.fs.length) (slN Gj T.js.length) (slN Gp T.ps.length) T.tk 0 0)
  have H9 := H8.setRow_other (k := w.heap.size + 1 + 1) (by omega) (tnC (slN Gr T.rs.length) (slN Gf T.fs.length) (slN Gj T.js.length) (slN Gp T.ps.length) T.tk 0 0)
  have J9 := J8.setRow_other (k := w.heap.size + 1 + 1) (by omega) (tnC (slN Gr T.rs.length) (slN Gf T.fs.length) (slN Gj T.js.length) (slN Gp T.ps.length) T.tk 0 0)
  have JK9 := JK8.setRow_other (k := w.heap.size + 1 + 1) (by omega) (tnC (slN Gr T.rs.length) (slN Gf T.fs.length) (slN Gj T.js.length) (slN Gp T.ps.length) T.tk 0 0)
  have P9 := P8.setRow_other (k := w.heap.size + 1 + 1) (by omega) (tnC (slN Gr T.rs.length) (slN Gf T.fs.length) (slN Gj T.js.length) (slN Gp T.ps.length) T.tk 0 0)
  have PK9 := PK8.setRow_other (k := w.heap.size + 1 + 1) (by omega) (tnC (slN Gr T.rs.length) (slN Gf T.fs.length) (slN Gj T.js.length) (slN Gp T.ps.length) T.tk 0 0)
  have B9 := Lib.hid (bset B8.out (g := w.heap.size + 1 + 1) (by omega) (tnC (slN Gr T.rs.length) (slN Gf T.fs.length) (slN Gj T.js.length) (slN Gp T.ps.length) T.tk 0 0))
  have A10 := A9.setRow_other (k := w.heap.size + 1 + 1) (by omega) (tnC (slN Gr T.rs.length) (slN Gf T.fs.length) (slN Gj T.js.length) (slN Gp T.ps.length) T.tk T.ca 0)
  have R10 := R9.setRow_other (k := w.heap.size + 1 + 1) (by omega) (tnC (slN Gr T.rs.length) (slN Gf T.fs.length) (slN Gj T.js.length) (slN Gp T.ps.length) T.tk T.ca 0)
  have L10 := L9.setRow (tnC (slN Gr T.rs.length) (slN Gf T.fs.length) (slN Gj T.js.length) (slN Gp T.ps.length) T.tk T.ca 0)
  have G10 := G9.setRow_other (k := w.heap.size + 1 + 1) (by omega) (tnC (slN Gr T.rs.length) (slN Gf T.fs.length) (slN Gj T.js.length) (slN Gp T.ps.length) T.tk T.ca 0)
  have H10 := H9.setRow_other (k := w.heap.size + 1 + 1) (by omega) (tnC (slN Gr T.rs.length) (slN Gf T.fs.length) (slN Gj T.js.length) (slN Gp T.ps.length) T.tk T.ca 0)
  have J10 := J9.setRow_other (k := w.heap.size + 1 + 1) (by omega) (tnC (slN Gr T.rs.length) (slN Gf T.fs.length) (slN Gj T.js.length) (slN Gp T.ps.length) T.tk T.ca 0)
  have JK10 := JK9.setRow_other (k := w.heap.size + 1 + 1) (by omega) (tnC (slN Gr T.rs.length) (slN Gf T.fs.length) (slN Gj T.js.length) (slN Gp T.ps.length) T.tk T.ca 0)
  have P10 := P9.setRow_other (k := w.heap.size + 1 + 1) (by omega) (tnC (slN Gr T.rs.length) (slN Gf T.fs.length) (slN Gj T.js.length) (slN Gp T.ps.length) T.tk T.ca 0)
  have PK10 := PK9.setRow_other (k := w.heap.size + 1 + 1) (by omega) (tnC (slN Gr T.rs.length) (slN Gf T.fs.length) (slN Gj T.js.length) (slN Gp T.ps.length) T.tk T.ca 0)
  have B10 := Lib.hid (bset B9.out (g := w.heap.size + 1 + 1) (by omega) (tnC (slN Gr T.rs.length) (slN Gf T.fs.length) (slN Gj T.js.length) (slN Gp T.ps.length) T.tk T.ca 0))
  have A11 := A10.setRow_other (k := w.heap.size + 1 + 1) (by omega) (tnC (slN Gr T.rs.length) (slN Gf T.fs.length) (slN Gj T.js.length) (slN Gp T.ps.length) T.tk T.ca T.we)
  have R11 := R10.setRow_other (k := w.heap.size + 1 + 1) (by omega) (tnC (slN Gr T.rs.length) (slN Gf T.fs.length) (slN Gj T.js.length) (slN Gp T.ps.length) T.tk T.ca T.we)
  have L11 := L10.setRow (tnC (slN Gr T.rs.length) (slN Gf T.fs.length) (slN Gj T.js.length) (slN Gp T.ps.length) T.tk T.ca T.we)
  have G11 := G10.setRow_other (k := w.heap.size + 1 + 1) (by omega) (tnC (slN Gr T.rs.length) (slN Gf T.fs.length) (slN Gj T.js.length) (slN Gp T.ps.length) T.tk T.ca T.we)
  have H11 := H10.setRow_other (k := w.heap.size + 1 + 1) (by omega) (tnC (slN Gr T.rs.length) (slN Gf T.fs.length) (slN Gj T.js.length) (slN Gp T.ps.length) T.tk T.ca T.we)
  have J11 := J10.setRow_other (k := w.heap.size + 1 + 1) (by omega) (tnC (slN Gr T.rs.length) (slN Gf T.fs.length) (slN Gj T.js.length) (slN Gp T.ps.length) T.tk T.ca T.we)
  have JK11 := JK10.setRow_other (k := w.heap.size + 1 + 1) (by omega) (tnC (slN Gr T.rs.length) (slN Gf T.fs.length) (slN Gj T.js.length) (slN Gp T.ps.length) T.tk T.ca T.we)
  have P11 := P10.setRow_other (k := w.heap.size + 1 + 1) (by omega) (tnC (slN Gr T.rs.length) (slN Gf T.fs.length) (slN Gj T.js.length) (slN Gp T.ps.length) T.tk T.ca T.we)
  have PK11 := PK10.setRow_other (k := w.heap.size + 1 + 1) (by omega) (tnC (slN Gr T.rs.length) (slN Gf T.fs.length) (slN Gj T.js.length) (slN Gp T.ps.length) T.tk T.ca T.we)
  have B11 := Lib.hid (bset B10.out (g := w.heap.size + 1 + 1) (by omega) (tnC (slN Gr T.rs.length) (slN Gf T.fs.length) (slN Gj T.js.length) (slN Gp T.ps.length) T.tk T.ca T.we))
  have R12 := R11.setRow (tnC (slN Gr T.rs.length) (slN Gf T.fs.length) (slN Gj T.js.length) (slN Gp T.ps.length) T.tk T.ca T.we)
  have G12 := G11.setRow_other (k := w.heap.size + 1) (by omega) (tnC (slN Gr T.rs.length) (slN Gf T.fs.length) (slN Gj T.js.length) (slN Gp T.ps.length) T.tk T.ca T.we)
  have H12 := H11.setRow_other (k := w.heap.size + 1) (by omega) (tnC (slN Gr T.rs.length) (slN Gf T.fs.length) (slN Gj T.js.length) (slN Gp T.ps.length) T.tk T.ca T.we)
  have J12 := J11.setRow_other (k := w.heap.size + 1) (by omega) (tnC (slN Gr T.rs.length) (slN Gf T.fs.length) (slN Gj T.js.length) (slN Gp T.ps.length) T.tk T.ca T.we)
  have JK12 := JK11.setRow_other (k := w.heap.size + 1) (by omega) (tnC (slN Gr T.rs.length) (slN Gf T.fs.length) (slN Gj T.js.length) (slN Gp T.ps.length) T.tk T.ca T.we)
  have P12 := P11.setRow_other (k := w.heap.size + 1) (by omega) (tnC (slN Gr T.rs.length) (slN Gf T.fs.length) (slN Gj T.js.length) (slN Gp T.ps.length) T.tk T.ca T.we)
  have PK12 := PK11.setRow_other (k := w.heap.size + 1) (by omega) (tnC (slN Gr T.rs.length) (slN Gf T.fs.length) (slN Gj T.js.length) (slN Gp T.ps.length) T.tk T.ca T.we)
  have B12 := Lib.hid (bset B11.out (g := w.heap.size + 1) (by omega) (tnC (slN Gr T.rs.length) (slN Gf T.fs.length) (slN Gj T.js.length) (slN Gp T.ps.length) T.tk T.ca T.we))
  go_wp2_with (first | ((with_reducible refine is_store 35 _ _ rfl ?_); refine wpList_store_cell rfl 35 _ _ rfl _ 3 rfl (slN Gp T.ps.length) rfl (tnC (slN Gr T.rs.length) (slN Gf T.fs.length) (slN Gj T.js.length) (.slice none 0 0) 0 0 0) _ (by with_reducible assumption) (by rw [tnC_size]; omega) (by kernel_rfl) rfl (tnC (slN Gr T.rs.length) (slN Gf T.fs.length) (slN Gj T.js.length) (slN Gp T.ps.length) 0 0 0) (tnC_s3 _ _ _ _ _ _ _ _) ?_) | ((with_reducible refine is_load 2 _ rfl ?_); refine wpList_load_cell rfl 2 _ rfl _ 4 rfl (tnR T vr vf vj vp) _ (by with_reducible assumption) _ Tryz.underlying2 rfl (.int .i64 T.tk) (tnC_4 _ _ _ _ _ _ _) ?_) | ((with_reducible refine is_store 2 _ _ rfl ?_); refine wpList_store_cell rfl 2 _ _ rfl _ 4 rfl (.int .i64 T.tk) rfl (tnC (slN Gr T.rs.length) (slN Gf T.fs.length) (slN Gj T.js.length) (slN Gp T.ps.length) 0 0 0) _ (by with_reducible assumption) (by rw [tnC_size]; omega) (by kernel_rfl) rfl (tnC (slN Gr T.rs.length) (slN Gf T.fs.length) (slN Gj T.js.length) (slN Gp T.ps.length) T.tk 0 0) (tnC_s4 _ _ _ _ _ _ _ _) ?_) | ((with_reducible refine is_load 26 _ rfl ?_); refine wpList_load_cell rfl 26 _ rfl _ 5 rfl (tnR T vr vf vj vp) _ (by with_reducible assumption) _ Tryz.underlying26 rfl (.float .f32 T.ca) (tnC_5 _ _ _ _ _ _ _) ?_) | ((with_reducible refine is_store 26 _ _ rfl ?_); refine wpList_store_cell rfl 26 _ _ rfl _ 5 rfl (.float .f32 T.ca) rfl (tnC (slN Gr T.rs.length) (slN Gf T.fs.length) (slN Gj T.js.length) (slN Gp T.ps.length) T.tk 0 0) _ (by with_reducible assumption) (by rw [tnC_size]; omega) (by kernel_rfl) rfl (tnC (slN Gr T.rs.length) (slN Gf T.fs.length) (slN Gj T.js.length) (slN Gp T.ps.length) T.tk T.ca 0) (tnC_s5 _ _ _ _ _ _ _ _) ?_) | ((with_reducible refine is_load 26 _ rfl ?_); refine wpList_load_cell rfl 26 _ rfl _ 6 rfl (tnR T vr vf vj vp) _ (by with_reducible assumption) _ Tryz.underlying26 rfl (.float .f32 T.we) (tnC_6 _ _ _ _ _ _ _) ?_) | ((with_reducible refine is_store 26 _ _ rfl ?_); refine wpList_store_cell rfl 26 _ _ rfl _ 6 rfl (.float .f32 T.we) rfl (tnC (slN Gr T.rs.length) (slN Gf T.fs.length) (slN Gj T.js.length) (slN Gp T.ps.length) T.tk T.ca 0) _ (by with_reducible assumption) (by rw [tnC_size]; omega) (by kernel_rfl) rfl (tnC (slN Gr T.rs.length) (slN Gf T.fs.length) (slN Gj T.js.length) (slN Gp T.ps.length) T.tk T.ca T.we) (tnC_s6 _ _ _ _ _ _ _ _) ?_) | ((with_reducible refine is_load 37 _ rfl ?_); refine wpList_load_at rfl 37 _ rfl _ rfl (tnC (slN Gr T.rs.length) (slN Gf T.fs.length) (slN Gj T.js.length) (slN Gp T.ps.length) T.tk T.ca T.we) _ (by with_reducible assumption) 7 (tnC_size _ _ _ _ _ _ _) _ Tryz.underlying37 rfl (by kernel_rfl) ?_) | ((with_reducible refine is_store 37 _ _ rfl ?_); refine wpList_store_at rfl 37 _ _ rfl _ rfl (tnC (slN Gr T.rs.length) (slN Gf T.fs.length) (slN Gj T.js.length) (slN Gp T.ps.length) T.tk T.ca T.we) rfl (#[.slice none 0 0, .slice none 0 0, .slice none 0 0, .slice none 0 0, .int .i64 0, .float .f32 0, .float .f32 0]) _ (by with_reducible assumption) 7 (tnC_size _ _ _ _ _ _ _) (rfl) (by kernel_rfl) (tnC_one _ _ _ _ _ _ _ rfl rfl rfl rfl) ?_))
  exact bodyPost_ret (v := .agg (tnC (slN Gr T.rs.length) (slN Gf T.fs.length) (slN Gj T.js.length) (slN Gp T.ps.length) T.tk T.ca T.we)) (results_at (p := 2) (ty := 37) rfl _ _ _ (tnC (slN Gr T.rs.length) (slN Gf T.fs.length) (slN Gj T.js.length) (slN Gp T.ps.length) T.tk T.ca T.we) _ rfl R12 _ Tryz.underlying37 rfl 7 (tnC_size _ _ _ _ _ _ _) (by kernel_rfl)) rfl ⟨_, _, _, _, rfl, ⟨G12, H12, ⟨ys, hyl, J12, JK12⟩, gs, P12, PK12⟩, B12.out⟩

set_option maxHeartbeats 2000000 in
theorem eqTown_st (T : Tn) (a1 b1 c1 d1 a2 b2 c2 d2 : Nat) (w : World) (h1 : TOwn w a1 b1 c1 d1 T) (h2 : TOwn w a2 b2 c2 d2 T) (hN : TnN T) (hB : TnB T) :
    Calls Tryz.prog 10 #[.agg (tnR T (slN a1 T.rs.length) (slN b1 T.fs.length) (slN c1 T.js.length) (slN d1 T.ps.length)), .agg (tnR T (slN a2 T.rs.length) (slN b2 T.fs.length) (slN c2 T.js.length) (slN d2 T.ps.length))] w fun e w' => e = .returned (.bool true) ∧ Below w.heap.size w w' := by
  have A0 : At ((w.alloc (.cells (tnR T (slN a1 T.rs.length) (slN b1 T.fs.length) (slN c1 T.js.length) (slN d1 T.ps.length)) 37)).alloc (.cells (tnR T (slN a2 T.rs.length) (slN b2 T.fs.length) (slN c2 T.js.length) (slN d2 T.ps.length)) 37)) w.heap.size (tnR T (slN a1 T.rs.length) (slN b1 T.fs.length) (slN c1 T.js.length) (slN d1 T.ps.length)) 37 := (At.new w _ _).alloc _
  have C0 : At ((w.alloc (.cells (tnR T (slN a1 T.rs.length) (slN b1 T.fs.length) (slN c1 T.js.length) (slN d1 T.ps.length)) 37)).alloc (.cells (tnR T (slN a2 T.rs.length) (slN b2 T.fs.length) (slN c2 T.js.length) (slN d2 T.ps.length)) 37)) (w.heap.size + 1) (tnR T (slN a2 T.rs.length) (slN b2 T.fs.length) (slN c2 T.js.length) (slN d2 T.ps.length)) 37 := At.last1 w _ _ _
  have B0 := Lib.hid (bnew (b0 w (.cells (tnR T (slN a1 T.rs.length) (slN b1 T.fs.length) (slN c1 T.js.length) (slN d1 T.ps.length)) 37)) (.cells (tnR T (slN a2 T.rs.length) (slN b2 T.fs.length) (slN c2 T.js.length) (slN d2 T.ps.length)) 37))
  have I1 := h1.toIn hN hB
  have I2 := h2.toIn hN hB
  have hf1 := h1.f
  have hf2 := h2.f
  have hpn := fun k (hk : k < T.ps.length) => Nat.le_trans (psN_le (ps := T.ps) hk) hN.pn
  clear h1 h2
  have KS := eqRoadS_st _ _ T.rs _ (I1.r.step (Nat.le_refl _) B0.out) (I2.r.step (Nat.le_refl _) B0.out) hN.r
  go_enter Tryz.func10, Tryz.ntmps10
  go_wp2_with (first | ((with_reducible refine is_load 33 _ rfl ?_); refine wpList_load_cell rfl 33 _ rfl _ 0 rfl (tnR T (slN a1 T.rs.length) (slN b1 T.fs.length) (slN c1 T.js.length) (slN d1 T.ps.length)) _ (by with_reducible assumption) _ Tryz.underlying33 rfl (slN a1 T.rs.length) (tnC_0 _ _ _ _ _ _ _) ?_) | ((with_reducible refine is_load 33 _ rfl ?_); refine wpList_load_cell rfl 33 _ rfl _ 0 rfl (tnR T (slN a2 T.rs.length) (slN b2 T.fs.length) (slN c2 T.js.length) (slN d2 T.ps.length)) _ (by with_reducible assumption) _ Tryz.underlying33 rfl (slN a2 T.rs.length) (tnC_0 _ _ _ _ _ _ _) ?_))
  refine KS.mono ?_
  rintro e w1 ⟨rfl, hb1⟩
  have A1 := A0.step hb1
  have C1 := C0.step hb1
  have B1 := Lib.hid (bthen B0.out hb1)
  clear A0 C0 B0 hb1 KS
  have KS := eqFloat32S_same b1 b2 T.fs hB.hfs hN.f _ _ _ (hf1.step B1.out) (hf2.step B1.out)
  go_wp2_with (first | ((with_reducible refine is_load 23 _ rfl ?_); refine wpList_load_cell rfl 23 _ rfl _ 1 rfl (tnR T (slN a1 T.rs.length) (slN b1 T.fs.length) (slN c1 T.js.length) (slN d1 T.ps.length)) _ (by with_reducible assumption) _ Tryz.underlying23 rfl (slN b1 T.fs.length) (tnC_1 _ _ _ _ _ _ _) ?_) | ((with_reducible refine is_load 23 _ rfl ?_); refine wpList_load_cell rfl 23 _ rfl _ 1 rfl (tnR T (slN a2 T.rs.length) (slN b2 T.fs.length) (slN c2 T.js.length) (slN d2 T.ps.length)) _ (by with_reducible assumption) _ Tryz.underlying23 rfl (slN b2 T.fs.length) (tnC_1 _ _ _ _ _ _ _) ?_))
  refine KS.mono ?_
  rintro e w2 ⟨rfl, hb2⟩
  have A2 := A1.step hb2
  have C2 := C1.step hb2
  have B2 := Lib.hid (bthen B1.out hb2)
  clear A1 C1 B1 hb2 KS
  have KS := eqJointS_st _ _ T.js hN.j hN.jn _ (I1.j.step (Nat.le_refl _) B2.out) (I2.j.step (Nat.le_refl _) B2.out)
  go_wp2_with (first | ((with_reducible refine is_load 34 _ rfl ?_); refine wpList_load_cell rfl 34 _ rfl _ 2 rfl (tnR T (slN a1 T.rs.length) (slN b1 T.fs.length) (slN c1 T.js.length) (slN d1 T.ps.length)) _ (by with_reducible assumption) _ Tryz.underlying34 rfl (slN c1 T.js.length) (tnC_2 _ _ _ _ _ _ _) ?_) | ((with_reducible refine is_load 34 _ rfl ?_); refine wpList_load_cell rfl 34 _ rfl _ 2 rfl (tnR T (slN a2 T.rs.length) (slN b2 T.fs.length) (slN c2 T.js.length) (slN d2 T.ps.length)) _ (by with_reducible assumption) _ Tryz.underlying34 rfl (slN c2 T.js.length) (tnC_2 _ _ _ _ _ _ _) ?_))
  refine KS.mono ?_
  rintro e w3 ⟨rfl, hb3⟩
  have A3 := A2.step hb3
  have C3 := C2.step hb3
  have B3 := Lib.hid (bthen B2.out hb3)
  clear A2 C2 B2 hb3 KS
  have KS := eqPlanS_st _ _ T.ps hN.p hpn _ (I1.p.step (Nat.le_refl _) B3.out) (I2.p.step (Nat.le_refl _) B3.out)
  go_wp2_with (first | ((with_reducible refine is_load 35 _ rfl ?_); refine wpList_load_cell rfl 35 _ rfl _ 3 rfl (tnR T (slN a1 T.rs.length) (slN b1 T.fs.length) (slN c1 T.js.length) (slN d1 T.ps.length)) _ (by with_reducible assumption) _ Tryz.underlying35 rfl (slN d1 T.ps.length) (tnC_3 _ _ _ _ _ _ _) ?_) | ((with_reducible refine is_load 35 _ rfl ?_); refine wpList_load_cell rfl 35 _ rfl _ 3 rfl (tnR T (slN a2 T.rs.length) (slN b2 T.fs.length) (slN c2 T.js.length) (slN d2 T.ps.length)) _ (by with_reducible assumption) _ Tryz.underlying35 rfl (slN d2 T.ps.length) (tnC_3 _ _ _ _ _ _ _) ?_))
  refine KS.mono ?_
  rintro e w4 ⟨rfl, hb4⟩
  have A4 := A3.step hb4
  have C4 := C3.step hb4
  have B4 := Lib.hid (bthen B3.out hb4)
  clear A3 C3 B3 hb4 KS
  have q1 := A4.cell (tnC_4 _ _ _ _ _ _ _)
  have q2 := C4.cell (tnC_4 _ _ _ _ _ _ _)
  obtain ⟨X1, n1, e1, x1⟩ := wide_agr hB.hca (w4)
  have r1 : (w4).cell? ⟨w.heap.size, 5, none⟩ = some (.float .f32 T.ca) := A4.cell (tnC_5 _ _ _ _ _ _ _)
  obtain ⟨X2, n2, e2, x2⟩ := wide_agr hB.hca (w4.drewN (n1))
  have r2 : (w4.drewN (n1)).cell? ⟨w.heap.size + 1, 5, none⟩ = some (.float .f32 T.ca) := C4.cell (tnC_5 _ _ _ _ _ _ _)
  obtain ⟨X3, n3, e3, x3⟩ := wide_agr hB.hwe (w4.drewN (n1 + n2))
  have r3 : (w4.drewN (n1 + n2)).cell? ⟨w.heap.size, 6, none⟩ = some (.float .f32 T.we) := A4.cell (tnC_6 _ _ _ _ _ _ _)
  obtain ⟨X4, n4, e4, x4⟩ := wide_agr hB.hwe (w4.drewN (n1 + n2 + n3))
  have r4 : (w4.drewN (n1 + n2 + n3)).cell? ⟨w.heap.size + 1, 6, none⟩ = some (.float .f32 T.we) := C4.cell (tnC_6 _ _ _ _ _ _ _)
  have hB4 := Lib.hid (bdrew B4.out (n1 + n2 + n3 + n4))
  clear A4 C4 B4
  have s1 := fun w' => sameFloat_agr (Agr.selfJ hB.hca) x1 x2 w'
  have s2 := fun w' => sameFloat_agr (Agr.selfJ hB.hwe) x3 x4 w'
  clear x1 x2 x3 x4 hB I1 I2 hf1 hf2 hpn hN
  go_wp2_with (go_at_call 38; refine Calls.mono (by with_reducible first | exact s1 _ | exact s2 _) ?_; rintro e w' ⟨rfl, rfl⟩)
  go_ret
  exact ⟨rfl, hB4.out⟩

end Go.Proofs.YtboahhipobcabaaGreat
