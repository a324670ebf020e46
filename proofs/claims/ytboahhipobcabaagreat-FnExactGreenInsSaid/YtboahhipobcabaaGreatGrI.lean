/-
  CONTRACTS: GreenIns, the program.
-/
import Derived.Test.YtboahhipobcabaaGreatGoers
import Derived.Test.YtboahhipobcabaaGreatTnP
namespace Go.Proofs.YtboahhipobcabaaGreat
open Go Go.ChangeShapes Go.WideShapes Go.ChangeAt Go.RowKit
set_option maxRecDepth 100000

/-- all is as it was, but one block -/
structure ExG (gu : Nat) (W w : World) : Prop where
  os : w.os = W.os
  tape : w.tape = W.tape
  output : w.output = W.output
  size : W.heap.size ≤ w.heap.size
  block : ∀ k, k < W.heap.size → k ≠ gu → w.heap[k]? = W.heap[k]?

theorem ExG.step {gu : Nat} {W w w' : World} (h : ExG gu W w) (hb : Below w.heap.size w w') : ExG gu W w' :=
  ⟨hb.1.trans h.1, hb.2.trans h.2, hb.3.trans h.3, Nat.le_trans h.4 hb.size, fun k hk hn => (hb.block k (Nat.lt_of_lt_of_le hk h.4)).trans (h.5 k hk hn)⟩

theorem ExG.refl (gu : Nat) (W : World) : ExG gu W W := ⟨rfl, rfl, rfl, Nat.le_refl _, fun _ _ _ => rfl⟩

theorem ExG.set {gu : Nat} {W w : World} (h : ExG gu W w) (c : Array Value) : ExG gu W (w.setRow gu c) := by
  have hb := Below.setRow (Below.refl 0 w) (Nat.zero_le gu) c
  exact ⟨hb.1.trans h.1, hb.2.trans h.2, hb.3.trans h.3, Nat.le_trans h.4 hb.size, fun k hk hn => (heap_setRow_other w gu k c hn).trans (h.5 k hk hn)⟩

theorem ExG.at {gu : Nat} {W w : World} (h : ExG gu W w) {g : Nat} {c : Array Value} {T : TypeId} (hA : At W g c T) (hn : g ≠ gu) : At w g c T := (h.5 g hA.lt hn).trans hA

theorem ExG.below {gu B : Nat} {w0 W w : World} (h : ExG gu W w) (hb : Below B w0 W) (hg : B ≤ gu) (hz : w0.heap.size ≤ w0.heap.size) (hB : B ≤ w0.heap.size) : Below B w0 w := by
  refine ⟨h.1.trans hb.1, h.2.trans hb.2, h.3.trans hb.3, ?_, fun k hk => (h.5 k ?_ (by omega)).trans (hb.block k hk)⟩
  · have := hb.size
    have := h.4
    omega
  · have := hb.size
    omega
theorem run_store_row {P : Program} (ty : TypeId) {w : World} {g n : Nat} {old c : Array Value} {T : TypeId} (hA : At w g old T) (hn : c.size = n) (ho : old.size = n) (hi : (P.info? ty).map (·.size) = some n) (h1 : c.all (·.oneCell') = true) : (Instr.storeAt ty (.pointer (some ⟨g, 0, none⟩)) (.agg c)).run P w = .ok () (w.setRow g c) := by
  have := run_storeAt_part (P := P) w g 0 T ty old c hA (by rw [hn]; exact hi) (by omega) h1
  rwa [splice_all (by omega)] at this

/-- which phases have green at a joint in a town's tick -/
def grJ (T : Tn) (j : Jt) : List Bool := if j.p = -1 then List.replicate 8 true else (atS (pB T.ps j.p.toNat) (pS T.ps j.p.toNat) ((T.tk - pO T.ps j.p.toNat) % cyc (pS T.ps j.p.toNat) (pB T.ps j.p.toNat))).1

def goJ (T : Tn) (k : Nat) : List Bool := cp4 (grJ T (fe zJ T.js k)) (fe zJ T.js k).ns.length

def jcT (T : Tn) (x : Int) : Int := if validT T then (if ixB T.js.length x then 0 else 2) else 1

def vGI (T : Tn) (x : Int) : List Bool × Int := if jcT T x = 0 then (goJ T x.toNat, 0) else (noes 4, jcT T x)

/-- what is known of a joint of a valid town -/
structure JF (T : Tn) (j : Jt) : Prop where
  hi : j.i = (j.ns.length : Int)
  h1 : 1 ≤ j.ns.length
  h4 : j.ns.length ≤ 4
  hp : j.p = -1 ∨ ∃ m : Nat, j.p = (m : Int) ∧ m < T.ps.length ∧ okP (pS T.ps m) (pB T.ps m) (pO T.ps m) = true
  ht : 0 ≤ T.tk ∧ T.tk ≤ 1000000000

theorem JF.of {T : Tn} (h : validT T = true) {k : Nat} (hk : k < T.js.length) : JF T (fe zJ T.js k) := by
  unfold validT jointsV at h
  simp only [Bool.and_eq_true] at h
  obtain ⟨⟨⟨⟨⟨⟨-, hj⟩, hpl⟩, -⟩, htk⟩, -⟩, -⟩ := h
  have hv := allN_iff.1 hj.2.1 k hk
  unfold jointV okJt okJ armsV at hv
  simp only [Bool.and_eq_true, decide_eq_true_eq, Bool.or_eq_true] at hv
  obtain ⟨⟨⟨hok, hns⟩, -⟩, hp⟩ := hv
  have hin : inB 1 4 (fe zJ T.js k).i = true := hok.1.1.1
  unfold inB at hin htk
  simp only [decide_eq_true_eq] at hin htk
  have hi := hns.1
  refine ⟨hi.symm, by omega, by omega, ?_, by omega⟩
  rcases hp with hp | hp
  · exact .inl hp
  · unfold ixB at hp
    simp only [decide_eq_true_eq] at hp
    refine .inr ⟨(fe zJ T.js k).p.toNat, by omega, by omega, ?_⟩
    exact allN_iff.1 hpl.2 _ (by omega)

theorem grJ_len {T : Tn} (hW : ∀ i, i < T.ps.length → SlW (pS T.ps i)) {j : Jt} (h : JF T j) : (grJ T j).length = 8 := by
  unfold grJ
  rcases h.hp with hp | ⟨m, hp, hm, -⟩
  · rw [if_pos hp]; rfl
  · rw [if_neg (by omega), hp, Int.toNat_natCast]
    exact atS_len (hW m hm)


set_option maxHeartbeats 1000000 in
theorem refusalOfJoint_own (T : Tn) (gr gf gj gp : Nat) (x : Int) (hN : TnN T) (hB : TnB T) (w : World) (hT : TOwn w gr gf gj gp T) :
    Calls Tryz.prog 31 #[.agg (tnR T (slN gr T.rs.length) (slN gf T.fs.length) (slN gj T.js.length) (slN gp T.ps.length)), .int .i64 x] w fun e w' => e = .returned (.int .i64 (jcT T x)) ∧ Below w.heap.size w w' := by
  show Calls Tryz.prog 31 #[.agg (tnC (.slice (some ⟨gr, 0, none⟩) T.rs.length T.rs.length) (.slice (some ⟨gf, 0, none⟩) T.fs.length T.fs.length) (.slice (some ⟨gj, 0, none⟩) T.js.length T.js.length) (.slice (some ⟨gp, 0, none⟩) T.ps.length T.ps.length) T.tk T.ca T.we), .int .i64 x] w _
  have A0 := At.new w (tnC (.slice (some ⟨gr, 0, none⟩) T.rs.length T.rs.length) (.slice (some ⟨gf, 0, none⟩) T.fs.length T.fs.length) (.slice (some ⟨gj, 0, none⟩) T.js.length T.js.length) (.slice (some ⟨gp, 0, none⟩) T.ps.length T.ps.length) T.tk T.ca T.we) 37
  have B0 := Lib.hid (b0 w (.cells (tnC (.slice (some ⟨gr, 0, none⟩) T.rs.length T.rs.length) (.slice (some ⟨gf, 0, none⟩) T.fs.length T.fs.length) (.slice (some ⟨gj, 0, none⟩) T.js.length T.js.length) (.slice (some ⟨gp, 0, none⟩) T.ps.length T.ps.length) T.tk T.ca T.we) 37))
  have KV : Calls _ _ #[.agg (tnC (.slice (some ⟨gr, 0, none⟩) T.rs.length T.rs.length) (.slice (some ⟨gf, 0, none⟩) T.fs.length T.fs.length) (.slice (some ⟨gj, 0, none⟩) T.js.length T.js.length) (.slice (some ⟨gp, 0, none⟩) T.ps.length T.ps.length) T.tk T.ca T.we)] _ _ := ValidTown_own T gr gf gj gp hN hB _ (hT.step (b0 w (.cells (tnC (.slice (some ⟨gr, 0, none⟩) T.rs.length T.rs.length) (.slice (some ⟨gf, 0, none⟩) T.fs.length T.fs.length) (.slice (some ⟨gj, 0, none⟩) T.js.length T.js.length) (.slice (some ⟨gp, 0, none⟩) T.ps.length T.ps.length) T.tk T.ca T.we) 37)))
  have KX := fun w' => isIndex_b x T.js.length hN.j w'
  unfold jcT
  clear hT
  cases hv : validT T
  · rw [hv] at KV
    go_enter Tryz.func31, Tryz.ntmps31
    go_wp2_with (((with_reducible refine is_load 37 _ rfl ?_); refine wpList_load_at rfl 37 _ rfl _ rfl (tnC (.slice (some ⟨gr, 0, none⟩) T.rs.length T.rs.length) (.slice (some ⟨gf, 0, none⟩) T.fs.length T.fs.length) (.slice (some ⟨gj, 0, none⟩) T.js.length T.js.length) (.slice (some ⟨gp, 0, none⟩) T.ps.length T.ps.length) T.tk T.ca T.we) _ (by with_reducible assumption) 7 (rfl) _ Tryz.underlying37 rfl (by kernel_rfl) ?_))
    refine KV.mono ?_
    rintro e w1 ⟨rfl, hb1⟩
    go_wp2_with fail
    go_ret
    exact ⟨rfl, bthen B0.out hb1⟩
  · rw [hv] at KV
    cases hx : ixB T.js.length x
    · rw [hx] at KX
      go_enter Tryz.func31, Tryz.ntmps31
      go_wp2_with (((with_reducible refine is_load 37 _ rfl ?_); refine wpList_load_at rfl 37 _ rfl _ rfl (tnC (.slice (some ⟨gr, 0, none⟩) T.rs.length T.rs.length) (.slice (some ⟨gf, 0, none⟩) T.fs.length T.fs.length) (.slice (some ⟨gj, 0, none⟩) T.js.length T.js.length) (.slice (some ⟨gp, 0, none⟩) T.ps.length T.ps.length) T.tk T.ca T.we) _ (by with_reducible assumption) 7 (rfl) _ Tryz.underlying37 rfl (by kernel_rfl) ?_))
      refine KV.mono ?_
      rintro e w1 ⟨rfl, hb1⟩
      have A1 := A0.step hb1
      have B1 := Lib.hid (bthen B0.out hb1)
      clear A0 B0 hb1 KV
      go_wp2_with (((with_reducible refine is_load 34 _ rfl ?_); refine wpList_load_cell rfl 34 _ rfl _ 2 rfl (tnC (.slice (some ⟨gr, 0, none⟩) T.rs.length T.rs.length) (.slice (some ⟨gf, 0, none⟩) T.fs.length T.fs.length) (.slice (some ⟨gj, 0, none⟩) T.js.length T.js.length) (.slice (some ⟨gp, 0, none⟩) T.ps.length T.ps.length) T.tk T.ca T.we) _ (by with_reducible assumption) _ Tryz.underlying34 rfl (.slice (some ⟨gj, 0, none⟩) T.js.length T.js.length) (tnC_2 _ _ _ _ _ _ _) ?_))
      refine (KX _).mono ?_
      rintro e w2 ⟨rfl, m2, rfl⟩
      go_wp2_with fail
      go_ret
      exact ⟨rfl, bdrew B1.out _⟩
    · rw [hx] at KX
      go_enter Tryz.func31, Tryz.ntmps31
      go_wp2_with (((with_reducible refine is_load 37 _ rfl ?_); refine wpList_load_at rfl 37 _ rfl _ rfl (tnC (.slice (some ⟨gr, 0, none⟩) T.rs.length T.rs.length) (.slice (some ⟨gf, 0, none⟩) T.fs.length T.fs.length) (.slice (some ⟨gj, 0, none⟩) T.js.length T.js.length) (.slice (some ⟨gp, 0, none⟩) T.ps.length T.ps.length) T.tk T.ca T.we) _ (by with_reducible assumption) 7 (rfl) _ Tryz.underlying37 rfl (by kernel_rfl) ?_))
      refine KV.mono ?_
      rintro e w1 ⟨rfl, hb1⟩
      have A1 := A0.step hb1
      have B1 := Lib.hid (bthen B0.out hb1)
      clear A0 B0 hb1 KV
      go_wp2_with (((with_reducible refine is_load 34 _ rfl ?_); refine wpList_load_cell rfl 34 _ rfl _ 2 rfl (tnC (.slice (some ⟨gr, 0, none⟩) T.rs.length T.rs.length) (.slice (some ⟨gf, 0, none⟩) T.fs.length T.fs.length) (.slice (some ⟨gj, 0, none⟩) T.js.length T.js.length) (.slice (some ⟨gp, 0, none⟩) T.ps.length T.ps.length) T.tk T.ca T.we) _ (by with_reducible assumption) _ Tryz.underlying34 rfl (.slice (some ⟨gj, 0, none⟩) T.js.length T.js.length) (tnC_2 _ _ _ _ _ _ _) ?_))
      refine (KX _).mono ?_
      rintro e w2 ⟨rfl, m2, rfl⟩
      go_wp2_with fail
      go_ret
      exact ⟨rfl, bdrew B1.out _⟩

theorem goers_joint (T : Tn) (gr gf gj gp : Nat) (hN : TnN T) (hB : TnB T) (w : World) (hT : TOwn w gr gf gj gp T) (k : Nat) (hF : JF T (fe zJ T.js k)) (g h : Nat) :
    ∃ cv : Value, (∀ w', Below w.heap.size w w' → Calls Tryz.prog 33 #[.agg (tnC (.slice (some ⟨gr, 0, none⟩) T.rs.length T.rs.length) (.slice (some ⟨gf, 0, none⟩) T.fs.length T.fs.length) (.slice (some ⟨gj, 0, none⟩) T.js.length T.js.length) (.slice (some ⟨gp, 0, none⟩) T.ps.length T.ps.length) T.tk T.ca T.we), .agg (jrC (jrOf (fe zJ T.js k) (some ⟨g, 0, none⟩) (fe zJ T.js k).ns.length (some ⟨h, 0, none⟩) (fe zJ T.js k).us.length))] w' fun e w'' => e = .returned cv ∧ Below w'.heap.size w' w'') ∧
      ∀ w', Below w.heap.size w w' → Calls Tryz.prog 32 #[cv, .int .i64 T.tk] w' fun e w'' => e = .returned (.agg (bl (goJ T k))) ∧ Below w'.heap.size w' w'' := by
  obtain ⟨gs, hP, hPk⟩ := hT.p
  have ht := hF.ht
  unfold goJ grJ
  rcases hF.hp with hp | ⟨m, hp, hm, hok⟩
  · rw [if_pos hp]
    exact ⟨_, fun w' _ => crossing_open _ hp _ w', fun w' _ => goersOf_open _ _ hF.hi hF.h1 hF.h4 rfl rfl T.tk w'⟩
  · rw [if_neg (by omega), hp, Int.toNat_natCast]
    have hle : m * 3 + 3 ≤ (pvC (pvs gs T.ps T.ps.length T.ps.length)).size := by rw [pvC_size, pvs_len]; omega
    exact ⟨_, fun w' hb => crossing_lit _ m T.ps.length gp hp hm hN.p _ _ _ T.tk T.ca T.we _ _ _ _ w' (hP.step hb) hle (pvC_at (k := m * 3) (l := pvs gs T.ps T.ps.length T.ps.length) (i := m) (by rw [pvs_len]; exact hm) (pvs_at hm hm) rfl),
      fun w' hb => goersOf_lit _ _ hF.hi hF.h1 hF.h4 rfl rfl T.tk (by omega) (gs m) (pS T.ps m) (pB T.ps m) (pO T.ps m) (hB.hW m hm) hok _ w' ((hPk m hm).1.step hb)⟩

set_option maxHeartbeats 2000000 in
theorem GreenIns_own (T : Tn) (gr gf gj gp : Nat) (x : Int) (hN : TnN T) (hB : TnB T) (w : World) (hT : TOwn w gr gf gj gp T) :
    Calls Tryz.prog 8 #[.agg (tnR T (slN gr T.rs.length) (slN gf T.fs.length) (slN gj T.js.length) (slN gp T.ps.length)), .int .i64 x] w fun e w' => e = .returned (.tuple #[.agg (bl (vGI T x).1), .int .i64 (vGI T x).2]) ∧ Below w.heap.size w w' := by
  show Calls Tryz.prog 8 #[.agg (tnC (.slice (some ⟨gr, 0, none⟩) T.rs.length T.rs.length) (.slice (some ⟨gf, 0, none⟩) T.fs.length T.fs.length) (.slice (some ⟨gj, 0, none⟩) T.js.length T.js.length) (.slice (some ⟨gp, 0, none⟩) T.ps.length T.ps.length) T.tk T.ca T.we), .int .i64 x] w _
  have A0 : At ((w.alloc (.cells (tnC (.slice (some ⟨gr, 0, none⟩) T.rs.length T.rs.length) (.slice (some ⟨gf, 0, none⟩) T.fs.length T.fs.length) (.slice (some ⟨gj, 0, none⟩) T.js.length T.js.length) (.slice (some ⟨gp, 0, none⟩) T.ps.length T.ps.length) T.tk T.ca T.we) 37)).alloc (.cells (#[.bool false, .bool false, .bool false, .bool false]) 30)) w.heap.size (tnC (.slice (some ⟨gr, 0, none⟩) T.rs.length T.rs.length) (.slice (some ⟨gf, 0, none⟩) T.fs.length T.fs.length) (.slice (some ⟨gj, 0, none⟩) T.js.length T.js.length) (.slice (some ⟨gp, 0, none⟩) T.ps.length T.ps.length) T.tk T.ca T.we) 37 := (At.new w _ _).alloc _
  have R0 : At ((w.alloc (.cells (tnC (.slice (some ⟨gr, 0, none⟩) T.rs.length T.rs.length) (.slice (some ⟨gf, 0, none⟩) T.fs.length T.fs.length) (.slice (some ⟨gj, 0, none⟩) T.js.length T.js.length) (.slice (some ⟨gp, 0, none⟩) T.ps.length T.ps.length) T.tk T.ca T.we) 37)).alloc (.cells (#[.bool false, .bool false, .bool false, .bool false]) 30)) (w.heap.size + 1) (#[.bool false, .bool false, .bool false, .bool false]) 30 := At.last1 w _ _ _
  have BB : Below w.heap.size w ((w.alloc (.cells (tnC (.slice (some ⟨gr, 0, none⟩) T.rs.length T.rs.length) (.slice (some ⟨gf, 0, none⟩) T.fs.length T.fs.length) (.slice (some ⟨gj, 0, none⟩) T.js.length T.js.length) (.slice (some ⟨gp, 0, none⟩) T.ps.length T.ps.length) T.tk T.ca T.we) 37)).alloc (.cells (#[.bool false, .bool false, .bool false, .bool false]) 30)) := bnew (b0 w (.cells (tnC (.slice (some ⟨gr, 0, none⟩) T.rs.length T.rs.length) (.slice (some ⟨gf, 0, none⟩) T.fs.length T.fs.length) (.slice (some ⟨gj, 0, none⟩) T.js.length T.js.length) (.slice (some ⟨gp, 0, none⟩) T.ps.length T.ps.length) T.tk T.ca T.we) 37)) (.cells (#[.bool false, .bool false, .bool false, .bool false]) 30)
  have B0 := Lib.hid BB
  have KR : Calls _ _ #[.agg (tnC (.slice (some ⟨gr, 0, none⟩) T.rs.length T.rs.length) (.slice (some ⟨gf, 0, none⟩) T.fs.length T.fs.length) (.slice (some ⟨gj, 0, none⟩) T.js.length T.js.length) (.slice (some ⟨gp, 0, none⟩) T.ps.length T.ps.length) T.tk T.ca T.we), .int .i64 x] _ _ := refusalOfJoint_own T gr gf gj gp x hN hB ((w.alloc (.cells (tnC (.slice (some ⟨gr, 0, none⟩) T.rs.length T.rs.length) (.slice (some ⟨gf, 0, none⟩) T.fs.length T.fs.length) (.slice (some ⟨gj, 0, none⟩) T.js.length T.js.length) (.slice (some ⟨gp, 0, none⟩) T.ps.length T.ps.length) T.tk T.ca T.we) 37)).alloc (.cells (#[.bool false, .bool false, .bool false, .bool false]) 30)) (hT.step BB)
  by_cases hc : jcT T x = 0
  · have hv : validT T = true := by
      unfold jcT at hc
      cases h : validT T
      · rw [h] at hc; simp at hc
      · rfl
    have hx : ixB T.js.length x = true := by
      unfold jcT at hc
      rw [hv] at hc
      cases h : ixB T.js.length x
      · rw [h] at hc; simp at hc
      · rfl
    unfold ixB at hx
    simp only [decide_eq_true_eq] at hx
    obtain ⟨k, rfl⟩ : ∃ k : Nat, x = (k : Int) := ⟨x.toNat, by omega⟩
    have hk : k < T.js.length := by omega
    have HV := Lib.hid (show vGI T (k : Int) = (goJ T k, 0) from by unfold vGI; rw [if_pos hc, Int.toNat_natCast])
    rw [hc] at KR
    have hF := JF.of hv hk
    obtain ⟨ys, hyl, hJ, hJk⟩ := hT.j
    obtain ⟨g, h, hy, -, -, -, -⟩ := hJk k (by rw [hyl]; exact hk)
    obtain ⟨cv, KA, KB⟩ := goers_joint T gr gf gj gp hN hB w hT k hF g h
    have hsl := fm_at (d := zJr) (k := k * 25) jrC_size (xs := ys) (i := k) (by rw [hyl]; exact hk) rfl
    have hle : k * 25 + 25 ≤ (fm jrC ys).size := by rw [fm_size jrC_size, hyl]; omega
    rw [hy] at hsl
    have J0 := hJ.step BB
    have hgj : gj ≠ w.heap.size + 1 := by have := hJ.lt; omega
    obtain ⟨y, hyy⟩ : ∃ y : Jr, y = jrOf (fe zJ T.js k) (some ⟨g, 0, none⟩) (fe zJ T.js k).ns.length (some ⟨h, 0, none⟩) (fe zJ T.js k).us.length := ⟨_, rfl⟩
    rw [← hyy] at hsl KA
    have hga : (goJ T k).length = 4 := cp4_len (grJ_len hB.hW hF) hF.h4
    obtain ⟨ans, hans⟩ : ∃ a, a = goJ T k := ⟨_, rfl⟩
    rw [← hans] at HV KB hga
    generalize fm jrC ys = R at *
    have hs4 : (bl ans).size = 4 := by rw [bl_size, hga]
    clear hans hyy hy hJ hJk hyl hF hT hB hN hc hv hx BB
    go_enter Tryz.func8, Tryz.ntmps8
    go_wp2_with (((with_reducible refine is_load 37 _ rfl ?_); refine wpList_load_at rfl 37 _ rfl _ rfl (tnC (.slice (some ⟨gr, 0, none⟩) T.rs.length T.rs.length) (.slice (some ⟨gf, 0, none⟩) T.fs.length T.fs.length) (.slice (some ⟨gj, 0, none⟩) T.js.length T.js.length) (.slice (some ⟨gp, 0, none⟩) T.ps.length T.ps.length) T.tk T.ca T.we) _ (by with_reducible assumption) 7 (rfl) _ Tryz.underlying37 rfl (by kernel_rfl) ?_))
    refine KR.mono ?_
    rintro e w1 ⟨rfl, hb1⟩
    have A1 := A0.step hb1
    have R1 := R0.step hb1
    have J1 := J0.step hb1
    have B1 := Lib.hid (bthen B0.out hb1)
    clear A0 R0 J0 B0 hb1 KR
    go_wp2_with fail
    refine wp_region_held (S := fun w' => ExG (w.heap.size + 1) w1 w') (by kernel_rfl) ?_
    show wpAnyH _ _ _ _ _ 12 (Array.replicate 12 false) _ _
    have S0 : ExG (w.heap.size + 1) w1 { w1 with drawn := w1.drawn + 1 } := (ExG.refl _ _).step (bdrew (Below.refl _ w1) 1)
    have R2 := R1.step (bdrew (Below.refl _ w1) 1)
    change At { w1 with drawn := w1.drawn + 1 } _ _ _ at R2
    generalize hw0 : ({ w1 with drawn := w1.drawn + 1 } : World) = w2 at S0 R2 ⊢
    clear hw0
    refine wpAnyH_take (i := 0) (v := .agg (tnC (.slice (some ⟨gr, 0, none⟩) T.rs.length T.rs.length) (.slice (some ⟨gf, 0, none⟩) T.fs.length T.fs.length) (.slice (some ⟨gj, 0, none⟩) T.js.length T.js.length) (.slice (some ⟨gp, 0, none⟩) T.ps.length T.ps.length) T.tk T.ca T.we)) rfl (by kernel_rfl) (by kernel_rfl) (by kernel_rfl) (fun _ _ _ h => h) (yif rfl fun w' hw' => x_load 37 (.tmp 2) rfl ⟨w.heap.size, 0, none⟩ (by kernel_rfl) ((run_loadAt_part w' _ 0 7 37 (tnC (.slice (some ⟨gr, 0, none⟩) T.rs.length T.rs.length) (.slice (some ⟨gf, 0, none⟩) T.fs.length T.fs.length) (.slice (some ⟨gj, 0, none⟩) T.js.length T.js.length) (.slice (some ⟨gp, 0, none⟩) T.ps.length T.ps.length) T.tk T.ca T.we) 37 (0, 0) _ (hw'.at A1 (by omega)) Tryz.underlying37 rfl (by kernel_rfl) (by show 0 + 7 ≤ 7; omega)))) (by assumption) ?_
    refine wpAnyH_take (i := 1) (v := .pointer (some ⟨w.heap.size, 2, none⟩)) rfl (by kernel_rfl) (by kernel_rfl) (by kernel_rfl) (fun _ _ _ h => h) (yif rfl fun w2 hw2 => by kernel_rfl) (by assumption) ?_
    refine wpAnyH_take (i := 2) (v := .slice (some ⟨gj, 0, none⟩) T.js.length T.js.length) rfl (by kernel_rfl) (by kernel_rfl) (by kernel_rfl) (fun _ _ _ h => h) (yif rfl fun w' hw' => x_load 34 (.tmp 15) rfl ⟨w.heap.size, 2, none⟩ (by kernel_rfl) (run_load_one w' 34 _ Tryz.underlying34 rfl _ _ ((hw'.at A1 (by omega)).cell (tnC_2 _ _ _ _ _ _ _)))) (by assumption) ?_
    refine wpAnyH_take (i := 3) (v := .int .i64 (k : Int)) rfl (by kernel_rfl) (by kernel_rfl) (by kernel_rfl) (fun _ _ _ h => h) (yif rfl fun w2 hw2 => by kernel_rfl) (by assumption) ?_
    refine wpAnyH_take (i := 4) (v := .pointer (some ⟨gj, k * 25, none⟩)) rfl (by kernel_rfl) (by kernel_rfl) (by kernel_rfl) (fun _ _ _ h => h) (yif rfl fun w' hw' => hx_index 34 (.tmp 16) (.tmp 17) rfl (.slice (some ⟨gj, 0, none⟩) T.js.length T.js.length) (.int .i64 (k : Int)) (by kernel_rfl) (by kernel_rfl) ((run_indexT w' 34 73 gj 0 T.js.length T.js.length k 25 Tryz.underlying34 (by kernel_rfl) hk).trans (by rw [Nat.zero_add]))) (by assumption) ?_
    refine wpAnyH_take (i := 5) (v := .agg (jrC y)) rfl (by kernel_rfl) (by kernel_rfl) (by kernel_rfl) (fun _ _ _ h => h) (yif rfl fun w' hw' => x_load 73 (.tmp 18) rfl ⟨gj, k * 25, none⟩ (by kernel_rfl) ((run_loadAt_part w' gj (k * 25) 25 73 R 73 (0, 0) _ (hw'.at J1 hgj) Tryz.underlying73 rfl (by kernel_rfl) hle).trans (by rw [hsl]))) (by assumption) ?_
    refine wpAnyH_take (i := 7) (v := .pointer (some ⟨w.heap.size, 4, none⟩)) rfl (by kernel_rfl) (by kernel_rfl) (by kernel_rfl) (fun _ _ _ h => h) (yif rfl fun w2 hw2 => by kernel_rfl) (by assumption) ?_
    refine wpAnyH_take (i := 8) (v := .int .i64 T.tk) rfl (by kernel_rfl) (by kernel_rfl) (by kernel_rfl) (fun _ _ _ h => h) (yif rfl fun w' hw' => x_load 2 (.tmp 21) rfl ⟨w.heap.size, 4, none⟩ (by kernel_rfl) (run_load_one w' 2 _ Tryz.underlying2 rfl _ _ ((hw'.at A1 (by omega)).cell (tnC_4 _ _ _ _ _ _ _)))) (by assumption) ?_
    refine wpAnyH_call (j := 6) (f := 33) (args := #[.agg (tnC (.slice (some ⟨gr, 0, none⟩) T.rs.length T.rs.length) (.slice (some ⟨gf, 0, none⟩) T.fs.length T.fs.length) (.slice (some ⟨gj, 0, none⟩) T.js.length T.js.length) (.slice (some ⟨gp, 0, none⟩) T.ps.length T.ps.length) T.tk T.ca T.we), .agg (jrC y)]) (by kernel_rfl) rfl (by kernel_rfl) (by kernel_rfl) ((KA w2 (S0.below B1.out (by omega) (Nat.le_refl _) (Nat.le_refl _))).mono ?_)
    rintro e w3 ⟨rfl, hb3⟩
    have R3 := R2.step hb3
    have S1 := S0.step hb3
    refine ⟨_, rfl, S1, ?_⟩
    refine wpAnyH_call (j := 9) (f := 32) (args := #[cv, .int .i64 T.tk]) (by kernel_rfl) rfl (by kernel_rfl) (by kernel_rfl) ((KB w3 (S1.below B1.out (by omega) (Nat.le_refl _) (Nat.le_refl _))).mono ?_)
    rintro e w4 ⟨rfl, hb4⟩
    have R4 := R3.step hb4
    have S2 := S1.step hb4
    refine ⟨_, rfl, S2, ?_⟩
    refine wpAnyH_all (rs := [10]) (by kernel_rfl) (by simp) fun i9 hi9 => ?_
    obtain rfl := one_of hi9
    have B4_ := Lib.hid (S2.below B1.out (by omega) (Nat.le_refl _) (Nat.le_refl _))
    have R5 := R4.setRow (bl ans)
    have B5 := Lib.hid (bset B4_.out (g := w.heap.size + 1) (by omega) (bl ans))
    obtain ⟨w5, hw5⟩ : ∃ x, x = w4.setRow (w.heap.size + 1) (bl ans) := ⟨_, rfl⟩
    have S3 := S2.set (bl ans)
    rw [← hw5] at R5 B5 S3
    refine op_skip (w' := w5) rfl rfl (by rw [hw5]; exact hx_store 30 (.tmp 4) (.tmp 23) rfl (.pointer (some ⟨w.heap.size + 1, 0, none⟩)) (.agg (bl ans)) (by kernel_rfl) (by kernel_rfl) (run_store_row 30 R4 hs4 rfl (by kernel_rfl) (bl_one _))) ⟨S3, ?_⟩
    refine wpAnyH_take (i := 11) (v := .int .i64 0) rfl (by kernel_rfl) (by kernel_rfl) (by kernel_rfl) (fun _ _ _ h => h) (yif rfl fun w2 hw2 => by kernel_rfl) (by assumption) ?_
    refine wpAnyH_done (by kernel_rfl) ?_ _
    clear S0 S1 S2 S3 A1 R1 R2 R3 R4 B1 B4_ J1 KA KB hb3 hb4 hw5
    go_simp
    go_wp2_with fail
    exact bodyPost_ret (v := .tuple #[.agg (bl ans), .int .i64 0]) (results_at_tmp (p := 4) (ty := 30) rfl _ _ _ (bl ans) _ (.int .i64 0) rfl rfl R5 _ Tryz.underlying30 rfl 4 hs4 (by kernel_rfl)) rfl ⟨by rw [HV.out], B5.out⟩
  · obtain ⟨cd, hcd⟩ : ∃ c, c = jcT T x := ⟨_, rfl⟩
    have HV := Lib.hid (show vGI T x = (noes 4, cd) from by unfold vGI; rw [if_neg hc, hcd])
    rw [← hcd] at KR hc
    have hb1 : (cd != 0) = true := by simpa using hc
    have hb2 : (cd == 0) = false := by simpa using hc
    clear hcd hT BB
    go_enter Tryz.func8, Tryz.ntmps8
    go_wp2_with (((with_reducible refine is_load 37 _ rfl ?_); refine wpList_load_at rfl 37 _ rfl _ rfl (tnC (.slice (some ⟨gr, 0, none⟩) T.rs.length T.rs.length) (.slice (some ⟨gf, 0, none⟩) T.fs.length T.fs.length) (.slice (some ⟨gj, 0, none⟩) T.js.length T.js.length) (.slice (some ⟨gp, 0, none⟩) T.ps.length T.ps.length) T.tk T.ca T.we) _ (by with_reducible assumption) 7 (rfl) _ Tryz.underlying37 rfl (by kernel_rfl) ?_))
    refine KR.mono ?_
    rintro e w1 ⟨rfl, hb1⟩
    have R1 := R0.step hb1
    have B1 := Lib.hid (bthen B0.out hb1)
    clear A0 R0 B0 hb1 KR
    have R2 := R1.setRow (bl (noes 4))
    have B2 := Lib.hid (bset B1.out (g := w.heap.size + 1) (by omega) (bl (noes 4)))
    go_wp2_with (first | ((with_reducible refine is_bld 30 _ rfl ?_); refine wpList_bld rfl 30 _ rfl #[] (by kernel_rfl) (bl (noes 4)) (by kernel_rfl) ?_) | ((with_reducible refine is_store 30 _ _ rfl ?_); refine wpList_store_at rfl 30 _ _ rfl _ rfl (bl (noes 4)) rfl (#[.bool false, .bool false, .bool false, .bool false]) _ (by with_reducible assumption) 4 (rfl) (rfl) (by kernel_rfl) (bl_one _) ?_))
    exact bodyPost_ret (v := .tuple #[.agg (bl (noes 4)), .int .i64 cd]) (results_at_tmp (p := 4) (ty := 30) rfl _ _ _ (bl (noes 4)) _ (.int .i64 cd) rfl rfl R2 _ Tryz.underlying30 rfl 4 rfl (by kernel_rfl)) rfl ⟨by rw [HV.out], B2.out⟩

end Go.Proofs.YtboahhipobcabaaGreat
