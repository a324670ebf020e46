/-
  FnSteps: a step makes no cars and loses none, nearly; steps one after the other, or told by lists, are steps at once. No condition.
-/
import Derived.Test.YtapnkkbkhifmeaaLawB
import Derived.Test.YtapnkkbkhifmeaaDrawn
import Derived.Test.YtapnkkbkhifmeaaG8
import Derived.Test.YtapnkkbkhifmeaaStpM
import Derived.Test.YtapnkkbkhifmeaaStpA
import Derived.Test.YtapnkkbkhifmeaaStepRds
import Derived.Test.YtapnkkbkhifmeaaStepListZ
import Derived.Test.YtapnkkbkhifmeaaG17
import Derived.Test.YtapnkkbkhifmeaaG4
import Derived.Test.YtapnkkbkhifmeaaG15
namespace Go.Proofs.Ytapnkkbkhifmeaa.lawFnSteps
open Go Go.ChangeShapes Go.WideShapes Go.ChangeAt Go.RowKit

set_option maxRecDepth 100000
theorem hold {p : Prop} (h : Hid p) : p := h.out

theorem is_dst {P : Program} {ops : Array Oper} {rest : List Oper} {o : Oper} {a : Act} {w : World} {Q : Exit → Act → World → Prop} (n : Nat) (_ho : o.dst = some n) (h : wpList P ops Q (o :: rest) a w) : wpList P ops Q (o :: rest) a w := h

theorem wpList_quiet {P : Program} {ops : Array Oper} {C : World → Prop} {Q : Exit → Act → World → Prop} : ∀ (l : List Oper) (a : Act) (w : World), C w → wpQuiet P ops C (fun a' => ∀ w', C w' → Q .normal a' w') l a → wpList P ops Q l a w
  | [], _, w, hC, h => h w hC
  | o :: rest, a, w, hC, h => by
    unfold wpList
    unfold wpQuiet at h
    by_cases hw : Region.wanted o (yielded ops a.tmps) = true
    · rw [if_pos hw] at h ⊢
      obtain ⟨v, h1, h2⟩ := h
      refine Or.inl ?_
      have k := h1 w hC
      unfold Oper.quietAt at k
      show o.upon P a _ Q ((execOp a.eval o).run P w)
      generalize (execOp a.eval o).run P w = r at k ⊢
      unfold Oper.quietUpon at k
      split at k
      · obtain ⟨rfl, rfl⟩ := k
        exact wpList_quiet rest _ _ hC h2
      · obtain ⟨rfl, rfl⟩ := k
        exact wpList_quiet rest _ _ hC h2
      · obtain ⟨rfl, k⟩ := k
        refine Calls.mono k ?_
        rintro e w'' ⟨rfl, hc⟩
        exact wpList_quiet rest _ _ hc h2
      · exact k.elim
    · rw [if_neg hw] at h ⊢
      exact wpList_quiet rest _ _ hC h

theorem q_neqT {P : Program} {C : World → Prop} {o : Oper} {a : Act} {K : Act → Prop} (ty : TypeId) (x y : Operand) {T : TypeId} (ho : o.op = .binOp .neq ty x y T) (c1 c2 : Array Value) (h1 : a.eval x = .agg c1) (h2 : a.eval y = .agg c2) (hm : P.eqGuardType P.depth ty = false) (v : Value) (hrun : ∀ w, (binOp .neq ty (.agg c1) (.agg c2)).run P w = .ok v w) (hK : K (a.put o.dst v)) : o.quiet P a C K := by
  refine ⟨v, fun w hw => ?_, hK⟩
  have hg := run_eqGuard_agg w .neq ty x y c1 c2 hm
  unfold Oper.quietAt execOp
  simp only [ho, h1, h2, Sem.run_bind, hg, hrun w, Sem.run_pure, Result.andThen_ok]
  exact ⟨rfl, rfl⟩

theorem okR_b {cs : List Nat} {p b l : Nat} (h : OkR cs p b l) : okB cs p b l = true := by
  have h1 : cs.all shrB = true := List.all_eq_true.2 fun x hx => decide_eq_true (h.cars x hx)
  have h2 : paceB p = true := decide_eq_true h.pace
  have h3 : paceB b = true := decide_eq_true h.back
  have h4 : lanesB l = true := decide_eq_true h.lanes
  unfold okB
  rw [h1, h2, h3, h4]; rfl

/-- was any of the first k cells held? -/
def helB (p b : Nat) (cs : List Nat) (o m : Nat) : Nat → Bool
  | 0 => false
  | k + 1 => helB p b cs o m k || decide (1065353216 < wholeC p b cs o m k)

theorem helB_all {p b : Nat} {cs : List Nat} {o m : Nat} : ∀ n, helB p b cs o m n = false → ∀ k, k < n → wholeC p b cs o m k ≤ 1065353216
  | 0, _, k, hk => absurd hk (Nat.not_lt_zero k)
  | n + 1, h, k, hk => by
    rw [helB, Bool.or_eq_false_iff] at h
    rcases Nat.lt_or_ge k n with c | c
    · exact helB_all n h.1 k c
    · obtain rfl : k = n := by omega
      have := of_decide_eq_false h.2
      omega

theorem sumW_lt {L : List Nat} (h : ∀ i, nth L i ≤ 1065353216) {k : Nat} (hk : k ≤ 16) : sumW L k ≤ 1098907648 := by
  have h1 := (sum_near h k hk).1
  have h2 := fN_mono16 k (by omega)
  have h3 := fN_16
  omega

theorem round_walk {cs : List Nat} {p b l : Nat} (ok : OkR cs p b l) (o m : Nat) {S FX : List Nat} (okS : OkR S p b l) (hF : FX = fluxL p b cs o m) {k A B : Nat} (hk : k < 16) (hA : A = sumW cs k) (hB : B = sumW S k) :
    ∃ A' B' t W, floatBits .add .f32 A (nth cs k) = some A' ∧ A' = sumW cs (k + 1) ∧ floatBits .add .f32 B (nth S k) = some B' ∧ B' = sumW S (k + 1) ∧ floatBits .add .f32 (nth cs k) (nth FX k) = some t ∧ floatBits .sub .f32 t (nth FX (k + 1)) = some W ∧ W = wholeC p b cs o m k ∧ W ≤ 1082130432 := by
  have a1 := sumW_lt (L := cs) (fun i => ok.car i) (k := k) (by omega)
  have a2 := sumW_lt (L := S) (fun i => okS.car i) (k := k) (by omega)
  have c1 := ok.car k
  have c2 := okS.car k
  obtain ⟨w1, w2, w3, w4, w5⟩ := whole_facts ok o m hk
  rw [← hF] at w1 w2 w3 w4
  have hf : nth FX k ≤ 1065353216 := by rw [hF]; exact nth_le (fluxL_le ok o m) k
  have e1 := (add_eq (x := A) (y := nth cs k) (by omega) (by omega)).1
  have e2 := (add_eq (x := B) (y := nth S k) (by omega) (by omega)).1
  have e3 := (add_eq (x := nth cs k) (y := nth FX k) (by omega) (by omega)).1
  have e4 := (sub_eq (x := addB (nth cs k) (nth FX k)) (y := nth FX (k + 1)) (by omega) (by omega)).1
  refine ⟨_, _, _, _, e1, by rw [hA]; rfl, e2, by rw [hB]; rfl, e3, e4, w4.symm, ?_⟩
  rw [← w4]; exact w5

theorem bal_walk {cs : List Nat} {p b l : Nat} (ok : OkR cs p b l) (o m : Nat) {S FX : List Nat} (hS : S = nextL p b cs o m) (hF : FX = fluxL p b cs o m) {A B : Nat} (hA : A = sumW cs 16) (hB : B = sumW S 16) (hH : false = helB p b cs o m 16) :
    ∃ t u : Nat, floatBits .add .f32 A (nth FX 0) = some t ∧ floatBits .sub .f32 t (nth FX 16) = some u ∧ ∀ w, Calls Try.prog 13 #[.float .f32 B, .float .f32 u, .float .f32 953267991] w fun e w' => e = .returned (.bool true) ∧ w' = w := by
  obtain ⟨b1, b2, b3, b4, b5, b6, b7⟩ := balance ok o m (helB_all 16 hH.symm)
  have hf : nth (fluxL p b cs o m) 0 ≤ 1065353216 := nth_le (fluxL_le ok o m) 0
  rw [← hS] at b1 b6 b7
  rw [← hA] at b2 b3 b4 b5 b6 b7
  rw [← hB] at b1 b6 b7
  rw [← hF] at b3 b4 b5 b6 b7 hf
  clear hS hA hB hH hF
  exact ⟨_, _, (add_eq (by omega) (by omega)).1, (sub_eq (by omega) b4).1, fun w => a2Near_gap B _ (by omega) (by omega) b6 b7 w⟩

theorem atStepB {w w' : World} {g B : Nat} {c : Array Value} {T : TypeId} (h : At w g c T) (hb : Below B w w') (hg : g < B) : At w' g c T := (hb.block _ hg).trans h

theorem pair_grow {w w5 : World} {lo k g1 c1 g2 x : Nat} {u v' : Value} {Y : List Nat} (F : OwnF w lo (.slice (some ⟨g1, 0, none⟩) k c1) (List.replicate k x)) (U : OwnF w lo u Y) (hu : u.ownBlock = some g2) (hne : g1 ≠ g2) (hlo : lo ≤ w.heap.size) {c : Obj}
    (hown : w5.ownsRow lo 24 1 v' (k + 1) (fL (List.replicate k x) ++ [.float .f32 x]))
    (hgrow : (w.alloc c).grownBy w5 (Value.ownBlock (.slice (some ⟨g1, 0, none⟩) k c1)))
    (hb : v'.ownBlock = Value.ownBlock (.slice (some ⟨g1, 0, none⟩) k c1) ∨ v'.ownBlock = some (w.heap.size + 1)) :
    ∃ g c', v' = .slice (some ⟨g, 0, none⟩) (k + 1) c' ∧ g ≠ g2 ∧ OwnF w5 lo (.slice (some ⟨g, 0, none⟩) (k + 1) c') (List.replicate (k + 1) x) ∧ OwnF w5 lo u Y ∧ lo ≤ w5.heap.size ∧ Below lo w w5 := by
  have F5 : OwnF w5 lo v' (List.replicate (k + 1) x) := by rw [List.replicate_succ']; exact OwnF.grown (by rw [List.length_replicate]; exact hown)
  obtain ⟨g, cap, cur, hv, -⟩ := F5.at (by simp)
  rw [List.length_replicate] at hv
  subst hv
  have hg2 := (U.block g2 hu).2
  have hg1 := (F.block g1 rfl)
  refine ⟨g, cap, rfl, ?_, F5, World.ownsRow.kept (World.ownsRow.alloc U c) hgrow (.inr ?_), ?_, ?_⟩
  · rcases hb with e | e
    · have e' : g = g1 := by simpa [Value.ownBlock] using e
      omega
    · have e' : g = w.heap.size + 1 := by simpa [Value.ownBlock] using e
      omega
  · rw [hu]
    intro e
    have e' : g2 = g1 := by simpa [Value.ownBlock] using e
    omega
  · have := hgrow.size; rw [World.size_alloc] at this; omega
  · exact ((Below.refl lo w).alloc hlo c).trans (Below.grownBy hgrow (by rw [World.size_alloc]; omega) (fun q hq => by
      have e' : g1 = q := by simpa [Value.ownBlock] using hq
      omega))

theorem OwnF.rep {w : World} {lo g k c x : Nat} (F : OwnF w lo (.slice (some ⟨g, 0, none⟩) k c) (List.replicate k x)) : ∃ cur, At w g cur 24 ∧ ∀ p, p < (List.replicate k x).length → cur[p]? = some (.float .f32 (nth (List.replicate k x) p)) := by
  obtain ⟨g', cap', cur, e, -, hA, hp⟩ := F.atN (by intro e; cases e)
  injection e with e1 _ _
  injection e1 with e1
  injection e1 with e1 _ _
  subst e1
  exact ⟨cur, hA, hp⟩

set_option maxHeartbeats 8000000 in
theorem walk (W : World) (a0 : Option Addr) (c0 : Nat) (x0 : List Nat) (h0 : BSl W a0 x0) (a1 : Option Addr) (c1 : Nat) (x1 : List Nat) (h1 : BSl W a1 x1) :
    Calls Try.prog 3 #[.slice a0 x0.length c0, .slice a1 x1.length c1] W (True? W) := by
  have KL := a2Long_any a0 a1 x0.length c0 x1.length c1 W
  have BW := Lib.hid (Below.refl W.heap.size W)
  go_enter Try.func3, Try.ntmps3
  go_wp2_with fail
  refine KL.mono ?_
  rintro e w0 ⟨B, rfl, rfl⟩
  clear KL
  cases B
  case true =>
    go_wp2_with fail
    go_ret
    exact ⟨rfl, Below.refl _ _⟩
  go_wp2_with fail
  refine (A2Road_e a0 c0 x0 _ h0).mono ?_
  rintro e w1 ⟨cs, p, b, l, rfl, hl, hok, hb⟩
  have ok := OkR.of hl hok
  replace BW := Lib.hid (BW.out.trans (hb.mono BW.out.size))
  clear hb
  have hcs16 := ok.cars
  have hc : ∀ x ∈ cs, x < 4294967296 := fun x hx => by have := hcs16 x hx; omega
  have HC := Lib.hid hc
  have HB := Lib.hid (And.intro ok.pace (And.intro ok.back ok.lanes))
  clear hcs16 hc
  have L := At.new w1 (rd (zeros 16) 0 0 0) 28
  have A5 := L.setRow (rd cs p b l)
  replace BW := Lib.hid (bset (BW.out.alloc BW.out.size (.cells (rd (zeros 16) 0 0 0) 28)) (g := w1.heap.size) BW.out.size (rd cs p b l))
  go_wp2_with (first | ((with_reducible refine is_store 28 _ _ rfl ?_); refine wpList_store_at rfl 28 _ _ rfl _ rfl (rd cs p b l) rfl (rd (zeros 16) 0 0 0) _ L 19 (rd_size hl p b l) (rd_size (zeros_len 16) 0 0 0) (by kernel_rfl) (rd_one cs p b l) ?_) | ((with_reducible refine is_load 28 _ rfl ?_); refine wpList_load_at rfl 28 _ rfl _ rfl (rd cs p b l) _ A5 19 (rd_size hl p b l) _ Try.underlying28 rfl (by kernel_rfl) ?_))
  rw [show (#[.float .f32 0, .float .f32 0, .float .f32 0, .float .f32 0, .float .f32 0, .float .f32 0, .float .f32 0, .float .f32 0, .float .f32 0, .float .f32 0, .float .f32 0, .float .f32 0, .float .f32 0, .float .f32 0, .float .f32 0, .float .f32 0, .float .f32 0, .float .f32 0, .float .f32 0] : Array Value) = rd (zeros 16) 0 0 0 from by kernel_rfl]
  clear L
  generalize World.setRow _ _ _ = w2 at A5 BW ⊢
  have H2 := h1.step BW.out (Nat.le_refl _)
  refine (A2Share_e a1 c1 x1 _ H2).mono ?_
  rintro e w3 ⟨o, rfl, ho, hb⟩
  clear H2
  replace A5 := A5.step hb
  replace BW := Lib.hid (BW.out.trans (hb.mono BW.out.size))
  clear hb
  go_wp2_with fail
  have H2 := h0.step BW.out (Nat.le_refl _)
  refine (A2Share_e a0 c0 x0 _ H2).mono ?_
  rintro e w4 ⟨m, rfl, hm, hb⟩
  clear H2 h0
  replace A5 := A5.step hb
  replace BW := Lib.hid (BW.out.trans (hb.mono BW.out.size))
  clear hb
  have KR := fun w => StepRoad_any cs p b l hl HC.out (by have := HB.out; omega) (by have := HB.out; omega) (by have := HB.out; omega) o (by omega) m (by omega) w
  have KRs := fun w => sStepRoad_any cs p b l hl HC.out (by have := HB.out; omega) (by have := HB.out; omega) (by have := HB.out; omega) o (by omega) m (by omega) w
  have KF := fun w => FluxesOf_any cs p b l hl HC.out (by have := HB.out; omega) (by have := HB.out; omega) (by have := HB.out; omega) o m (by omega) (by omega) w
  have KFs := fun w => sFluxesOf_any cs p b l hl HC.out (by have := HB.out; omega) (by have := HB.out; omega) (by have := HB.out; omega) o m (by omega) (by omega) w
  rw [vOne_yes hok ho hm] at KR KRs
  rw [vFlux_yes hok ho hm] at KF KFs
  obtain ⟨S, hS⟩ : ∃ S, S = nextL p b cs o m := ⟨_, rfl⟩
  obtain ⟨FX, hF⟩ : ∃ FX, FX = fluxL p b cs o m := ⟨_, rfl⟩
  have okS : OkR S p b l := by rw [hS]; exact nextL_ok ok _ _
  have hlS := okS.len
  have hcS : ∀ x ∈ S, x < 4294967296 := fun x hx => by have := okS.cars x hx; omega
  have hlF : FX.length = 17 := by rw [hF]; exact fluxL_len _ _ _ _ _
  have hcF : ∀ k, nth FX k ≤ 1065353216 := by rw [hF]; exact nth_le (fluxL_le ok o m)
  have hin : nth FX 0 ≤ o := by rw [hF, fluxL_0]; exact Nat.min_le_left _ _
  have hout : nth FX 16 ≤ m := by rw [hF, fluxL_16]; exact Nat.min_le_right _ _
  rw [← hS, ← hF] at KR KRs
  rw [← hF] at KF KFs
  have HS := Lib.hid (And.intro hS hF)
  clear hS hF
  have KQ := fun w => sSameRoad_any S p b l hlS hcS (by have := HB.out; omega) (by have := HB.out; omega) (by have := HB.out; omega) S p b l hlS hcS (by have := HB.out; omega) (by have := HB.out; omega) (by have := HB.out; omega) w
  rw [sameR_self] at KQ
  have KV := fun w => ValidRoad_any S p b l hlS hcS (by have := HB.out; omega) (by have := HB.out; omega) (by have := HB.out; omega) w
  rw [okR_b okS] at KV
  have KN := fun w => run_neq_F17 w FX hlF (fun k => by have := hcF k; omega)
  have HF := Lib.hid (And.intro hcF (And.intro hin hout))
  have HO := Lib.hid (And.intro ho hm)
  clear hcF hin hout hcS
  go_wp2_with (first | ((with_reducible refine is_load 28 _ rfl ?_); refine wpList_load_at rfl 28 _ rfl _ rfl (rd cs p b l) _ A5 19 (rd_size hl p b l) _ Try.underlying28 rfl (by kernel_rfl) ?_))
  refine (KR _).mono ?_
  rintro e w5 ⟨rfl, hb⟩
  replace A5 := A5.step hb
  replace BW := Lib.hid (BW.out.trans (hb.mono BW.out.size))
  clear hb
  have L := At.new w5 (rd (zeros 16) 0 0 0) 28
  have A8 := L.setRow (rd S p b l)
  replace A5 := (A5.alloc (.cells (rd (zeros 16) 0 0 0) 28)).setRow_other (k := w5.heap.size) (Nat.ne_of_lt A5.lt) (rd S p b l)
  replace BW := Lib.hid (bset (BW.out.alloc BW.out.size (.cells (rd (zeros 16) 0 0 0) 28)) (g := w5.heap.size) BW.out.size (rd S p b l))
  go_wp2_with (first | ((with_reducible refine is_store 28 _ _ rfl ?_); refine wpList_store_at rfl 28 _ _ rfl _ rfl (rd S p b l) rfl (rd (zeros 16) 0 0 0) _ L 19 (rd_size hlS p b l) (rd_size (zeros_len 16) 0 0 0) (by kernel_rfl) (rd_one S p b l) ?_) | ((with_reducible refine is_load 28 _ rfl ?_); refine wpList_load_at rfl 28 _ rfl _ rfl (rd cs p b l) _ A5 19 (rd_size hl p b l) _ Try.underlying28 rfl (by kernel_rfl) ?_))
  rw [show (#[.float .f32 0, .float .f32 0, .float .f32 0, .float .f32 0, .float .f32 0, .float .f32 0, .float .f32 0, .float .f32 0, .float .f32 0, .float .f32 0, .float .f32 0, .float .f32 0, .float .f32 0, .float .f32 0, .float .f32 0, .float .f32 0, .float .f32 0, .float .f32 0, .float .f32 0] : Array Value) = rd (zeros 16) 0 0 0 from by kernel_rfl]
  clear L
  generalize World.setRow _ _ _ = w6 at A5 A8 BW ⊢
  refine (KRs _).mono ?_
  rintro e w7 ⟨rfl, hb⟩
  replace A5 := A5.step hb
  replace A8 := A8.step hb
  replace BW := Lib.hid (BW.out.trans (hb.mono BW.out.size))
  clear hb
  have L := At.new w7 (rd (zeros 16) 0 0 0) 28
  have A12 := L.setRow (rd S p b l)
  replace A5 := (A5.alloc (.cells (rd (zeros 16) 0 0 0) 28)).setRow_other (k := w7.heap.size) (Nat.ne_of_lt A5.lt) (rd S p b l)
  replace A8 := (A8.alloc (.cells (rd (zeros 16) 0 0 0) 28)).setRow_other (k := w7.heap.size) (Nat.ne_of_lt A8.lt) (rd S p b l)
  replace BW := Lib.hid (bset (BW.out.alloc BW.out.size (.cells (rd (zeros 16) 0 0 0) 28)) (g := w7.heap.size) BW.out.size (rd S p b l))
  go_wp2_with (first | ((with_reducible refine is_store 28 _ _ rfl ?_); refine wpList_store_at rfl 28 _ _ rfl _ rfl (rd S p b l) rfl (rd (zeros 16) 0 0 0) _ L 19 (rd_size hlS p b l) (rd_size (zeros_len 16) 0 0 0) (by kernel_rfl) (rd_one S p b l) ?_) | ((with_reducible refine is_load 28 _ rfl ?_); refine wpList_load_at rfl 28 _ rfl _ rfl (rd cs p b l) _ A5 19 (rd_size hl p b l) _ Try.underlying28 rfl (by kernel_rfl) ?_))
  rw [show (#[.float .f32 0, .float .f32 0, .float .f32 0, .float .f32 0, .float .f32 0, .float .f32 0, .float .f32 0, .float .f32 0, .float .f32 0, .float .f32 0, .float .f32 0, .float .f32 0, .float .f32 0, .float .f32 0, .float .f32 0, .float .f32 0, .float .f32 0, .float .f32 0, .float .f32 0] : Array Value) = rd (zeros 16) 0 0 0 from by kernel_rfl]
  clear L
  generalize World.setRow _ _ _ = w8 at A5 A8 A12 BW ⊢
  refine (KF _).mono ?_
  rintro e w9 ⟨rfl, hb⟩
  replace A5 := A5.step hb
  replace A8 := A8.step hb
  replace A12 := A12.step hb
  replace BW := Lib.hid (BW.out.trans (hb.mono BW.out.size))
  clear hb
  have L := At.new w9 (fl (zeros 17)) 33
  have A16 := L.setRow (fl FX)
  replace A5 := (A5.alloc (.cells (fl (zeros 17)) 33)).setRow_other (k := w9.heap.size) (Nat.ne_of_lt A5.lt) (fl FX)
  replace A8 := (A8.alloc (.cells (fl (zeros 17)) 33)).setRow_other (k := w9.heap.size) (Nat.ne_of_lt A8.lt) (fl FX)
  replace A12 := (A12.alloc (.cells (fl (zeros 17)) 33)).setRow_other (k := w9.heap.size) (Nat.ne_of_lt A12.lt) (fl FX)
  replace BW := Lib.hid (bset (BW.out.alloc BW.out.size (.cells (fl (zeros 17)) 33)) (g := w9.heap.size) BW.out.size (fl FX))
  go_wp2_with (first | ((with_reducible refine is_store 33 _ _ rfl ?_); refine wpList_store_at rfl 33 _ _ rfl _ rfl (fl FX) rfl (fl (zeros 17)) _ L 17 (by rw [fl_size, hlF]) (by rw [fl_size, zeros_len]) (by kernel_rfl) (fl_one _) ?_) | ((with_reducible refine is_load 28 _ rfl ?_); refine wpList_load_at rfl 28 _ rfl _ rfl (rd cs p b l) _ A5 19 (rd_size hl p b l) _ Try.underlying28 rfl (by kernel_rfl) ?_))
  rw [show (#[.float .f32 0, .float .f32 0, .float .f32 0, .float .f32 0, .float .f32 0, .float .f32 0, .float .f32 0, .float .f32 0, .float .f32 0, .float .f32 0, .float .f32 0, .float .f32 0, .float .f32 0, .float .f32 0, .float .f32 0, .float .f32 0, .float .f32 0] : Array Value) = fl (zeros 17) from by kernel_rfl]
  clear L
  generalize World.setRow _ _ _ = w10 at A5 A8 A12 A16 BW ⊢
  refine (KFs _).mono ?_
  rintro e w11 ⟨rfl, hb⟩
  replace A5 := A5.step hb
  replace A8 := A8.step hb
  replace A12 := A12.step hb
  replace A16 := A16.step hb
  replace BW := Lib.hid (BW.out.trans (hb.mono BW.out.size))
  clear hb
  clear KR KRs KF KFs
  have L := At.new w11 (fl (zeros 17)) 33
  have A18 := L.setRow (fl FX)
  replace A5 := (A5.alloc (.cells (fl (zeros 17)) 33)).setRow_other (k := w11.heap.size) (Nat.ne_of_lt A5.lt) (fl FX)
  replace A8 := (A8.alloc (.cells (fl (zeros 17)) 33)).setRow_other (k := w11.heap.size) (Nat.ne_of_lt A8.lt) (fl FX)
  replace A12 := (A12.alloc (.cells (fl (zeros 17)) 33)).setRow_other (k := w11.heap.size) (Nat.ne_of_lt A12.lt) (fl FX)
  replace A16 := (A16.alloc (.cells (fl (zeros 17)) 33)).setRow_other (k := w11.heap.size) (Nat.ne_of_lt A16.lt) (fl FX)
  replace BW := Lib.hid (bset (BW.out.alloc BW.out.size (.cells (fl (zeros 17)) 33)) (g := w11.heap.size) BW.out.size (fl FX))
  go_wp2_with (first | ((with_reducible refine is_store 33 _ _ rfl ?_); refine wpList_store_at rfl 33 _ _ rfl _ rfl (fl FX) rfl (fl (zeros 17)) _ L 17 (by rw [fl_size, hlF]) (by rw [fl_size, zeros_len]) (by kernel_rfl) (fl_one _) ?_; refine hold ?_) | ((with_reducible refine is_load 28 _ rfl ?_); refine wpList_load_at rfl 28 _ rfl _ rfl (rd cs p b l) _ A5 19 (rd_size hl p b l) _ Try.underlying28 rfl (by kernel_rfl) ?_))
  rw [show (#[.float .f32 0, .float .f32 0, .float .f32 0, .float .f32 0, .float .f32 0, .float .f32 0, .float .f32 0, .float .f32 0, .float .f32 0, .float .f32 0, .float .f32 0, .float .f32 0, .float .f32 0, .float .f32 0, .float .f32 0, .float .f32 0, .float .f32 0] : Array Value) = fl (zeros 17) from by kernel_rfl]
  clear L
  generalize World.setRow _ _ _ = w12 at A5 A8 A12 A16 A18 BW ⊢
  refine Lib.hid ?_
  refine wpList_quiet (C := Cb w12) _ _ _ ⟨rfl, rfl, rfl, Nat.le_refl _, fun _ _ => rfl⟩ ?_
  repeat (first | go_big_quiet_skip | (go_big_quiet_want; go_big_quiet_op; go_big_quiet_on))
  refine wpQuiet_nil ?_
  intro w13 hb
  replace A5 := A5.step hb
  replace A8 := A8.step hb
  replace A12 := A12.step hb
  replace A16 := A16.step hb
  replace A18 := A18.step hb
  replace BW := Lib.hid (BW.out.trans (hb.mono BW.out.size))
  clear hb
  rename_i K0 hK0
  change K0 _ _
  refine hK0 _ _ ?_
  apply wp_seq_k; intro K1 hK1
  apply wp_seq_k; intro K2 hK2
  first | refine wp_region_lit ?_ | refine wp_region_list ?_
  try dsimp only [List.append]
  have sS := rd_size hlS p b l
  have n0 : (FloatKind.f32.format.order (nth FX 0) (nth FX 0) != some .eq) = false := by rw [eqF_self (by have := HF.out.1 0; omega)]; rfl
  have n16 : (FloatKind.f32.format.order (nth FX 16) (nth FX 16) != some .eq) = false := by rw [eqF_self (by have := HF.out.1 16; omega)]; rfl
  have g0 : (FloatKind.f32.format.order (nth FX 0) o == some .gt) = false := by rw [gt_amt (by have := HF.out.1 0; omega) (by omega)]; exact decide_eq_false (by have := HF.out.2.1; omega)
  have g16 : (FloatKind.f32.format.order (nth FX 16) m == some .gt) = false := by rw [gt_amt (by have := HF.out.1 16; omega) (by omega)]; exact decide_eq_false (by have := HF.out.2.2; omega)
  have d0 := fl_get (xs := FX) (k := 0) (by omega)
  have d16 := fl_get (xs := FX) (k := 16) (by omega)
  have sF : (fl FX).size = 17 := by rw [fl_size, hlF]
  have hC := Cb.const w13
  refine wpList_quiet (C := Cb w13) _ _ _ ⟨rfl, rfl, rfl, Nat.le_refl _, fun _ _ => rfl⟩ ?_
  repeat (first
    | go_big_quiet_skip
    | (go_big_quiet_want; first
      | (refine q_row 28 _ rfl rfl A8 19 sS _ Try.underlying28 rfl (by kernel_rfl) ?_; go_simp; go_big_quiet_on)
      | (refine q_row 28 _ rfl rfl A12 19 sS _ Try.underlying28 rfl (by kernel_rfl) ?_; go_simp; go_big_quiet_on)
      | (refine q_row 33 _ rfl rfl A16 17 sF _ Try.underlying33 rfl (by kernel_rfl) ?_; go_simp; go_big_quiet_on)
      | (refine q_row 33 _ rfl rfl A18 17 sF _ Try.underlying33 rfl (by kernel_rfl) ?_; go_simp; go_big_quiet_on)
      | (refine q_neqT 33 _ _ rfl _ _ rfl rfl (by kernel_rfl) _ KN ?_; go_simp; go_big_quiet_on)
      | (refine q_cell 24 _ rfl _ Try.underlying24 _ rfl A16 _ d0 ?_; go_simp; go_big_quiet_on)
      | (refine q_cell 24 _ rfl _ Try.underlying24 _ rfl A16 _ d16 ?_; go_simp; go_big_quiet_on)
      | (go_big_quiet_op; go_big_quiet_on)
      | (go_big_quiet_op; apply Exists.intro; refine ⟨fun w' hw' => ?_, ?_⟩; (go_at_call 11; exact (KQ _).mono fun _ _ h => ⟨h.1, hw'.step h.2⟩); go_big_quiet_on)
      | (go_big_quiet_op; apply Exists.intro; refine ⟨fun w' hw' => ?_, ?_⟩; (go_at_call 12; exact (KV _).mono fun _ _ h => ⟨h.1, hw'.step h.2⟩); go_big_quiet_on)))
  refine wpQuiet_nil ?_
  intro w14 hb
  replace A5 := A5.step hb
  replace A8 := A8.step hb
  replace A12 := A12.step hb
  replace A16 := A16.step hb
  replace A18 := A18.step hb
  replace BW := Lib.hid (BW.out.trans (hb.mono BW.out.size))
  clear hb hC d0 d16 n0 n16 g0 g16 KN KQ KV A8 A18
  change K2 _ _
  refine hK2 _ _ ?_
  go_wp2_with fail
  go_loopw [20, 21, 22, 23] (fun bf af hd iv wr => ∃ (k A B : Nat) (H : Bool), k ≤ 16 ∧ iv = .int .i64 (k : Int) ∧ bf = .float .f32 A ∧ af = .float .f32 B ∧ hd = .bool H ∧ Hid (A = sumW cs k ∧ B = sumW S k ∧ H = helB p b cs o m k) ∧ At wr w1.heap.size (rd cs p b l) 28 ∧ At wr w7.heap.size (rd S p b l) 28 ∧ At wr w9.heap.size (fl FX) 33 ∧ Hid (Below w0.heap.size w0 wr)) (fun _ _ _ iv _ => 16 - (intOf iv).toNat)
  case atStart => exact ⟨0, 0, 0, false, by omega, rfl, rfl, rfl, rfl, Lib.hid ⟨rfl, rfl, rfl⟩, A5, A12, A16, BW⟩
  case round =>
    clear A5 A12 A16 BW
    obtain ⟨k, A, B, H, hk, rfl, rfl, rfl, rfl, HK, A5, A12, A16, BW⟩ := hrel
    by_cases hlt : k < 16
    · have kd : (k : Int) < 16 := by omega
      have s2 : IntKind.i64.wrap ((k : Int) + 1) = (k : Int) + 1 := IntWalk.i64_in _ (by omega)
      have d0 := rd_cell hl p b l (k := k) hlt
      have d1 := fl_get (xs := FX) (k := k) (by omega)
      have d2 := fl_get (xs := FX) (k := k + 1) (by omega)
      have ca := A5.cell d0
      have cb := A12.cell (rd_cell hlS p b l (k := k) hlt)
      obtain ⟨A', B', t, WC, e1, hA2, e2, hB2, e3, e4, hW1, hW2⟩ := round_walk ok o m okS HS.out.2 hlt HK.out.1 HK.out.2.1
      have u1 := fun t w => run_float_arith (P := Try.prog) w .add t .f32 _ _ _ e1
      have u2 := fun t w => run_float_arith (P := Try.prog) w .add t .f32 _ _ _ e2
      have u3 := fun t w => run_float_arith (P := Try.prog) w .add t .f32 _ _ _ e3
      have u4 := fun t w => run_float_arith (P := Try.prog) w .sub t .f32 _ _ _ e4
      have lw : (FloatKind.f32.format.order WC 0 == some .lt) = false := by rw [lt_amt (by omega) (by omega)]; exact decide_eq_false (by omega)
      replace hA2 := Lib.hid hA2
      replace hB2 := Lib.hid hB2
      replace hW1 := Lib.hid hW1
      have hHk := Lib.hid HK.out.2.2
      clear e1 e2 e3 e4 HK
      cases H
      · cases hCC : decide (1065353216 < WC)
        · have hH2 : false = helB p b cs o m (k + 1) := by rw [helB, ← hHk.out, ← hW1.out, Bool.false_or]; exact hCC.symm
          have HK2 := Lib.hid (And.intro hA2.out (And.intro hB2.out hH2))
          clear hH2 hHk hW1
          have gw : (FloatKind.f32.format.order WC 1065353216 == some .gt) = false := by rw [gt_amt (by omega) (by omega)]; exact hCC
          clear hCC
          go_wp2_with fail
          have hC := Cb.const wr
          refine wp_region_cb (by kernel_rfl) (by kernel_rfl) ?_
          repeat (first
            | go_big_quiet_skip
            | (go_big_quiet_want; first
              | (refine q_cell 24 _ rfl _ Try.underlying24 _ rfl A5 _ d0 ?_; go_simp; go_big_quiet_on)
              | (refine q_cell 24 _ rfl _ Try.underlying24 _ rfl A16 _ d1 ?_; go_simp; go_big_quiet_on)
              | (refine q_cell 24 _ rfl _ Try.underlying24 _ rfl A16 _ d2 ?_; go_simp; go_big_quiet_on)
              | (go_big_quiet_op; go_big_quiet_on)))
          refine wpQuiet_nil ?_
          intro w20 hb
          replace A5 := A5.step hb
          replace A12 := A12.step hb
          replace A16 := A16.step hb
          replace BW := Lib.hid (BW.out.trans (hb.mono BW.out.size))
          clear hb hC
          go_wp2_with fail
          exact ⟨⟨k + 1, _, _, _, by omega, by go_num, rfl, rfl, rfl, HK2, A5, A12, A16, BW⟩, by simp [intOf]; omega⟩
        · have hH2 : true = helB p b cs o m (k + 1) := by rw [helB, ← hHk.out, ← hW1.out, Bool.false_or]; exact hCC.symm
          have HK2 := Lib.hid (And.intro hA2.out (And.intro hB2.out hH2))
          clear hH2 hHk hW1
          have gw : (FloatKind.f32.format.order WC 1065353216 == some .gt) = true := by rw [gt_amt (by omega) (by omega)]; exact hCC
          clear hCC
          go_wp2_with fail
          have hC := Cb.const wr
          refine wp_region_cb (by kernel_rfl) (by kernel_rfl) ?_
          repeat (first
            | go_big_quiet_skip
            | (go_big_quiet_want; first
              | (refine q_cell 24 _ rfl _ Try.underlying24 _ rfl A5 _ d0 ?_; go_simp; go_big_quiet_on)
              | (refine q_cell 24 _ rfl _ Try.underlying24 _ rfl A16 _ d1 ?_; go_simp; go_big_quiet_on)
              | (refine q_cell 24 _ rfl _ Try.underlying24 _ rfl A16 _ d2 ?_; go_simp; go_big_quiet_on)
              | (go_big_quiet_op; go_big_quiet_on)))
          refine wpQuiet_nil ?_
          intro w20 hb
          replace A5 := A5.step hb
          replace A12 := A12.step hb
          replace A16 := A16.step hb
          replace BW := Lib.hid (BW.out.trans (hb.mono BW.out.size))
          clear hb hC
          go_wp2_with fail
          exact ⟨⟨k + 1, _, _, _, by omega, by go_num, rfl, rfl, rfl, HK2, A5, A12, A16, BW⟩, by simp [intOf]; omega⟩
      · have hH2 : true = helB p b cs o m (k + 1) := by rw [helB, ← hHk.out]; rfl
        have HK2 := Lib.hid (And.intro hA2.out (And.intro hB2.out hH2))
        clear hH2 hHk hW1
        go_wp2_with fail
        have hC := Cb.const wr
        refine wp_region_cb (by kernel_rfl) (by kernel_rfl) ?_
        repeat (first
          | go_big_quiet_skip
          | (go_big_quiet_want; first
            | (refine q_cell 24 _ rfl _ Try.underlying24 _ rfl A5 _ d0 ?_; go_simp; go_big_quiet_on)
            | (refine q_cell 24 _ rfl _ Try.underlying24 _ rfl A16 _ d1 ?_; go_simp; go_big_quiet_on)
            | (refine q_cell 24 _ rfl _ Try.underlying24 _ rfl A16 _ d2 ?_; go_simp; go_big_quiet_on)
            | (go_big_quiet_op; go_big_quiet_on)))
        refine wpQuiet_nil ?_
        intro w20 hb
        replace A5 := A5.step hb
        replace A12 := A12.step hb
        replace A16 := A16.step hb
        replace BW := Lib.hid (BW.out.trans (hb.mono BW.out.size))
        clear hb hC
        go_wp2_with fail
        exact ⟨⟨k + 1, _, _, _, by omega, by go_num, rfl, rfl, rfl, HK2, A5, A12, A16, BW⟩, by simp [intOf]; omega⟩
    · obtain rfl : k = 16 := by omega
      cases H
      · obtain ⟨t, u, e1, e2, KA⟩ := bal_walk ok o m HS.out.1 HS.out.2 HK.out.1 HK.out.2.1 HK.out.2.2
        have u1 := fun t w => run_float_arith (P := Try.prog) w .add t .f32 _ _ _ e1
        have u2 := fun t w => run_float_arith (P := Try.prog) w .sub t .f32 _ _ _ e2
        clear e1 e2 A12 A16 HK
        go_wp2_with fail
        refine (KA _).mono ?_
        rintro e w20 ⟨rfl, rfl⟩
        clear KA u1 u2
        go_wp2_with fail
        have H2 := h1.step BW.out (Nat.le_refl _)
        refine (a2At_any H2 1 8 (by omega) (by omega) (by omega)).mono ?_
        rintro e v1 ⟨n, rfl, hn, rfl⟩
        go_wp2_with fail
        refine (a2At_any H2 2 8 (by omega) (by omega) (by omega)).mono ?_
        rintro e v2 ⟨q, rfl, hq, rfl⟩
        clear H2
        have KR1 := fun w => StepRoads_any cs p b l hl HC.out (by have := HB.out; omega) (by have := HB.out; omega) (by have := HB.out; omega) o (by omega) m (by omega) ((n : Nat) : Int) w
        rw [vSteps_yesR hok (by omega) (by omega) (by omega)] at KR1
        have KR3 := fun w => StepRoads_any cs p b l hl HC.out (by have := HB.out; omega) (by have := HB.out; omega) (by have := HB.out; omega) o (by omega) m (by omega) ((n + q : Nat) : Int) w
        rw [vSteps_yesR hok (by omega) (by omega) (by omega)] at KR3
        have gr0 := itS_grow ok (fun _ => o) (fun _ => m) 0 n q (by omega)
        have gr16 := itS_grow ok (fun _ => o) (fun _ => m) 16 n q (by omega)
        have lt0 := itS_lt ok (fun _ => o) (fun _ => m) 0 (n + q) (by omega)
        have lt16 := itS_lt ok (fun _ => o) (fun _ => m) 16 (n + q) (by omega)
        have hmore := itL_more p b cs o m n q
        obtain ⟨L1, hL1⟩ : ∃ L, L = itL p b cs (fun _ => o) (fun _ => m) n := ⟨_, rfl⟩
        obtain ⟨L3, hL3⟩ : ∃ L, L = itL p b cs (fun _ => o) (fun _ => m) (n + q) := ⟨_, rfl⟩
        have ok1 : OkR L1 p b l := by rw [hL1]; exact itL_ok ok _ _ _
        have ok3 : OkR L3 p b l := by rw [hL3]; exact itL_ok ok _ _ _
        have hl1 := ok1.len
        have hl3 := ok3.len
        have kb1 : okB L1 p b l = true := okR_b ok1
        have hc1 : ∀ x ∈ L1, x < 4294967296 := fun x hx => by have := ok1.cars x hx; omega
        have hc3 : ∀ x ∈ L3, x < 4294967296 := fun x hx => by have := ok3.cars x hx; omega
        rw [← hL1, ← hL3] at hmore
        rw [← hL1] at KR1
        rw [← hL3] at KR3
        have KR2 := fun w => StepRoads_any L1 p b l hl1 hc1 (by have := HB.out; omega) (by have := HB.out; omega) (by have := HB.out; omega) o (by omega) m (by omega) ((q : Nat) : Int) w
        rw [vSteps_yesR kb1 (by omega) (by omega) (by omega), hmore] at KR2
        obtain ⟨s0, hs0⟩ : ∃ s, s = itS p b cs (fun _ => o) (fun _ => m) 0 n := ⟨_, rfl⟩
        obtain ⟨s16, hs16⟩ : ∃ s, s = itS p b cs (fun _ => o) (fun _ => m) 16 n := ⟨_, rfl⟩
        rw [← hs0] at KR1 gr0
        rw [← hs16] at KR1 gr16
        generalize itS p b cs (fun _ => o) (fun _ => m) 0 (n + q) = z0 at KR3 gr0 lt0
        generalize itS p b cs (fun _ => o) (fun _ => m) 16 (n + q) = z16 at KR3 gr16 lt16
        generalize itS p b L1 (fun _ => o) (fun _ => m) 0 q = y0 at KR2
        generalize itS p b L1 (fun _ => o) (fun _ => m) 16 q = y16 at KR2
        have HL := Lib.hid (And.intro hL1 (And.intro hs0 hs16))
        clear hL1 hL3 hmore hs0 hs16
        have s3 : IntKind.i64.wrap ((n : Int) + (q : Int)) = ((n + q : Nat) : Int) := by rw [IntWalk.i64_in _ (by omega)]; omega
        have ge0 : (FloatKind.f32.format.order z0 s0 == some .gt || FloatKind.f32.format.order z0 s0 == some .eq) = true := by rw [ge_amt (by omega) (by omega)]; exact decide_eq_true gr0
        have ge16 : (FloatKind.f32.format.order z16 s16 == some .gt || FloatKind.f32.format.order z16 s16 == some .eq) = true := by rw [ge_amt (by omega) (by omega)]; exact decide_eq_true gr16
        have q0 : FloatKind.f32.format.order s0 s0 = some .eq := eqF_self (by omega)
        have q16 : FloatKind.f32.format.order s16 s16 = some .eq := eqF_self (by omega)
        clear gr0 gr16 lt0 lt16
        have KQ1 := fun w => sSameRoad_any L1 p b l hl1 hc1 (by have := HB.out; omega) (by have := HB.out; omega) (by have := HB.out; omega) L1 p b l hl1 hc1 (by have := HB.out; omega) (by have := HB.out; omega) (by have := HB.out; omega) w
        rw [sameR_self] at KQ1
        have KQ3 := fun w => sSameRoad_any L3 p b l hl3 hc3 (by have := HB.out; omega) (by have := HB.out; omega) (by have := HB.out; omega) L3 p b l hl3 hc3 (by have := HB.out; omega) (by have := HB.out; omega) (by have := HB.out; omega) w
        rw [sameR_self] at KQ3
        clear hc1 hc3 ok1 ok3 kb1
        go_wp2_with (first | ((with_reducible refine is_load 28 _ rfl ?_); refine wpList_load_at rfl 28 _ rfl _ rfl (rd cs p b l) _ A5 19 (rd_size hl p b l) _ Try.underlying28 rfl (by kernel_rfl) ?_))
        refine (KR1 _).mono ?_
        rintro e v5 ⟨rfl, hb⟩
        replace A5 := A5.step hb
        replace BW := Lib.hid (BW.out.trans (hb.mono BW.out.size))
        clear hb
        clear KR1
        have L := At.new v5 (rd (zeros 16) 0 0 0) 28
        have A27 := L.setRow (rd L1 p b l)
        replace A5 := (A5.alloc (.cells (rd (zeros 16) 0 0 0) 28)).setRow_other (k := v5.heap.size) (Nat.ne_of_lt A5.lt) (rd L1 p b l)
        replace BW := Lib.hid (bset (BW.out.alloc BW.out.size (.cells (rd (zeros 16) 0 0 0) 28)) (g := v5.heap.size) BW.out.size (rd L1 p b l))
        go_wp2_with (first | ((with_reducible refine is_store 28 _ _ rfl ?_); refine wpList_store_at rfl 28 _ _ rfl _ rfl (rd L1 p b l) rfl (rd (zeros 16) 0 0 0) _ L 19 (rd_size hl1 p b l) (rd_size (zeros_len 16) 0 0 0) (by kernel_rfl) (rd_one L1 p b l) ?_) | ((with_reducible refine is_load 28 _ rfl ?_); refine wpList_load_at rfl 28 _ rfl _ rfl (rd cs p b l) _ A5 19 (rd_size hl p b l) _ Try.underlying28 rfl (by kernel_rfl) ?_) | ((with_reducible refine is_load 28 _ rfl ?_); refine wpList_load_at rfl 28 _ rfl _ rfl (rd L1 p b l) _ A27 19 (rd_size hl1 p b l) _ Try.underlying28 rfl (by kernel_rfl) ?_))
        rw [show (#[.float .f32 0, .float .f32 0, .float .f32 0, .float .f32 0, .float .f32 0, .float .f32 0, .float .f32 0, .float .f32 0, .float .f32 0, .float .f32 0, .float .f32 0, .float .f32 0, .float .f32 0, .float .f32 0, .float .f32 0, .float .f32 0, .float .f32 0, .float .f32 0, .float .f32 0] : Array Value) = rd (zeros 16) 0 0 0 from by kernel_rfl]
        clear L
        generalize World.setRow _ _ _ = v6 at A5 A27 BW ⊢
        refine (KR2 _).mono ?_
        rintro e v7 ⟨rfl, hb⟩
        replace A5 := A5.step hb
        replace A27 := A27.step hb
        replace BW := Lib.hid (BW.out.trans (hb.mono BW.out.size))
        clear hb
        clear KR2
        have L := At.new v7 (rd (zeros 16) 0 0 0) 28
        have A31 := L.setRow (rd L3 p b l)
        replace A5 := (A5.alloc (.cells (rd (zeros 16) 0 0 0) 28)).setRow_other (k := v7.heap.size) (Nat.ne_of_lt A5.lt) (rd L3 p b l)
        replace A27 := (A27.alloc (.cells (rd (zeros 16) 0 0 0) 28)).setRow_other (k := v7.heap.size) (Nat.ne_of_lt A27.lt) (rd L3 p b l)
        replace BW := Lib.hid (bset (BW.out.alloc BW.out.size (.cells (rd (zeros 16) 0 0 0) 28)) (g := v7.heap.size) BW.out.size (rd L3 p b l))
        go_wp2_with (first | ((with_reducible refine is_store 28 _ _ rfl ?_); refine wpList_store_at rfl 28 _ _ rfl _ rfl (rd L3 p b l) rfl (rd (zeros 16) 0 0 0) _ L 19 (rd_size hl3 p b l) (rd_size (zeros_len 16) 0 0 0) (by kernel_rfl) (rd_one L3 p b l) ?_) | ((with_reducible refine is_load 28 _ rfl ?_); refine wpList_load_at rfl 28 _ rfl _ rfl (rd cs p b l) _ A5 19 (rd_size hl p b l) _ Try.underlying28 rfl (by kernel_rfl) ?_))
        rw [show (#[.float .f32 0, .float .f32 0, .float .f32 0, .float .f32 0, .float .f32 0, .float .f32 0, .float .f32 0, .float .f32 0, .float .f32 0, .float .f32 0, .float .f32 0, .float .f32 0, .float .f32 0, .float .f32 0, .float .f32 0, .float .f32 0, .float .f32 0, .float .f32 0, .float .f32 0] : Array Value) = rd (zeros 16) 0 0 0 from by kernel_rfl]
        clear L
        generalize World.setRow _ _ _ = v8 at A5 A27 A31 BW ⊢
        refine (KR3 _).mono ?_
        rintro e v9 ⟨rfl, hb⟩
        replace A5 := A5.step hb
        replace A27 := A27.step hb
        replace A31 := A31.step hb
        replace BW := Lib.hid (BW.out.trans (hb.mono BW.out.size))
        clear hb
        clear KR3
        have L := At.new v9 (rd (zeros 16) 0 0 0) 28
        have A35 := L.setRow (rd L3 p b l)
        replace A5 := (A5.alloc (.cells (rd (zeros 16) 0 0 0) 28)).setRow_other (k := v9.heap.size) (Nat.ne_of_lt A5.lt) (rd L3 p b l)
        replace A27 := (A27.alloc (.cells (rd (zeros 16) 0 0 0) 28)).setRow_other (k := v9.heap.size) (Nat.ne_of_lt A27.lt) (rd L3 p b l)
        replace A31 := (A31.alloc (.cells (rd (zeros 16) 0 0 0) 28)).setRow_other (k := v9.heap.size) (Nat.ne_of_lt A31.lt) (rd L3 p b l)
        replace BW := Lib.hid (bset (BW.out.alloc BW.out.size (.cells (rd (zeros 16) 0 0 0) 28)) (g := v9.heap.size) BW.out.size (rd L3 p b l))
        go_wp2_with (first | ((with_reducible refine is_store 28 _ _ rfl ?_); refine wpList_store_at rfl 28 _ _ rfl _ rfl (rd L3 p b l) rfl (rd (zeros 16) 0 0 0) _ L 19 (rd_size hl3 p b l) (rd_size (zeros_len 16) 0 0 0) (by kernel_rfl) (rd_one L3 p b l) ?_; refine hold ?_))
        rw [show (#[.float .f32 0, .float .f32 0, .float .f32 0, .float .f32 0, .float .f32 0, .float .f32 0, .float .f32 0, .float .f32 0, .float .f32 0, .float .f32 0, .float .f32 0, .float .f32 0, .float .f32 0, .float .f32 0, .float .f32 0, .float .f32 0, .float .f32 0, .float .f32 0, .float .f32 0] : Array Value) = rd (zeros 16) 0 0 0 from by kernel_rfl]
        clear L
        generalize World.setRow _ _ _ = v10 at A5 A27 A31 A35 BW ⊢
        refine Lib.hid ?_
        have E1 := (OwnF.empty (w := v10) (s := v10.heap.size) (lo := v10.heap.size) rfl (Nat.le_refl _)).step (b0 _ (.cells #[] 24))
        have E2 := OwnF.empty (w := v10.alloc (.cells #[] 24)) (s := v10.heap.size + 1) (lo := v10.heap.size) (World.size_alloc _ _) (Nat.le_succ _)
        have HLO := Lib.hid (And.intro BW.out.size (And.intro A5.lt (And.intro A27.lt (And.intro A31.lt A35.lt))))
        replace A5 := (A5.alloc (.cells #[] 24)).alloc (.cells #[] 24)
        replace A27 := (A27.alloc (.cells #[] 24)).alloc (.cells #[] 24)
        replace A31 := (A31.alloc (.cells #[] 24)).alloc (.cells #[] 24)
        replace A35 := (A35.alloc (.cells #[] 24)).alloc (.cells #[] 24)
        replace BW := Lib.hid (bnew (bnew BW.out (.cells #[] 24)) (.cells #[] 24))
        have hLO0 : v10.heap.size ≤ ((v10.alloc (.cells #[] 24)).alloc (.cells #[] 24)).heap.size := by rw [World.size_alloc, World.size_alloc]; omega
        go_wp2_with ((with_reducible refine is_bslice 41 0 _ rfl ?_); refine wpList_bslice rfl 41 0 _ rfl #[] (by simp) _ (run_noF _) ?_)
        obtain ⟨LO, hLO⟩ : ∃ LO, LO = v10.heap.size := ⟨_, rfl⟩
        rw [← hLO] at E1 E2 HLO hLO0 ⊢
        generalize (v10.alloc (.cells #[] 24)).alloc (.cells #[] 24) = v11 at E1 E2 A5 A27 A31 A35 BW hLO0 ⊢
        clear hLO
        obtain ⟨i0, hi, hq0, hq1, hq2⟩ := info_float
        go_loopw [39, 40, 41] (fun v u iv wr => ∃ k g1 c1 g2 c2 : Nat, k ≤ n ∧ iv = .int .i64 (k : Int) ∧ v = .slice (some ⟨g1, 0, none⟩) k c1 ∧ u = .slice (some ⟨g2, 0, none⟩) k c2 ∧ g1 ≠ g2 ∧ OwnF wr LO (.slice (some ⟨g1, 0, none⟩) k c1) (List.replicate k o) ∧ OwnF wr LO (.slice (some ⟨g2, 0, none⟩) k c2) (List.replicate k m) ∧ LO ≤ wr.heap.size ∧ At wr w1.heap.size (rd cs p b l) 28 ∧ At wr v5.heap.size (rd L1 p b l) 28 ∧ At wr v7.heap.size (rd L3 p b l) 28 ∧ At wr v9.heap.size (rd L3 p b l) 28 ∧ Hid (Below w0.heap.size w0 wr)) (fun _ _ iv _ => n - (intOf iv).toNat)
        case atStart => exact ⟨0, LO, 0, LO + 1, 0, by omega, rfl, rfl, rfl, by omega, E1, E2, hLO0, A5, A27, A31, A35, BW⟩
        case round =>
          clear A5 A27 A31 A35 BW E1 E2 hLO0
          obtain ⟨k, g1, c1, g2, c2, hk, rfl, rfl, rfl, hne, O1, O2, hLw, A5, A27, A31, A35, BW⟩ := hrel
          by_cases hlt : k < n
          · have kd : (k : Int) < (n : Int) := by omega
            have s2 : IntKind.i64.wrap ((k : Int) + 1) = (k : Int) + 1 := IntWalk.i64_in _ (by omega)
            go_wp2_with (first | ((with_reducible refine is_bslice 41 1 _ rfl ?_); refine wpList_bslice rfl 41 1 _ rfl #[(0, .float .f32 o)] (by kernel_rfl) _ (run_oneF _ o) ?_) | (at_builtin; go_loud (refine wpList_append_apart rfl _ _ 41 rfl LO 24 i0 (.float .f32 0) 1 4 Try.underlying41 hi hq0 hq1 hq2 rfl (by decide) _ (List.replicate k o).length _ rfl (O1.step (b0 _ _)) (by intro e; cases e) ⟨_, 0, none⟩ 1 1 [.float .f32 o] rfl rfl (one_cellsF _ o) (fun u hu => by simp at hu; subst hu; rfl) (by rw [List.length_replicate]; unfold maxLen; omega) (by rw [List.length_replicate]; omega) (by rw [World.size_alloc]; omega) ?_)))
            intro v' w5 hown hgrow hblk
            obtain ⟨g1', c1', hv', hne2, P1, P2, hL5, hB5⟩ := pair_grow O1 O2 rfl hne hLw hown hgrow hblk
            subst hv'
            clear hown hgrow hblk O1 O2 hne
            replace A5 := atStepB A5 hB5 HLO.out.2.1
            replace A27 := atStepB A27 hB5 HLO.out.2.2.1
            replace A31 := atStepB A31 hB5 HLO.out.2.2.2.1
            replace A35 := atStepB A35 hB5 HLO.out.2.2.2.2
            replace BW := Lib.hid (BW.out.trans (hB5.mono HLO.out.1))
            clear hB5
            go_wp2_with (first | ((with_reducible refine is_bslice 41 1 _ rfl ?_); refine wpList_bslice rfl 41 1 _ rfl #[(0, .float .f32 m)] (by kernel_rfl) _ (run_oneF _ m) ?_) | (at_builtin; go_loud (refine wpList_append_apart rfl _ _ 41 rfl LO 24 i0 (.float .f32 0) 1 4 Try.underlying41 hi hq0 hq1 hq2 rfl (by decide) _ (List.replicate k m).length _ rfl (P2.step (b0 _ _)) (by intro e; cases e) ⟨_, 0, none⟩ 1 1 [.float .f32 m] rfl rfl (one_cellsF _ m) (fun u hu => by simp at hu; subst hu; rfl) (by rw [List.length_replicate]; unfold maxLen; omega) (by rw [List.length_replicate]; omega) (by rw [World.size_alloc]; omega) ?_)))
            intro v'' w6 hown hgrow hblk
            obtain ⟨g2', c2', hv', hne3, R2, R1, hL6, hB6⟩ := pair_grow P2 P1 rfl hne2.symm hL5 hown hgrow hblk
            subst hv'
            clear hown hgrow hblk P1 P2 hne2
            replace A5 := atStepB A5 hB6 HLO.out.2.1
            replace A27 := atStepB A27 hB6 HLO.out.2.2.1
            replace A31 := atStepB A31 hB6 HLO.out.2.2.2.1
            replace A35 := atStepB A35 hB6 HLO.out.2.2.2.2
            replace BW := Lib.hid (BW.out.trans (hB6.mono HLO.out.1))
            clear hB6
            go_wp2_with fail
            exact ⟨⟨k + 1, g1', c1', g2', c2', by omega, by go_num, rfl, rfl, hne3.symm, R1, R2, hL6, A5, A27, A31, A35, BW⟩, by simp [intOf]; omega⟩
          · obtain rfl : n = k := by omega
            obtain ⟨cur1, X1, hX1⟩ := OwnF.rep O1
            obtain ⟨cur2, X2, hX2⟩ := OwnF.rep O2
            have KL := fun w X0 Y0 => StepListZ_any cs p b l hl HC.out (by have := HB.out; omega) (by have := HB.out; omega) (by have := HB.out; omega) (List.replicate n o) (List.replicate n m) (fun x hx => by rw [List.eq_of_mem_replicate hx]; omega) (fun x hx => by rw [List.eq_of_mem_replicate hx]; omega) (by rw [List.length_replicate]; omega) (by rw [List.length_replicate]; omega) g1 g2 c1 c2 cur1 cur2 hX1 hX2 24 24 w X0 Y0
            rw [vList_yes hok (by omega) (by omega) (by omega), ← HL.out.1, ← HL.out.2.1, ← HL.out.2.2] at KL
            simp only [List.length_replicate] at KL
            clear O1 O2 hX1 hX2
            go_wp2_with (first | ((with_reducible refine is_load 28 _ rfl ?_); refine wpList_load_at rfl 28 _ rfl _ rfl (rd cs p b l) _ A5 19 (rd_size hl p b l) _ Try.underlying28 rfl (by kernel_rfl) ?_))
            refine (KL _ X1 X2).mono ?_
            rintro e w7 ⟨rfl, hb⟩
            clear KL X1 X2
            replace A5 := A5.step hb
            replace A27 := A27.step hb
            replace A31 := A31.step hb
            replace A35 := A35.step hb
            replace BW := Lib.hid (BW.out.trans (hb.mono BW.out.size))
            clear hb
            have L := At.new w7 (rd (zeros 16) 0 0 0) 28
            have A42 := L.setRow (rd L1 p b l)
            replace A5 := (A5.alloc (.cells (rd (zeros 16) 0 0 0) 28)).setRow_other (k := w7.heap.size) (Nat.ne_of_lt A5.lt) (rd L1 p b l)
            replace A27 := (A27.alloc (.cells (rd (zeros 16) 0 0 0) 28)).setRow_other (k := w7.heap.size) (Nat.ne_of_lt A27.lt) (rd L1 p b l)
            replace A31 := (A31.alloc (.cells (rd (zeros 16) 0 0 0) 28)).setRow_other (k := w7.heap.size) (Nat.ne_of_lt A31.lt) (rd L1 p b l)
            replace A35 := (A35.alloc (.cells (rd (zeros 16) 0 0 0) 28)).setRow_other (k := w7.heap.size) (Nat.ne_of_lt A35.lt) (rd L1 p b l)
            replace BW := Lib.hid (bset (BW.out.alloc BW.out.size (.cells (rd (zeros 16) 0 0 0) 28)) (g := w7.heap.size) BW.out.size (rd L1 p b l))
            go_wp2_with (first | ((with_reducible refine is_store 28 _ _ rfl ?_); refine wpList_store_at rfl 28 _ _ rfl _ rfl (rd L1 p b l) rfl (rd (zeros 16) 0 0 0) _ L 19 (rd_size hl1 p b l) (rd_size (zeros_len 16) 0 0 0) (by kernel_rfl) (rd_one L1 p b l) ?_) | ((with_reducible refine is_load 28 _ rfl ?_); refine wpList_load_part_g rfl 28 _ rfl _ 0 rfl (rd L3 p b l) _ A31 19 (by rw [rd_size hl3 p b l]; omega) _ Try.underlying28 rfl (by kernel_rfl) (rd L3 p b l) (by rw [Nat.zero_add, Array.extract_eq_self_of_le (by rw [rd_size hl3 p b l]; exact Nat.le_refl _)]) ?_) | ((with_reducible refine is_load 28 _ rfl ?_); refine wpList_load_part_g rfl 28 _ rfl _ 0 rfl (rd L3 p b l) _ A35 19 (by rw [rd_size hl3 p b l]; omega) _ Try.underlying28 rfl (by kernel_rfl) (rd L3 p b l) (by rw [Nat.zero_add, Array.extract_eq_self_of_le (by rw [rd_size hl3 p b l]; exact Nat.le_refl _)]) ?_) | ((with_reducible refine is_load 28 _ rfl ?_); refine wpList_load_part_g rfl 28 _ rfl _ 0 rfl (rd L1 p b l) _ A42 19 (by rw [rd_size hl1 p b l]; omega) _ Try.underlying28 rfl (by kernel_rfl) (rd L1 p b l) (by rw [Nat.zero_add, Array.extract_eq_self_of_le (by rw [rd_size hl1 p b l]; exact Nat.le_refl _)]) ?_) | ((with_reducible refine is_load 28 _ rfl ?_); refine wpList_load_part_g rfl 28 _ rfl _ 0 rfl (rd L1 p b l) _ A27 19 (by rw [rd_size hl1 p b l]; omega) _ Try.underlying28 rfl (by kernel_rfl) (rd L1 p b l) (by rw [Nat.zero_add, Array.extract_eq_self_of_le (by rw [rd_size hl1 p b l]; exact Nat.le_refl _)]) ?_))
            rw [show (#[.float .f32 0, .float .f32 0, .float .f32 0, .float .f32 0, .float .f32 0, .float .f32 0, .float .f32 0, .float .f32 0, .float .f32 0, .float .f32 0, .float .f32 0, .float .f32 0, .float .f32 0, .float .f32 0, .float .f32 0, .float .f32 0, .float .f32 0, .float .f32 0, .float .f32 0] : Array Value) = rd (zeros 16) 0 0 0 from by kernel_rfl]
            clear L
            generalize World.setRow _ _ _ = w8 at A5 A27 A31 A35 A42 BW ⊢
            refine (KQ3 _).mono ?_
            rintro e w9 ⟨rfl, hb⟩
            replace A5 := A5.step hb
            replace A27 := A27.step hb
            replace A31 := A31.step hb
            replace A35 := A35.step hb
            replace A42 := A42.step hb
            replace BW := Lib.hid (BW.out.trans (hb.mono BW.out.size))
            clear hb
            go_wp2_with (first | ((with_reducible refine is_load 28 _ rfl ?_); refine wpList_load_part_g rfl 28 _ rfl _ 0 rfl (rd L3 p b l) _ A31 19 (by rw [rd_size hl3 p b l]; omega) _ Try.underlying28 rfl (by kernel_rfl) (rd L3 p b l) (by rw [Nat.zero_add, Array.extract_eq_self_of_le (by rw [rd_size hl3 p b l]; exact Nat.le_refl _)]) ?_) | ((with_reducible refine is_load 28 _ rfl ?_); refine wpList_load_part_g rfl 28 _ rfl _ 0 rfl (rd L3 p b l) _ A35 19 (by rw [rd_size hl3 p b l]; omega) _ Try.underlying28 rfl (by kernel_rfl) (rd L3 p b l) (by rw [Nat.zero_add, Array.extract_eq_self_of_le (by rw [rd_size hl3 p b l]; exact Nat.le_refl _)]) ?_) | ((with_reducible refine is_load 28 _ rfl ?_); refine wpList_load_part_g rfl 28 _ rfl _ 0 rfl (rd L1 p b l) _ A42 19 (by rw [rd_size hl1 p b l]; omega) _ Try.underlying28 rfl (by kernel_rfl) (rd L1 p b l) (by rw [Nat.zero_add, Array.extract_eq_self_of_le (by rw [rd_size hl1 p b l]; exact Nat.le_refl _)]) ?_) | ((with_reducible refine is_load 28 _ rfl ?_); refine wpList_load_part_g rfl 28 _ rfl _ 0 rfl (rd L1 p b l) _ A27 19 (by rw [rd_size hl1 p b l]; omega) _ Try.underlying28 rfl (by kernel_rfl) (rd L1 p b l) (by rw [Nat.zero_add, Array.extract_eq_self_of_le (by rw [rd_size hl1 p b l]; exact Nat.le_refl _)]) ?_))
            refine (KQ1 _).mono ?_
            rintro e w10 ⟨rfl, hb⟩
            replace A5 := A5.step hb
            replace A27 := A27.step hb
            replace A31 := A31.step hb
            replace A35 := A35.step hb
            replace A42 := A42.step hb
            replace BW := Lib.hid (BW.out.trans (hb.mono BW.out.size))
            clear hb
            go_wp2_with fail
            go_ret
            exact ⟨rfl, BW.out⟩
      · clear A12 A16 HK
        go_wp2_with fail
        have H2 := h1.step BW.out (Nat.le_refl _)
        refine (a2At_any H2 1 8 (by omega) (by omega) (by omega)).mono ?_
        rintro e v1 ⟨n, rfl, hn, rfl⟩
        go_wp2_with fail
        refine (a2At_any H2 2 8 (by omega) (by omega) (by omega)).mono ?_
        rintro e v2 ⟨q, rfl, hq, rfl⟩
        clear H2
        have KR1 := fun w => StepRoads_any cs p b l hl HC.out (by have := HB.out; omega) (by have := HB.out; omega) (by have := HB.out; omega) o (by omega) m (by omega) ((n : Nat) : Int) w
        rw [vSteps_yesR hok (by omega) (by omega) (by omega)] at KR1
        have KR3 := fun w => StepRoads_any cs p b l hl HC.out (by have := HB.out; omega) (by have := HB.out; omega) (by have := HB.out; omega) o (by omega) m (by omega) ((n + q : Nat) : Int) w
        rw [vSteps_yesR hok (by omega) (by omega) (by omega)] at KR3
        have gr0 := itS_grow ok (fun _ => o) (fun _ => m) 0 n q (by omega)
        have gr16 := itS_grow ok (fun _ => o) (fun _ => m) 16 n q (by omega)
        have lt0 := itS_lt ok (fun _ => o) (fun _ => m) 0 (n + q) (by omega)
        have lt16 := itS_lt ok (fun _ => o) (fun _ => m) 16 (n + q) (by omega)
        have hmore := itL_more p b cs o m n q
        obtain ⟨L1, hL1⟩ : ∃ L, L = itL p b cs (fun _ => o) (fun _ => m) n := ⟨_, rfl⟩
        obtain ⟨L3, hL3⟩ : ∃ L, L = itL p b cs (fun _ => o) (fun _ => m) (n + q) := ⟨_, rfl⟩
        have ok1 : OkR L1 p b l := by rw [hL1]; exact itL_ok ok _ _ _
        have ok3 : OkR L3 p b l := by rw [hL3]; exact itL_ok ok _ _ _
        have hl1 := ok1.len
        have hl3 := ok3.len
        have kb1 : okB L1 p b l = true := okR_b ok1
        have hc1 : ∀ x ∈ L1, x < 4294967296 := fun x hx => by have := ok1.cars x hx; omega
        have hc3 : ∀ x ∈ L3, x < 4294967296 := fun x hx => by have := ok3.cars x hx; omega
        rw [← hL1, ← hL3] at hmore
        rw [← hL1] at KR1
        rw [← hL3] at KR3
        have KR2 := fun w => StepRoads_any L1 p b l hl1 hc1 (by have := HB.out; omega) (by have := HB.out; omega) (by have := HB.out; omega) o (by omega) m (by omega) ((q : Nat) : Int) w
        rw [vSteps_yesR kb1 (by omega) (by omega) (by omega), hmore] at KR2
        obtain ⟨s0, hs0⟩ : ∃ s, s = itS p b cs (fun _ => o) (fun _ => m) 0 n := ⟨_, rfl⟩
        obtain ⟨s16, hs16⟩ : ∃ s, s = itS p b cs (fun _ => o) (fun _ => m) 16 n := ⟨_, rfl⟩
        rw [← hs0] at KR1 gr0
        rw [← hs16] at KR1 gr16
        generalize itS p b cs (fun _ => o) (fun _ => m) 0 (n + q) = z0 at KR3 gr0 lt0
        generalize itS p b cs (fun _ => o) (fun _ => m) 16 (n + q) = z16 at KR3 gr16 lt16
        generalize itS p b L1 (fun _ => o) (fun _ => m) 0 q = y0 at KR2
        generalize itS p b L1 (fun _ => o) (fun _ => m) 16 q = y16 at KR2
        have HL := Lib.hid (And.intro hL1 (And.intro hs0 hs16))
        clear hL1 hL3 hmore hs0 hs16
        have s3 : IntKind.i64.wrap ((n : Int) + (q : Int)) = ((n + q : Nat) : Int) := by rw [IntWalk.i64_in _ (by omega)]; omega
        have ge0 : (FloatKind.f32.format.order z0 s0 == some .gt || FloatKind.f32.format.order z0 s0 == some .eq) = true := by rw [ge_amt (by omega) (by omega)]; exact decide_eq_true gr0
        have ge16 : (FloatKind.f32.format.order z16 s16 == some .gt || FloatKind.f32.format.order z16 s16 == some .eq) = true := by rw [ge_amt (by omega) (by omega)]; exact decide_eq_true gr16
        have q0 : FloatKind.f32.format.order s0 s0 = some .eq := eqF_self (by omega)
        have q16 : FloatKind.f32.format.order s16 s16 = some .eq := eqF_self (by omega)
        clear gr0 gr16 lt0 lt16
        have KQ1 := fun w => sSameRoad_any L1 p b l hl1 hc1 (by have := HB.out; omega) (by have := HB.out; omega) (by have := HB.out; omega) L1 p b l hl1 hc1 (by have := HB.out; omega) (by have := HB.out; omega) (by have := HB.out; omega) w
        rw [sameR_self] at KQ1
        have KQ3 := fun w => sSameRoad_any L3 p b l hl3 hc3 (by have := HB.out; omega) (by have := HB.out; omega) (by have := HB.out; omega) L3 p b l hl3 hc3 (by have := HB.out; omega) (by have := HB.out; omega) (by have := HB.out; omega) w
        rw [sameR_self] at KQ3
        clear hc1 hc3 ok1 ok3 kb1
        go_wp2_with (first | ((with_reducible refine is_load 28 _ rfl ?_); refine wpList_load_at rfl 28 _ rfl _ rfl (rd cs p b l) _ A5 19 (rd_size hl p b l) _ Try.underlying28 rfl (by kernel_rfl) ?_))
        refine (KR1 _).mono ?_
        rintro e v5 ⟨rfl, hb⟩
        replace A5 := A5.step hb
        replace BW := Lib.hid (BW.out.trans (hb.mono BW.out.size))
        clear hb
        clear KR1
        have L := At.new v5 (rd (zeros 16) 0 0 0) 28
        have A27 := L.setRow (rd L1 p b l)
        replace A5 := (A5.alloc (.cells (rd (zeros 16) 0 0 0) 28)).setRow_other (k := v5.heap.size) (Nat.ne_of_lt A5.lt) (rd L1 p b l)
        replace BW := Lib.hid (bset (BW.out.alloc BW.out.size (.cells (rd (zeros 16) 0 0 0) 28)) (g := v5.heap.size) BW.out.size (rd L1 p b l))
        go_wp2_with (first | ((with_reducible refine is_store 28 _ _ rfl ?_); refine wpList_store_at rfl 28 _ _ rfl _ rfl (rd L1 p b l) rfl (rd (zeros 16) 0 0 0) _ L 19 (rd_size hl1 p b l) (rd_size (zeros_len 16) 0 0 0) (by kernel_rfl) (rd_one L1 p b l) ?_) | ((with_reducible refine is_load 28 _ rfl ?_); refine wpList_load_at rfl 28 _ rfl _ rfl (rd cs p b l) _ A5 19 (rd_size hl p b l) _ Try.underlying28 rfl (by kernel_rfl) ?_) | ((with_reducible refine is_load 28 _ rfl ?_); refine wpList_load_at rfl 28 _ rfl _ rfl (rd L1 p b l) _ A27 19 (rd_size hl1 p b l) _ Try.underlying28 rfl (by kernel_rfl) ?_))
        rw [show (#[.float .f32 0, .float .f32 0, .float .f32 0, .float .f32 0, .float .f32 0, .float .f32 0, .float .f32 0, .float .f32 0, .float .f32 0, .float .f32 0, .float .f32 0, .float .f32 0, .float .f32 0, .float .f32 0, .float .f32 0, .float .f32 0, .float .f32 0, .float .f32 0, .float .f32 0] : Array Value) = rd (zeros 16) 0 0 0 from by kernel_rfl]
        clear L
        generalize World.setRow _ _ _ = v6 at A5 A27 BW ⊢
        refine (KR2 _).mono ?_
        rintro e v7 ⟨rfl, hb⟩
        replace A5 := A5.step hb
        replace A27 := A27.step hb
        replace BW := Lib.hid (BW.out.trans (hb.mono BW.out.size))
        clear hb
        clear KR2
        have L := At.new v7 (rd (zeros 16) 0 0 0) 28
        have A31 := L.setRow (rd L3 p b l)
        replace A5 := (A5.alloc (.cells (rd (zeros 16) 0 0 0) 28)).setRow_other (k := v7.heap.size) (Nat.ne_of_lt A5.lt) (rd L3 p b l)
        replace A27 := (A27.alloc (.cells (rd (zeros 16) 0 0 0) 28)).setRow_other (k := v7.heap.size) (Nat.ne_of_lt A27.lt) (rd L3 p b l)
        replace BW := Lib.hid (bset (BW.out.alloc BW.out.size (.cells (rd (zeros 16) 0 0 0) 28)) (g := v7.heap.size) BW.out.size (rd L3 p b l))
        go_wp2_with (first | ((with_reducible refine is_store 28 _ _ rfl ?_); refine wpList_store_at rfl 28 _ _ rfl _ rfl (rd L3 p b l) rfl (rd (zeros 16) 0 0 0) _ L 19 (rd_size hl3 p b l) (rd_size (zeros_len 16) 0 0 0) (by kernel_rfl) (rd_one L3 p b l) ?_) | ((with_reducible refine is_load 28 _ rfl ?_); refine wpList_load_at rfl 28 _ rfl _ rfl (rd cs p b l) _ A5 19 (rd_size hl p b l) _ Try.underlying28 rfl (by kernel_rfl) ?_))
        rw [show (#[.float .f32 0, .float .f32 0, .float .f32 0, .float .f32 0, .float .f32 0, .float .f32 0, .float .f32 0, .float .f32 0, .float .f32 0, .float .f32 0, .float .f32 0, .float .f32 0, .float .f32 0, .float .f32 0, .float .f32 0, .float .f32 0, .float .f32 0, .float .f32 0, .float .f32 0] : Array Value) = rd (zeros 16) 0 0 0 from by kernel_rfl]
        clear L
        generalize World.setRow _ _ _ = v8 at A5 A27 A31 BW ⊢
        refine (KR3 _).mono ?_
        rintro e v9 ⟨rfl, hb⟩
        replace A5 := A5.step hb
        replace A27 := A27.step hb
        replace A31 := A31.step hb
        replace BW := Lib.hid (BW.out.trans (hb.mono BW.out.size))
        clear hb
        clear KR3
        have L := At.new v9 (rd (zeros 16) 0 0 0) 28
        have A35 := L.setRow (rd L3 p b l)
        replace A5 := (A5.alloc (.cells (rd (zeros 16) 0 0 0) 28)).setRow_other (k := v9.heap.size) (Nat.ne_of_lt A5.lt) (rd L3 p b l)
        replace A27 := (A27.alloc (.cells (rd (zeros 16) 0 0 0) 28)).setRow_other (k := v9.heap.size) (Nat.ne_of_lt A27.lt) (rd L3 p b l)
        replace A31 := (A31.alloc (.cells (rd (zeros 16) 0 0 0) 28)).setRow_other (k := v9.heap.size) (Nat.ne_of_lt A31.lt) (rd L3 p b l)
        replace BW := Lib.hid (bset (BW.out.alloc BW.out.size (.cells (rd (zeros 16) 0 0 0) 28)) (g := v9.heap.size) BW.out.size (rd L3 p b l))
        go_wp2_with (first | ((with_reducible refine is_store 28 _ _ rfl ?_); refine wpList_store_at rfl 28 _ _ rfl _ rfl (rd L3 p b l) rfl (rd (zeros 16) 0 0 0) _ L 19 (rd_size hl3 p b l) (rd_size (zeros_len 16) 0 0 0) (by kernel_rfl) (rd_one L3 p b l) ?_; refine hold ?_))
        rw [show (#[.float .f32 0, .float .f32 0, .float .f32 0, .float .f32 0, .float .f32 0, .float .f32 0, .float .f32 0, .float .f32 0, .float .f32 0, .float .f32 0, .float .f32 0, .float .f32 0, .float .f32 0, .float .f32 0, .float .f32 0, .float .f32 0, .float .f32 0, .float .f32 0, .float .f32 0] : Array Value) = rd (zeros 16) 0 0 0 from by kernel_rfl]
        clear L
        generalize World.setRow _ _ _ = v10 at A5 A27 A31 A35 BW ⊢
        refine Lib.hid ?_
        have E1 := (OwnF.empty (w := v10) (s := v10.heap.size) (lo := v10.heap.size) rfl (Nat.le_refl _)).step (b0 _ (.cells #[] 24))
        have E2 := OwnF.empty (w := v10.alloc (.cells #[] 24)) (s := v10.heap.size + 1) (lo := v10.heap.size) (World.size_alloc _ _) (Nat.le_succ _)
        have HLO := Lib.hid (And.intro BW.out.size (And.intro A5.lt (And.intro A27.lt (And.intro A31.lt A35.lt))))
        replace A5 := (A5.alloc (.cells #[] 24)).alloc (.cells #[] 24)
        replace A27 := (A27.alloc (.cells #[] 24)).alloc (.cells #[] 24)
        replace A31 := (A31.alloc (.cells #[] 24)).alloc (.cells #[] 24)
        replace A35 := (A35.alloc (.cells #[] 24)).alloc (.cells #[] 24)
        replace BW := Lib.hid (bnew (bnew BW.out (.cells #[] 24)) (.cells #[] 24))
        have hLO0 : v10.heap.size ≤ ((v10.alloc (.cells #[] 24)).alloc (.cells #[] 24)).heap.size := by rw [World.size_alloc, World.size_alloc]; omega
        go_wp2_with ((with_reducible refine is_bslice 41 0 _ rfl ?_); refine wpList_bslice rfl 41 0 _ rfl #[] (by simp) _ (run_noF _) ?_)
        obtain ⟨LO, hLO⟩ : ∃ LO, LO = v10.heap.size := ⟨_, rfl⟩
        rw [← hLO] at E1 E2 HLO hLO0 ⊢
        generalize (v10.alloc (.cells #[] 24)).alloc (.cells #[] 24) = v11 at E1 E2 A5 A27 A31 A35 BW hLO0 ⊢
        clear hLO
        obtain ⟨i0, hi, hq0, hq1, hq2⟩ := info_float
        go_loopw [39, 40, 41] (fun v u iv wr => ∃ k g1 c1 g2 c2 : Nat, k ≤ n ∧ iv = .int .i64 (k : Int) ∧ v = .slice (some ⟨g1, 0, none⟩) k c1 ∧ u = .slice (some ⟨g2, 0, none⟩) k c2 ∧ g1 ≠ g2 ∧ OwnF wr LO (.slice (some ⟨g1, 0, none⟩) k c1) (List.replicate k o) ∧ OwnF wr LO (.slice (some ⟨g2, 0, none⟩) k c2) (List.replicate k m) ∧ LO ≤ wr.heap.size ∧ At wr w1.heap.size (rd cs p b l) 28 ∧ At wr v5.heap.size (rd L1 p b l) 28 ∧ At wr v7.heap.size (rd L3 p b l) 28 ∧ At wr v9.heap.size (rd L3 p b l) 28 ∧ Hid (Below w0.heap.size w0 wr)) (fun _ _ iv _ => n - (intOf iv).toNat)
        case atStart => exact ⟨0, LO, 0, LO + 1, 0, by omega, rfl, rfl, rfl, by omega, E1, E2, hLO0, A5, A27, A31, A35, BW⟩
        case round =>
          clear A5 A27 A31 A35 BW E1 E2 hLO0
          obtain ⟨k, g1, c1, g2, c2, hk, rfl, rfl, rfl, hne, O1, O2, hLw, A5, A27, A31, A35, BW⟩ := hrel
          by_cases hlt : k < n
          · have kd : (k : Int) < (n : Int) := by omega
            have s2 : IntKind.i64.wrap ((k : Int) + 1) = (k : Int) + 1 := IntWalk.i64_in _ (by omega)
            go_wp2_with (first | ((with_reducible refine is_bslice 41 1 _ rfl ?_); refine wpList_bslice rfl 41 1 _ rfl #[(0, .float .f32 o)] (by kernel_rfl) _ (run_oneF _ o) ?_) | (at_builtin; go_loud (refine wpList_append_apart rfl _ _ 41 rfl LO 24 i0 (.float .f32 0) 1 4 Try.underlying41 hi hq0 hq1 hq2 rfl (by decide) _ (List.replicate k o).length _ rfl (O1.step (b0 _ _)) (by intro e; cases e) ⟨_, 0, none⟩ 1 1 [.float .f32 o] rfl rfl (one_cellsF _ o) (fun u hu => by simp at hu; subst hu; rfl) (by rw [List.length_replicate]; unfold maxLen; omega) (by rw [List.length_replicate]; omega) (by rw [World.size_alloc]; omega) ?_)))
            intro v' w5 hown hgrow hblk
            obtain ⟨g1', c1', hv', hne2, P1, P2, hL5, hB5⟩ := pair_grow O1 O2 rfl hne hLw hown hgrow hblk
            subst hv'
            clear hown hgrow hblk O1 O2 hne
            replace A5 := atStepB A5 hB5 HLO.out.2.1
            replace A27 := atStepB A27 hB5 HLO.out.2.2.1
            replace A31 := atStepB A31 hB5 HLO.out.2.2.2.1
            replace A35 := atStepB A35 hB5 HLO.out.2.2.2.2
            replace BW := Lib.hid (BW.out.trans (hB5.mono HLO.out.1))
            clear hB5
            go_wp2_with (first | ((with_reducible refine is_bslice 41 1 _ rfl ?_); refine wpList_bslice rfl 41 1 _ rfl #[(0, .float .f32 m)] (by kernel_rfl) _ (run_oneF _ m) ?_) | (at_builtin; go_loud (refine wpList_append_apart rfl _ _ 41 rfl LO 24 i0 (.float .f32 0) 1 4 Try.underlying41 hi hq0 hq1 hq2 rfl (by decide) _ (List.replicate k m).length _ rfl (P2.step (b0 _ _)) (by intro e; cases e) ⟨_, 0, none⟩ 1 1 [.float .f32 m] rfl rfl (one_cellsF _ m) (fun u hu => by simp at hu; subst hu; rfl) (by rw [List.length_replicate]; unfold maxLen; omega) (by rw [List.length_replicate]; omega) (by rw [World.size_alloc]; omega) ?_)))
            intro v'' w6 hown hgrow hblk
            obtain ⟨g2', c2', hv', hne3, R2, R1, hL6, hB6⟩ := pair_grow P2 P1 rfl hne2.symm hL5 hown hgrow hblk
            subst hv'
            clear hown hgrow hblk P1 P2 hne2
            replace A5 := atStepB A5 hB6 HLO.out.2.1
            replace A27 := atStepB A27 hB6 HLO.out.2.2.1
            replace A31 := atStepB A31 hB6 HLO.out.2.2.2.1
            replace A35 := atStepB A35 hB6 HLO.out.2.2.2.2
            replace BW := Lib.hid (BW.out.trans (hB6.mono HLO.out.1))
            clear hB6
            go_wp2_with fail
            exact ⟨⟨k + 1, g1', c1', g2', c2', by omega, by go_num, rfl, rfl, hne3.symm, R1, R2, hL6, A5, A27, A31, A35, BW⟩, by simp [intOf]; omega⟩
          · obtain rfl : n = k := by omega
            obtain ⟨cur1, X1, hX1⟩ := OwnF.rep O1
            obtain ⟨cur2, X2, hX2⟩ := OwnF.rep O2
            have KL := fun w X0 Y0 => StepListZ_any cs p b l hl HC.out (by have := HB.out; omega) (by have := HB.out; omega) (by have := HB.out; omega) (List.replicate n o) (List.replicate n m) (fun x hx => by rw [List.eq_of_mem_replicate hx]; omega) (fun x hx => by rw [List.eq_of_mem_replicate hx]; omega) (by rw [List.length_replicate]; omega) (by rw [List.length_replicate]; omega) g1 g2 c1 c2 cur1 cur2 hX1 hX2 24 24 w X0 Y0
            rw [vList_yes hok (by omega) (by omega) (by omega), ← HL.out.1, ← HL.out.2.1, ← HL.out.2.2] at KL
            simp only [List.length_replicate] at KL
            clear O1 O2 hX1 hX2
            go_wp2_with (first | ((with_reducible refine is_load 28 _ rfl ?_); refine wpList_load_at rfl 28 _ rfl _ rfl (rd cs p b l) _ A5 19 (rd_size hl p b l) _ Try.underlying28 rfl (by kernel_rfl) ?_))
            refine (KL _ X1 X2).mono ?_
            rintro e w7 ⟨rfl, hb⟩
            clear KL X1 X2
            replace A5 := A5.step hb
            replace A27 := A27.step hb
            replace A31 := A31.step hb
            replace A35 := A35.step hb
            replace BW := Lib.hid (BW.out.trans (hb.mono BW.out.size))
            clear hb
            have L := At.new w7 (rd (zeros 16) 0 0 0) 28
            have A42 := L.setRow (rd L1 p b l)
            replace A5 := (A5.alloc (.cells (rd (zeros 16) 0 0 0) 28)).setRow_other (k := w7.heap.size) (Nat.ne_of_lt A5.lt) (rd L1 p b l)
            replace A27 := (A27.alloc (.cells (rd (zeros 16) 0 0 0) 28)).setRow_other (k := w7.heap.size) (Nat.ne_of_lt A27.lt) (rd L1 p b l)
            replace A31 := (A31.alloc (.cells (rd (zeros 16) 0 0 0) 28)).setRow_other (k := w7.heap.size) (Nat.ne_of_lt A31.lt) (rd L1 p b l)
            replace A35 := (A35.alloc (.cells (rd (zeros 16) 0 0 0) 28)).setRow_other (k := w7.heap.size) (Nat.ne_of_lt A35.lt) (rd L1 p b l)
            replace BW := Lib.hid (bset (BW.out.alloc BW.out.size (.cells (rd (zeros 16) 0 0 0) 28)) (g := w7.heap.size) BW.out.size (rd L1 p b l))
            go_wp2_with (first | ((with_reducible refine is_store 28 _ _ rfl ?_); refine wpList_store_at rfl 28 _ _ rfl _ rfl (rd L1 p b l) rfl (rd (zeros 16) 0 0 0) _ L 19 (rd_size hl1 p b l) (rd_size (zeros_len 16) 0 0 0) (by kernel_rfl) (rd_one L1 p b l) ?_) | ((with_reducible refine is_load 28 _ rfl ?_); refine wpList_load_part_g rfl 28 _ rfl _ 0 rfl (rd L3 p b l) _ A31 19 (by rw [rd_size hl3 p b l]; omega) _ Try.underlying28 rfl (by kernel_rfl) (rd L3 p b l) (by rw [Nat.zero_add, Array.extract_eq_self_of_le (by rw [rd_size hl3 p b l]; exact Nat.le_refl _)]) ?_) | ((with_reducible refine is_load 28 _ rfl ?_); refine wpList_load_part_g rfl 28 _ rfl _ 0 rfl (rd L3 p b l) _ A35 19 (by rw [rd_size hl3 p b l]; omega) _ Try.underlying28 rfl (by kernel_rfl) (rd L3 p b l) (by rw [Nat.zero_add, Array.extract_eq_self_of_le (by rw [rd_size hl3 p b l]; exact Nat.le_refl _)]) ?_) | ((with_reducible refine is_load 28 _ rfl ?_); refine wpList_load_part_g rfl 28 _ rfl _ 0 rfl (rd L1 p b l) _ A42 19 (by rw [rd_size hl1 p b l]; omega) _ Try.underlying28 rfl (by kernel_rfl) (rd L1 p b l) (by rw [Nat.zero_add, Array.extract_eq_self_of_le (by rw [rd_size hl1 p b l]; exact Nat.le_refl _)]) ?_) | ((with_reducible refine is_load 28 _ rfl ?_); refine wpList_load_part_g rfl 28 _ rfl _ 0 rfl (rd L1 p b l) _ A27 19 (by rw [rd_size hl1 p b l]; omega) _ Try.underlying28 rfl (by kernel_rfl) (rd L1 p b l) (by rw [Nat.zero_add, Array.extract_eq_self_of_le (by rw [rd_size hl1 p b l]; exact Nat.le_refl _)]) ?_))
            rw [show (#[.float .f32 0, .float .f32 0, .float .f32 0, .float .f32 0, .float .f32 0, .float .f32 0, .float .f32 0, .float .f32 0, .float .f32 0, .float .f32 0, .float .f32 0, .float .f32 0, .float .f32 0, .float .f32 0, .float .f32 0, .float .f32 0, .float .f32 0, .float .f32 0, .float .f32 0] : Array Value) = rd (zeros 16) 0 0 0 from by kernel_rfl]
            clear L
            generalize World.setRow _ _ _ = w8 at A5 A27 A31 A35 A42 BW ⊢
            refine (KQ3 _).mono ?_
            rintro e w9 ⟨rfl, hb⟩
            replace A5 := A5.step hb
            replace A27 := A27.step hb
            replace A31 := A31.step hb
            replace A35 := A35.step hb
            replace A42 := A42.step hb
            replace BW := Lib.hid (BW.out.trans (hb.mono BW.out.size))
            clear hb
            go_wp2_with (first | ((with_reducible refine is_load 28 _ rfl ?_); refine wpList_load_part_g rfl 28 _ rfl _ 0 rfl (rd L3 p b l) _ A31 19 (by rw [rd_size hl3 p b l]; omega) _ Try.underlying28 rfl (by kernel_rfl) (rd L3 p b l) (by rw [Nat.zero_add, Array.extract_eq_self_of_le (by rw [rd_size hl3 p b l]; exact Nat.le_refl _)]) ?_) | ((with_reducible refine is_load 28 _ rfl ?_); refine wpList_load_part_g rfl 28 _ rfl _ 0 rfl (rd L3 p b l) _ A35 19 (by rw [rd_size hl3 p b l]; omega) _ Try.underlying28 rfl (by kernel_rfl) (rd L3 p b l) (by rw [Nat.zero_add, Array.extract_eq_self_of_le (by rw [rd_size hl3 p b l]; exact Nat.le_refl _)]) ?_) | ((with_reducible refine is_load 28 _ rfl ?_); refine wpList_load_part_g rfl 28 _ rfl _ 0 rfl (rd L1 p b l) _ A42 19 (by rw [rd_size hl1 p b l]; omega) _ Try.underlying28 rfl (by kernel_rfl) (rd L1 p b l) (by rw [Nat.zero_add, Array.extract_eq_self_of_le (by rw [rd_size hl1 p b l]; exact Nat.le_refl _)]) ?_) | ((with_reducible refine is_load 28 _ rfl ?_); refine wpList_load_part_g rfl 28 _ rfl _ 0 rfl (rd L1 p b l) _ A27 19 (by rw [rd_size hl1 p b l]; omega) _ Try.underlying28 rfl (by kernel_rfl) (rd L1 p b l) (by rw [Nat.zero_add, Array.extract_eq_self_of_le (by rw [rd_size hl1 p b l]; exact Nat.le_refl _)]) ?_))
            refine (KQ1 _).mono ?_
            rintro e w10 ⟨rfl, hb⟩
            replace A5 := A5.step hb
            replace A27 := A27.step hb
            replace A31 := A31.step hb
            replace A35 := A35.step hb
            replace A42 := A42.step hb
            replace BW := Lib.hid (BW.out.trans (hb.mono BW.out.size))
            clear hb
            go_wp2_with fail
            go_ret
            exact ⟨rfl, BW.out⟩

set_option maxRecDepth 100000 in
theorem lifted (os : Os) (started : os.Started) (H : Type) (enc : TypeId × Value → H) :
    ReturnsInHanded {} Try.checked os 3 .any (Rows.fnStepsSpec.pre6 enc Try.prog Try.f3 Rows.fnStepsRow.domain false) (Rows.fnStepsSpec.post enc Try.prog Try.f3 false true false false) := by
  refine law_liftedS enc os started (by kernel_rfl) Try.func3
    (ChangeSpec.witness6 (enc := enc) (C := Try.checked) false ⟨#[], #[.slice none 0 0, .slice none 0 0], []⟩ 24 (by kernel_rfl) (by kernel_rfl) (by kernel_rfl) (by kernel_rfl)) rfl (by kernel_rfl) ?_ ?_ ?_
  · rw [Try.params3]
    intro t ht
    have hall : (#[22, 22].toList.all fun u => Try.prog.readableRec u && decide (u < Try.prog.types.size)) = true := by kernel_rfl
    have := List.all_eq_true.1 hall t ht
    simpa using this
  · intro ds h
    rw [Try.params3] at h
    match ds, h with
    | [d0, d1], _ => rfl
  · intro W base args ds ps hl hval hA
    rw [Try.params3] at hl hval hA
    obtain ⟨v0, v1, rfl⟩ : ∃ v0 v1, args = #[v0, v1] := by
      obtain ⟨l⟩ := args
      match l, hl with
      | [v0, v1], _ => exact ⟨v0, v1, rfl⟩
    obtain ⟨vx0, vy0, dd0, de0, pp0, pq0, ee0, -, -, tr0, rr0⟩ := trodAll_cons hA
    obtain ⟨rfl, rfl⟩ := List.cons.inj ee0
    obtain ⟨vx1, vy1, dd1, de1, pp1, pq1, ee1, -, -, tr1, rr1⟩ := trodAll_cons rr0
    obtain ⟨rfl, rfl⟩ := List.cons.inj ee1
    obtain ⟨a0, c0, x0, rfl, h0⟩ := shape_bytes Try.underlying22 Try.underlying5 (by kernel_rfl) (okWide_slice Try.underlying22 (hval 0 _ _ rfl rfl)) tr0
    obtain ⟨a1, c1, x1, rfl, h1⟩ := shape_bytes Try.underlying22 Try.underlying5 (by kernel_rfl) (okWide_slice Try.underlying22 (hval 1 _ _ rfl rfl)) tr1
    exact walk W a0 c0 x0 h0 a1 c1 x1 h1

/-- THE STATEMENT -/
theorem proved : Rows.FnStepsSaid := by
  first
    | (refine OpenClaim.holds_of_wide 3 Try.f3 rfl rfl rfl rfl rfl rfl rfl ⟨rfl, rfl, rfl, rfl, rfl⟩ rfl rfl rfl rfl rfl (by kernel_rfl) Try.func3 (by kernel_rfl) (of_decide_eq_true (by kernel_rfl)) ?_ (fun os started H enc _ => lifted os started H enc))
    | (refine OpenClaim.holds_of_wide_leaving 3 Try.f3 rfl rfl rfl rfl rfl rfl rfl ⟨rfl, rfl, rfl, rfl, rfl⟩ rfl rfl rfl rfl rfl (by kernel_rfl) Try.func3 (by kernel_rfl) (of_decide_eq_true (by kernel_rfl)) ?_ (fun os started H enc _ => leaving_of_handed (lifted os started H enc)))
  unfold Func.isWrapper
  first | (rw [if_pos (by decide +kernel)]; kernel_rfl) | (rw [if_neg (by decide +kernel)]; exact ⟨rfl, rfl⟩)
#print axioms proved
end Go.Proofs.Ytapnkkbkhifmeaa.lawFnSteps
