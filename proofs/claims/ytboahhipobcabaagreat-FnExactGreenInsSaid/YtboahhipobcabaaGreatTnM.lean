/-
  CONTRACTS: ValidTown, as the model asks it.
-/
import Derived.Test.YtboahhipobcabaaGreatG19
namespace Go.Proofs.YtboahhipobcabaaGreat
open Go Go.ChangeShapes Go.WideShapes Go.ChangeAt Go.RowKit
set_option maxRecDepth 100000

theorem allN_le {f : Nat → Bool} {k n : Nat} (h : k ≤ n) (hf : allN f k = false) : allN f n = false := by
  induction n with
  | zero => obtain rfl : k = 0 := by omega
            exact hf
  | succ n ih =>
    by_cases c : k = n + 1
    · subst c; exact hf
    · show (_ && _) = _
      rw [ih (by omega)]; rfl

theorem fin_roads (nr : Nat) (hn : nr ≤ 8 ∧ 1 ≤ nr) : inB 1 8 (nr : Int) = true := decide_eq_true (by omega)

set_option maxHeartbeats 8000000 in
theorem l06Ok_own (T : Tn) (gt gr gf gj gp : Nat) (hN : TnN T) (hB : TnB T) (w : World) (hA : At w gt (tnR T (slN gr T.rs.length) (slN gf T.fs.length) (slN gj T.js.length) (slN gp T.ps.length)) 37) (hT : TOwn w gr gf gj gp T) :
    Calls Tryz.prog 43 #[.pointer (some ⟨gt, 0, none⟩)] w fun e w' => e = .returned (.bool (validS T)) ∧ Below w.heap.size w w' := by
  have A9 : At w gt (tnC (.slice (some ⟨gr, 0, none⟩) T.rs.length T.rs.length) (.slice (some ⟨gf, 0, none⟩) T.fs.length T.fs.length) (.slice (some ⟨gj, 0, none⟩) T.js.length T.js.length) (.slice (some ⟨gp, 0, none⟩) T.ps.length T.ps.length) T.tk T.ca T.we) 37 := hA
  clear hA
  obtain ⟨ys, hyl, hJ, hJk⟩ := hT.j
  have KE := l06Ends_at gt gr T.rs.length gj gp T.ps.length hN.r hN.p T.js ys hN.j hN.jn hyl (.slice (some ⟨gf, 0, none⟩) T.fs.length T.fs.length) T.tk T.ca T.we
  have KN := fun w' => l00In_b (T.rs.length : Int) 1 8 w'
  have hRs := hT.r
  have hFs := hT.f
  obtain ⟨gs, hP, hPk⟩ := hT.p
  obtain ⟨f, hf⟩ : ∃ f, f = roadK T := ⟨_, rfl⟩
  obtain ⟨g, hg⟩ : ∃ g, g = okPk T.ps := ⟨_, rfl⟩
  obtain ⟨os, hos⟩ : ∃ os, os = flatN (outsF T.js) T.js.length := ⟨_, rfl⟩
  have hfK : ∀ k, f k = (okR (fe zR T.rs k) && (amtB (nth T.fs k) && (!decide ((k : Int) ∈ os) || nilB (nth T.fs k)))) := fun k => by rw [hf, hos]; rfl
  have hgK : ∀ k, g k = okP (pS T.ps k) (pB T.ps k) (pO T.ps k) := fun k => by rw [hg]; rfl
  have hv : validS T = (sizesV T && (allN (endK T.rs.length T.ps.length T.js) T.js.length && allN f T.rs.length && allN g T.ps.length && inB 0 1000000000 T.tk && amtB T.ca && amtB T.we)) := by rw [hf, hg]; rfl
  rw [hv]
  rw [← hos] at KE
  unfold sizesV
  have hca := hB.hca
  have hwe := hB.hwe
  have hfs := hB.hfs
  have hW := hB.hW
  have hnr := hN.r
  have hnf := hN.f
  have hnj := hN.j
  have hnp := hN.p
  clear hv hf hg hos hT hN hB hyl
  generalize allN (endK T.rs.length T.ps.length T.js) T.js.length = eV at *
  obtain ⟨rs, fs, js, ps, tk, ca, we⟩ := T
  have hfK : ∀ k, f k = (okR (fe zR rs k) && (amtB (nth fs k) && (!decide ((k : Int) ∈ os) || nilB (nth fs k)))) := hfK
  have hgK : ∀ k, g k = okP (pS ps k) (pB ps k) (pO ps k) := hgK
  have hRs : At w gr (fm rdr rs) 64 := hRs
  have hFs : At w gf (fl fs) 26 := hFs
  have hP : At w gp (pvC (pvs gs ps ps.length ps.length)) 58 := hP
  have hPk : PkOk w gp gs ps := hPk
  have hW : ∀ i, i < ps.length → SlW (pS ps i) := hW
  have hfs : ∀ x ∈ fs, x < 4294967296 := hfs
  have KE : ∀ w', At w' gt (tnC (.slice (some ⟨gr, 0, none⟩) rs.length rs.length) (.slice (some ⟨gf, 0, none⟩) fs.length fs.length) (.slice (some ⟨gj, 0, none⟩) js.length js.length) (.slice (some ⟨gp, 0, none⟩) ps.length ps.length) tk ca we) 37 → At w' gj (fm jrC ys) 73 → JOk w' gj ys js → Calls _ _ _ w' (fun e w'' => ∃ gi go, e = .returned (.tuple #[.slice (some ⟨gi, 0, none⟩) rs.length rs.length, .slice (some ⟨go, 0, none⟩) rs.length rs.length, .bool eV]) ∧ (eV = true → At w'' go (bl (mkS rs.length os)) 4) ∧ w'.heap.size ≤ go ∧ Below w'.heap.size w' w'') := KE
  have HJ := Lib.hid (And.intro hJ hJk)
  have HD := Lib.hid (And.intro hRs (And.intro hFs (And.intro hP (And.intro hPk (And.intro hW (And.intro hfs (And.intro hfK hgK)))))))
  clear hJ hJk hRs hFs hP hPk hW hfs hfK hgK
  have hnr : rs.length ≤ 1048576 := hnr
  have hnf : fs.length ≤ 1048576 := hnf
  have hnj : js.length ≤ 1048576 := hnj
  have hnp : ps.length ≤ 1048576 := hnp
  have hca : ca < 4294967296 := hca
  have hwe : we < 4294967296 := hwe
  have A9 : At w gt (tnC (.slice (some ⟨gr, 0, none⟩) rs.length rs.length) (.slice (some ⟨gf, 0, none⟩) fs.length fs.length) (.slice (some ⟨gj, 0, none⟩) js.length js.length) (.slice (some ⟨gp, 0, none⟩) ps.length ps.length) tk ca we) 37 := A9
  have KN : ∀ w', Calls Tryz.prog 41 #[.int .i64 (rs.length : Int), .int .i64 1, .int .i64 8] w' (Rd (.bool (inB 1 8 (rs.length : Int))) w') := KN
  show Calls _ _ _ _ (fun e w' => e = .returned (.bool (decide (1 ≤ rs.length ∧ rs.length ≤ 8) && decide (fs.length = rs.length) && decide (js.length ≤ 4) && decide (ps.length ≤ 6) && (eV && allN f rs.length && allN g ps.length && inB 0 1000000000 tk && amtB ca && amtB we))) ∧ Below w.heap.size w w')
  obtain ⟨nr, hnrr⟩ : ∃ nr, nr = rs.length := ⟨_, rfl⟩
  obtain ⟨nf, hnff⟩ : ∃ nf, nf = fs.length := ⟨_, rfl⟩
  obtain ⟨np, hnpp⟩ : ∃ np, np = ps.length := ⟨_, rfl⟩
  rw [← hnrr, ← hnff, ← hnpp]
  rw [← hnrr, ← hnff, ← hnpp] at KE A9
  rw [← hnrr] at KN hnr
  rw [← hnff] at hnf
  rw [← hnpp] at hnp
  have HQ := Lib.hid (And.intro hnrr (And.intro hnff hnpp))
  clear hnrr hnff hnpp
  generalize js.length = nj at *
  by_cases c1 : 1 ≤ nr ∧ nr ≤ 8
  · rw [show inB 1 8 (nr : Int) = true from decide_eq_true (by omega)] at KN
    rw [decide_eq_true c1, Bool.true_and]
    by_cases c2 : nf = nr
    · have c2 := c2.symm
      subst c2
      rw [decide_eq_true rfl, Bool.true_and]
      by_cases c3 : nj ≤ 4
      · have d3 : ¬ (nj : Int) > 4 := by omega
        have d3a : decide ((nj : Int) > 4) = false := decide_eq_false d3
        have d3b : decide (4 < (nj : Int)) = false := decide_eq_false d3
        rw [decide_eq_true c3, Bool.true_and]
        by_cases c4 : np ≤ 6
        · have d4 : ¬ (np : Int) > 6 := by omega
          have d4a : decide ((np : Int) > 6) = false := decide_eq_false d4
          have d4b : decide (6 < (np : Int)) = false := decide_eq_false d4
          rw [decide_eq_true c4, Bool.true_and]
          go_enter Tryz.func43, Tryz.ntmps43
          go_wp2_with fail
          refine wp_region_cb (by kernel_rfl) (by kernel_rfl) ?_
          have hC := Cb.const w
          repeat (first
            | go_big_quiet_skip
            | (go_big_quiet_want; first
              | (refine q_oneI 33 _ rfl _ Tryz.underlying33 rfl 0 rfl A9 _ (tnC_0 _ _ _ _ _ _ _) ?_; go_simp; go_big_quiet_on)
              | (refine q_oneI 23 _ rfl _ Tryz.underlying23 rfl 1 rfl A9 _ (tnC_1 _ _ _ _ _ _ _) ?_; go_simp; go_big_quiet_on)
              | (refine q_oneI 34 _ rfl _ Tryz.underlying34 rfl 2 rfl A9 _ (tnC_2 _ _ _ _ _ _ _) ?_; go_simp; go_big_quiet_on)
              | (refine q_oneI 35 _ rfl _ Tryz.underlying35 rfl 3 rfl A9 _ (tnC_3 _ _ _ _ _ _ _) ?_; go_simp; go_big_quiet_on)
              | (go_big_quiet_op; go_big_quiet_on)
              | (go_big_quiet_op; apply Exists.intro; refine ⟨fun w' hw' => ?_, ?_⟩; (go_at_call 41; exact (KN _).mono fun _ _ h => ⟨h.1, hw'.step (by obtain ⟨m, rfl⟩ := h.2; exact bdrew (Below.refl _ _) m)⟩); go_big_quiet_on)))
          refine wpQuiet_nil ?_
          intro w5 hw5
          have A1 := A9.step hw5
          have KE1 := KE w5 A1 (HJ.out.1.step hw5) (HJ.out.2.step hw5)
          have B1 := Lib.hid hw5
          clear hC A9 KN hw5 KE
          go_wp2_with fail
          refine KE1.mono ?_
          rintro e w1 ⟨gi, go, rfl, hO, hgo, hb1⟩
          have A2 := A1.step hb1
          have B2 := Lib.hid (bthen B1.out hb1)
          clear A1 B1 KE1 hgo hb1 d3 d4
          have k0 : (0 : Int) < (nr : Int) := by omega
          cases eV
          · have HV := Lib.hid (show (false && allN f nr && allN g np && inB 0 1000000000 tk && amtB ca && amtB we) = false from by simp)
            clear hO
            go_wp2_with fail
            go_loopw [5, 6] (fun s i wr => s = .bool false ∧ i = .int .i64 0 ∧ wr = w1) (fun _ _ _ => 0)
            case atStart => exact ⟨rfl, rfl, rfl⟩
            case round =>
              obtain ⟨rfl, rfl, rfl⟩ := hrel
              go_wp2_with (first | ((with_reducible refine is_load 33 _ rfl ?_); refine wpList_load_cell rfl 33 _ rfl _ 0 rfl (tnC (.slice (some ⟨gr, 0, none⟩) nr nr) (.slice (some ⟨gf, 0, none⟩) nr nr) (.slice (some ⟨gj, 0, none⟩) nj nj) (.slice (some ⟨gp, 0, none⟩) np np) tk ca we) _ (by with_reducible assumption) _ Tryz.underlying33 rfl (.slice (some ⟨gr, 0, none⟩) nr nr) (tnC_0 _ _ _ _ _ _ _) ?_) | ((with_reducible refine is_load 23 _ rfl ?_); refine wpList_load_cell rfl 23 _ rfl _ 1 rfl (tnC (.slice (some ⟨gr, 0, none⟩) nr nr) (.slice (some ⟨gf, 0, none⟩) nr nr) (.slice (some ⟨gj, 0, none⟩) nj nj) (.slice (some ⟨gp, 0, none⟩) np np) tk ca we) _ (by with_reducible assumption) _ Tryz.underlying23 rfl (.slice (some ⟨gf, 0, none⟩) nr nr) (tnC_1 _ _ _ _ _ _ _) ?_) | ((with_reducible refine is_load 34 _ rfl ?_); refine wpList_load_cell rfl 34 _ rfl _ 2 rfl (tnC (.slice (some ⟨gr, 0, none⟩) nr nr) (.slice (some ⟨gf, 0, none⟩) nr nr) (.slice (some ⟨gj, 0, none⟩) nj nj) (.slice (some ⟨gp, 0, none⟩) np np) tk ca we) _ (by with_reducible assumption) _ Tryz.underlying34 rfl (.slice (some ⟨gj, 0, none⟩) nj nj) (tnC_2 _ _ _ _ _ _ _) ?_) | ((with_reducible refine is_load 35 _ rfl ?_); refine wpList_load_cell rfl 35 _ rfl _ 3 rfl (tnC (.slice (some ⟨gr, 0, none⟩) nr nr) (.slice (some ⟨gf, 0, none⟩) nr nr) (.slice (some ⟨gj, 0, none⟩) nj nj) (.slice (some ⟨gp, 0, none⟩) np np) tk ca we) _ (by with_reducible assumption) _ Tryz.underlying35 rfl (.slice (some ⟨gp, 0, none⟩) np np) (tnC_3 _ _ _ _ _ _ _) ?_) | ((with_reducible refine is_load 23 _ rfl ?_); refine wpList_load_cell_g rfl 23 _ rfl _ 1 rfl (tnC (.slice (some ⟨gr, 0, none⟩) nr nr) (.slice (some ⟨gf, 0, none⟩) nr nr) (.slice (some ⟨gj, 0, none⟩) nj nj) (.slice (some ⟨gp, 0, none⟩) np np) tk ca we) _ (by with_reducible assumption) _ Tryz.underlying23 rfl (.slice (some ⟨gf, 0, none⟩) nr nr) (tnC_1 _ _ _ _ _ _ _) ?_))
              go_loopw [5, 7] (fun s i wr' => s = .bool false ∧ i = .int .i64 0 ∧ wr' = wr) (fun _ _ _ => 0)
              case atStart => exact ⟨rfl, rfl, rfl⟩
              case round =>
                obtain ⟨rfl, rfl, rfl⟩ := hrel
                by_cases hz : (0 : Int) < (np : Int)
                · go_wp2_with (first | ((with_reducible refine is_load 33 _ rfl ?_); refine wpList_load_cell rfl 33 _ rfl _ 0 rfl (tnC (.slice (some ⟨gr, 0, none⟩) nr nr) (.slice (some ⟨gf, 0, none⟩) nr nr) (.slice (some ⟨gj, 0, none⟩) nj nj) (.slice (some ⟨gp, 0, none⟩) np np) tk ca we) _ (by with_reducible assumption) _ Tryz.underlying33 rfl (.slice (some ⟨gr, 0, none⟩) nr nr) (tnC_0 _ _ _ _ _ _ _) ?_) | ((with_reducible refine is_load 23 _ rfl ?_); refine wpList_load_cell rfl 23 _ rfl _ 1 rfl (tnC (.slice (some ⟨gr, 0, none⟩) nr nr) (.slice (some ⟨gf, 0, none⟩) nr nr) (.slice (some ⟨gj, 0, none⟩) nj nj) (.slice (some ⟨gp, 0, none⟩) np np) tk ca we) _ (by with_reducible assumption) _ Tryz.underlying23 rfl (.slice (some ⟨gf, 0, none⟩) nr nr) (tnC_1 _ _ _ _ _ _ _) ?_) | ((with_reducible refine is_load 34 _ rfl ?_); refine wpList_load_cell rfl 34 _ rfl _ 2 rfl (tnC (.slice (some ⟨gr, 0, none⟩) nr nr) (.slice (some ⟨gf, 0, none⟩) nr nr) (.slice (some ⟨gj, 0, none⟩) nj nj) (.slice (some ⟨gp, 0, none⟩) np np) tk ca we) _ (by with_reducible assumption) _ Tryz.underlying34 rfl (.slice (some ⟨gj, 0, none⟩) nj nj) (tnC_2 _ _ _ _ _ _ _) ?_) | ((with_reducible refine is_load 35 _ rfl ?_); refine wpList_load_cell rfl 35 _ rfl _ 3 rfl (tnC (.slice (some ⟨gr, 0, none⟩) nr nr) (.slice (some ⟨gf, 0, none⟩) nr nr) (.slice (some ⟨gj, 0, none⟩) nj nj) (.slice (some ⟨gp, 0, none⟩) np np) tk ca we) _ (by with_reducible assumption) _ Tryz.underlying35 rfl (.slice (some ⟨gp, 0, none⟩) np np) (tnC_3 _ _ _ _ _ _ _) ?_) | ((with_reducible refine is_load 23 _ rfl ?_); refine wpList_load_cell_g rfl 23 _ rfl _ 1 rfl (tnC (.slice (some ⟨gr, 0, none⟩) nr nr) (.slice (some ⟨gf, 0, none⟩) nr nr) (.slice (some ⟨gj, 0, none⟩) nj nj) (.slice (some ⟨gp, 0, none⟩) np np) tk ca we) _ (by with_reducible assumption) _ Tryz.underlying23 rfl (.slice (some ⟨gf, 0, none⟩) nr nr) (tnC_1 _ _ _ _ _ _ _) ?_))
                  go_ret
                  exact ⟨by first | rfl | (rw [HV.out]; rfl) | (have hq := HV.out; simp only [Bool.true_and] at hq; rw [hq]; rfl), B2.out⟩
                · go_wp2_with (first | ((with_reducible refine is_load 33 _ rfl ?_); refine wpList_load_cell rfl 33 _ rfl _ 0 rfl (tnC (.slice (some ⟨gr, 0, none⟩) nr nr) (.slice (some ⟨gf, 0, none⟩) nr nr) (.slice (some ⟨gj, 0, none⟩) nj nj) (.slice (some ⟨gp, 0, none⟩) np np) tk ca we) _ (by with_reducible assumption) _ Tryz.underlying33 rfl (.slice (some ⟨gr, 0, none⟩) nr nr) (tnC_0 _ _ _ _ _ _ _) ?_) | ((with_reducible refine is_load 23 _ rfl ?_); refine wpList_load_cell rfl 23 _ rfl _ 1 rfl (tnC (.slice (some ⟨gr, 0, none⟩) nr nr) (.slice (some ⟨gf, 0, none⟩) nr nr) (.slice (some ⟨gj, 0, none⟩) nj nj) (.slice (some ⟨gp, 0, none⟩) np np) tk ca we) _ (by with_reducible assumption) _ Tryz.underlying23 rfl (.slice (some ⟨gf, 0, none⟩) nr nr) (tnC_1 _ _ _ _ _ _ _) ?_) | ((with_reducible refine is_load 34 _ rfl ?_); refine wpList_load_cell rfl 34 _ rfl _ 2 rfl (tnC (.slice (some ⟨gr, 0, none⟩) nr nr) (.slice (some ⟨gf, 0, none⟩) nr nr) (.slice (some ⟨gj, 0, none⟩) nj nj) (.slice (some ⟨gp, 0, none⟩) np np) tk ca we) _ (by with_reducible assumption) _ Tryz.underlying34 rfl (.slice (some ⟨gj, 0, none⟩) nj nj) (tnC_2 _ _ _ _ _ _ _) ?_) | ((with_reducible refine is_load 35 _ rfl ?_); refine wpList_load_cell rfl 35 _ rfl _ 3 rfl (tnC (.slice (some ⟨gr, 0, none⟩) nr nr) (.slice (some ⟨gf, 0, none⟩) nr nr) (.slice (some ⟨gj, 0, none⟩) nj nj) (.slice (some ⟨gp, 0, none⟩) np np) tk ca we) _ (by with_reducible assumption) _ Tryz.underlying35 rfl (.slice (some ⟨gp, 0, none⟩) np np) (tnC_3 _ _ _ _ _ _ _) ?_) | ((with_reducible refine is_load 23 _ rfl ?_); refine wpList_load_cell_g rfl 23 _ rfl _ 1 rfl (tnC (.slice (some ⟨gr, 0, none⟩) nr nr) (.slice (some ⟨gf, 0, none⟩) nr nr) (.slice (some ⟨gj, 0, none⟩) nj nj) (.slice (some ⟨gp, 0, none⟩) np np) tk ca we) _ (by with_reducible assumption) _ Tryz.underlying23 rfl (.slice (some ⟨gf, 0, none⟩) nr nr) (tnC_1 _ _ _ _ _ _ _) ?_))
                  go_ret
                  exact ⟨by first | rfl | (rw [HV.out]; rfl) | (have hq := HV.out; simp only [Bool.true_and] at hq; rw [hq]; rfl), B2.out⟩
          · have O2 := hO rfl
            have HO := Lib.hid (And.intro A2 O2)
            clear hO A2 O2
            go_wp2_with fail
            go_loopw [5, 6] (fun s i wr => ∃ k : Nat, k ≤ nr ∧ i = .int .i64 (k : Int) ∧ s = .bool (allN f k) ∧ Hid (∃ m, wr = w1.drewN m)) (fun _ i _ => nr - (intOf i).toNat)
            case atStart => exact ⟨0, by omega, rfl, rfl, Lib.hid ⟨0, rfl⟩⟩
            case round =>
              obtain ⟨k, hk, rfl, rfl, hw⟩ := hrel
              obtain ⟨m, rfl⟩ := hw.out
              clear hw
              have A3 := HO.out.1.drewN m
              have M3 := HO.out.2.drewN m
              by_cases hlt : k < nr
              · cases hak : allN f k
                · have hE := Lib.hid (allN_le (n := nr) (by omega) hak)
                  have kd : (k : Int) < (nr : Int) := by omega
                  clear hak
                  have B3 := Lib.hid (bdrew B2.out m)
                  have HV := Lib.hid (show (true && allN f nr && allN g np && inB 0 1000000000 tk && amtB ca && amtB we) = false from by rw [hE.out]; simp)
                  clear HO M3 hE
                  generalize w1.drewN m = w3 at A3 B3 ⊢
                  go_wp2_with (first | ((with_reducible refine is_load 33 _ rfl ?_); refine wpList_load_cell rfl 33 _ rfl _ 0 rfl (tnC (.slice (some ⟨gr, 0, none⟩) nr nr) (.slice (some ⟨gf, 0, none⟩) nr nr) (.slice (some ⟨gj, 0, none⟩) nj nj) (.slice (some ⟨gp, 0, none⟩) np np) tk ca we) _ (by with_reducible assumption) _ Tryz.underlying33 rfl (.slice (some ⟨gr, 0, none⟩) nr nr) (tnC_0 _ _ _ _ _ _ _) ?_) | ((with_reducible refine is_load 23 _ rfl ?_); refine wpList_load_cell rfl 23 _ rfl _ 1 rfl (tnC (.slice (some ⟨gr, 0, none⟩) nr nr) (.slice (some ⟨gf, 0, none⟩) nr nr) (.slice (some ⟨gj, 0, none⟩) nj nj) (.slice (some ⟨gp, 0, none⟩) np np) tk ca we) _ (by with_reducible assumption) _ Tryz.underlying23 rfl (.slice (some ⟨gf, 0, none⟩) nr nr) (tnC_1 _ _ _ _ _ _ _) ?_) | ((with_reducible refine is_load 34 _ rfl ?_); refine wpList_load_cell rfl 34 _ rfl _ 2 rfl (tnC (.slice (some ⟨gr, 0, none⟩) nr nr) (.slice (some ⟨gf, 0, none⟩) nr nr) (.slice (some ⟨gj, 0, none⟩) nj nj) (.slice (some ⟨gp, 0, none⟩) np np) tk ca we) _ (by with_reducible assumption) _ Tryz.underlying34 rfl (.slice (some ⟨gj, 0, none⟩) nj nj) (tnC_2 _ _ _ _ _ _ _) ?_) | ((with_reducible refine is_load 35 _ rfl ?_); refine wpList_load_cell rfl 35 _ rfl _ 3 rfl (tnC (.slice (some ⟨gr, 0, none⟩) nr nr) (.slice (some ⟨gf, 0, none⟩) nr nr) (.slice (some ⟨gj, 0, none⟩) nj nj) (.slice (some ⟨gp, 0, none⟩) np np) tk ca we) _ (by with_reducible assumption) _ Tryz.underlying35 rfl (.slice (some ⟨gp, 0, none⟩) np np) (tnC_3 _ _ _ _ _ _ _) ?_) | ((with_reducible refine is_load 23 _ rfl ?_); refine wpList_load_cell_g rfl 23 _ rfl _ 1 rfl (tnC (.slice (some ⟨gr, 0, none⟩) nr nr) (.slice (some ⟨gf, 0, none⟩) nr nr) (.slice (some ⟨gj, 0, none⟩) nj nj) (.slice (some ⟨gp, 0, none⟩) np np) tk ca we) _ (by with_reducible assumption) _ Tryz.underlying23 rfl (.slice (some ⟨gf, 0, none⟩) nr nr) (tnC_1 _ _ _ _ _ _ _) ?_))
                  go_loopw [5, 7] (fun s i wr' => s = .bool false ∧ i = .int .i64 0 ∧ wr' = w3) (fun _ _ _ => 0)
                  case atStart => exact ⟨rfl, rfl, rfl⟩
                  case round =>
                    obtain ⟨rfl, rfl, rfl⟩ := hrel
                    by_cases hz : (0 : Int) < (np : Int)
                    · go_wp2_with (first | ((with_reducible refine is_load 33 _ rfl ?_); refine wpList_load_cell rfl 33 _ rfl _ 0 rfl (tnC (.slice (some ⟨gr, 0, none⟩) nr nr) (.slice (some ⟨gf, 0, none⟩) nr nr) (.slice (some ⟨gj, 0, none⟩) nj nj) (.slice (some ⟨gp, 0, none⟩) np np) tk ca we) _ (by with_reducible assumption) _ Tryz.underlying33 rfl (.slice (some ⟨gr, 0, none⟩) nr nr) (tnC_0 _ _ _ _ _ _ _) ?_) | ((with_reducible refine is_load 23 _ rfl ?_); refine wpList_load_cell rfl 23 _ rfl _ 1 rfl (tnC (.slice (some ⟨gr, 0, none⟩) nr nr) (.slice (some ⟨gf, 0, none⟩) nr nr) (.slice (some ⟨gj, 0, none⟩) nj nj) (.slice (some ⟨gp, 0, none⟩) np np) tk ca we) _ (by with_reducible assumption) _ Tryz.underlying23 rfl (.slice (some ⟨gf, 0, none⟩) nr nr) (tnC_1 _ _ _ _ _ _ _) ?_) | ((with_reducible refine is_load 34 _ rfl ?_); refine wpList_load_cell rfl 34 _ rfl _ 2 rfl (tnC (.slice (some ⟨gr, 0, none⟩) nr nr) (.slice (some ⟨gf, 0, none⟩) nr nr) (.slice (some ⟨gj, 0, none⟩) nj nj) (.slice (some ⟨gp, 0, none⟩) np np) tk ca we) _ (by with_reducible assumption) _ Tryz.underlying34 rfl (.slice (some ⟨gj, 0, none⟩) nj nj) (tnC_2 _ _ _ _ _ _ _) ?_) | ((with_reducible refine is_load 35 _ rfl ?_); refine wpList_load_cell rfl 35 _ rfl _ 3 rfl (tnC (.slice (some ⟨gr, 0, none⟩) nr nr) (.slice (some ⟨gf, 0, none⟩) nr nr) (.slice (some ⟨gj, 0, none⟩) nj nj) (.slice (some ⟨gp, 0, none⟩) np np) tk ca we) _ (by with_reducible assumption) _ Tryz.underlying35 rfl (.slice (some ⟨gp, 0, none⟩) np np) (tnC_3 _ _ _ _ _ _ _) ?_) | ((with_reducible refine is_load 23 _ rfl ?_); refine wpList_load_cell_g rfl 23 _ rfl _ 1 rfl (tnC (.slice (some ⟨gr, 0, none⟩) nr nr) (.slice (some ⟨gf, 0, none⟩) nr nr) (.slice (some ⟨gj, 0, none⟩) nj nj) (.slice (some ⟨gp, 0, none⟩) np np) tk ca we) _ (by with_reducible assumption) _ Tryz.underlying23 rfl (.slice (some ⟨gf, 0, none⟩) nr nr) (tnC_1 _ _ _ _ _ _ _) ?_))
                      go_ret
                      exact ⟨by first | rfl | (rw [HV.out]; rfl) | (have hq := HV.out; simp only [Bool.true_and] at hq; rw [hq]; rfl), B3.out⟩
                    · go_wp2_with (first | ((with_reducible refine is_load 33 _ rfl ?_); refine wpList_load_cell rfl 33 _ rfl _ 0 rfl (tnC (.slice (some ⟨gr, 0, none⟩) nr nr) (.slice (some ⟨gf, 0, none⟩) nr nr) (.slice (some ⟨gj, 0, none⟩) nj nj) (.slice (some ⟨gp, 0, none⟩) np np) tk ca we) _ (by with_reducible assumption) _ Tryz.underlying33 rfl (.slice (some ⟨gr, 0, none⟩) nr nr) (tnC_0 _ _ _ _ _ _ _) ?_) | ((with_reducible refine is_load 23 _ rfl ?_); refine wpList_load_cell rfl 23 _ rfl _ 1 rfl (tnC (.slice (some ⟨gr, 0, none⟩) nr nr) (.slice (some ⟨gf, 0, none⟩) nr nr) (.slice (some ⟨gj, 0, none⟩) nj nj) (.slice (some ⟨gp, 0, none⟩) np np) tk ca we) _ (by with_reducible assumption) _ Tryz.underlying23 rfl (.slice (some ⟨gf, 0, none⟩) nr nr) (tnC_1 _ _ _ _ _ _ _) ?_) | ((with_reducible refine is_load 34 _ rfl ?_); refine wpList_load_cell rfl 34 _ rfl _ 2 rfl (tnC (.slice (some ⟨gr, 0, none⟩) nr nr) (.slice (some ⟨gf, 0, none⟩) nr nr) (.slice (some ⟨gj, 0, none⟩) nj nj) (.slice (some ⟨gp, 0, none⟩) np np) tk ca we) _ (by with_reducible assumption) _ Tryz.underlying34 rfl (.slice (some ⟨gj, 0, none⟩) nj nj) (tnC_2 _ _ _ _ _ _ _) ?_) | ((with_reducible refine is_load 35 _ rfl ?_); refine wpList_load_cell rfl 35 _ rfl _ 3 rfl (tnC (.slice (some ⟨gr, 0, none⟩) nr nr) (.slice (some ⟨gf, 0, none⟩) nr nr) (.slice (some ⟨gj, 0, none⟩) nj nj) (.slice (some ⟨gp, 0, none⟩) np np) tk ca we) _ (by with_reducible assumption) _ Tryz.underlying35 rfl (.slice (some ⟨gp, 0, none⟩) np np) (tnC_3 _ _ _ _ _ _ _) ?_) | ((with_reducible refine is_load 23 _ rfl ?_); refine wpList_load_cell_g rfl 23 _ rfl _ 1 rfl (tnC (.slice (some ⟨gr, 0, none⟩) nr nr) (.slice (some ⟨gf, 0, none⟩) nr nr) (.slice (some ⟨gj, 0, none⟩) nj nj) (.slice (some ⟨gp, 0, none⟩) np np) tk ca we) _ (by with_reducible assumption) _ Tryz.underlying23 rfl (.slice (some ⟨gf, 0, none⟩) nr nr) (tnC_1 _ _ _ _ _ _ _) ?_))
                      go_ret
                      exact ⟨by first | rfl | (rw [HV.out]; rfl) | (have hq := HV.out; simp only [Bool.true_and] at hq; rw [hq]; rfl), B3.out⟩
                · skip
                  have R3 := (HD.out.1.step B2.out).drewN m
                  have F3 := (HD.out.2.1.step B2.out).drewN m
                  have hkr : k < rs.length := by rw [← HQ.out.1]; exact hlt
                  have hkf : k < fs.length := by rw [← HQ.out.2.1]; exact hlt
                  have s2 : IntKind.i64.wrap ((k : Int) + 1) = (k : Int) + 1 := IntWalk.i64_in _ (by omega)
                  have kd : (k : Int) < (nr : Int) := by omega
                  have hfk := HD.out.2.2.2.2.2.2.1 k
                  have KR := l01OkO_any gr (k * 19) (fe zR rs k).cs (fe zR rs k).p (fe zR rs k).b (fe zR rs k).l (fe zR rs k).hl (fe zR rs k).hc (fe zR rs k).hp (fe zR rs k).hb (fe zR rs k).hla (w1.drewN m) (RdAt.of_row R3 hkr)
                  change Calls _ _ _ _ (Rd (.bool (okR (fe zR rs k))) (w1.drewN m)) at KR
                  have hx := u32_lt HD.out.2.2.2.2.2.1 k
                  have dk := fl_get (xs := fs) hkf
                  have KA := fun w' => l01Amount_any (nth fs k) hx w'
                  have dm := mkS_at hlt os
                  clear R3 hkr hkf hx
                  generalize okR (fe zR rs k) = rk at *
                  generalize nth fs k = x at *
                  generalize decide ((k : Int) ∈ os) = d at *
                  have hz0 : nilB x = (FloatKind.f32.format.order x 0 == some .eq) := rfl
                  generalize hzz : (FloatKind.f32.format.order x 0) = ord at *
                  rw [hz0] at hfk
                  have hfk := Lib.hid hfk
                  have hak := Lib.hid hak
                  clear hz0
                  cases rk
                  · have HN := Lib.hid (show allN f (k + 1) = false from by rw [show allN f (k + 1) = (allN f k && f k) from rfl, hfk.out]; simp)
                    clear hfk hak
                    go_wp2_with (first | ((with_reducible refine is_load 33 _ rfl ?_); refine wpList_load_cell rfl 33 _ rfl _ 0 rfl (tnC (.slice (some ⟨gr, 0, none⟩) nr nr) (.slice (some ⟨gf, 0, none⟩) nr nr) (.slice (some ⟨gj, 0, none⟩) nj nj) (.slice (some ⟨gp, 0, none⟩) np np) tk ca we) _ (by with_reducible assumption) _ Tryz.underlying33 rfl (.slice (some ⟨gr, 0, none⟩) nr nr) (tnC_0 _ _ _ _ _ _ _) ?_) | ((with_reducible refine is_load 23 _ rfl ?_); refine wpList_load_cell rfl 23 _ rfl _ 1 rfl (tnC (.slice (some ⟨gr, 0, none⟩) nr nr) (.slice (some ⟨gf, 0, none⟩) nr nr) (.slice (some ⟨gj, 0, none⟩) nj nj) (.slice (some ⟨gp, 0, none⟩) np np) tk ca we) _ (by with_reducible assumption) _ Tryz.underlying23 rfl (.slice (some ⟨gf, 0, none⟩) nr nr) (tnC_1 _ _ _ _ _ _ _) ?_) | ((with_reducible refine is_load 34 _ rfl ?_); refine wpList_load_cell rfl 34 _ rfl _ 2 rfl (tnC (.slice (some ⟨gr, 0, none⟩) nr nr) (.slice (some ⟨gf, 0, none⟩) nr nr) (.slice (some ⟨gj, 0, none⟩) nj nj) (.slice (some ⟨gp, 0, none⟩) np np) tk ca we) _ (by with_reducible assumption) _ Tryz.underlying34 rfl (.slice (some ⟨gj, 0, none⟩) nj nj) (tnC_2 _ _ _ _ _ _ _) ?_) | ((with_reducible refine is_load 35 _ rfl ?_); refine wpList_load_cell rfl 35 _ rfl _ 3 rfl (tnC (.slice (some ⟨gr, 0, none⟩) nr nr) (.slice (some ⟨gf, 0, none⟩) nr nr) (.slice (some ⟨gj, 0, none⟩) nj nj) (.slice (some ⟨gp, 0, none⟩) np np) tk ca we) _ (by with_reducible assumption) _ Tryz.underlying35 rfl (.slice (some ⟨gp, 0, none⟩) np np) (tnC_3 _ _ _ _ _ _ _) ?_) | ((with_reducible refine is_load 23 _ rfl ?_); refine wpList_load_cell_g rfl 23 _ rfl _ 1 rfl (tnC (.slice (some ⟨gr, 0, none⟩) nr nr) (.slice (some ⟨gf, 0, none⟩) nr nr) (.slice (some ⟨gj, 0, none⟩) nj nj) (.slice (some ⟨gp, 0, none⟩) np np) tk ca we) _ (by with_reducible assumption) _ Tryz.underlying23 rfl (.slice (some ⟨gf, 0, none⟩) nr nr) (tnC_1 _ _ _ _ _ _ _) ?_) | ((with_reducible refine is_load 26 _ rfl ?_); refine wpList_load_cell_g rfl 26 _ rfl _ k rfl (fl fs) _ (by with_reducible assumption) _ Tryz.underlying26 rfl (.float .f32 x) (dk) ?_) | ((with_reducible refine is_load 4 _ rfl ?_); refine wpList_load_cell_g rfl 4 _ rfl _ k rfl (bl (mkS nr os)) _ (by with_reducible assumption) _ Tryz.underlying4 rfl (.bool d) (dm) ?_))
                    refine KR.mono ?_
                    rintro e w3 ⟨rfl, n3, rfl⟩
                    rw [drewN2e]
                    go_wp2_with fail
                    exact ⟨⟨k + 1, by omega, by go_num, by rw [HN.out], Lib.hid ⟨_, rfl⟩⟩, by simp [intOf]; omega⟩
                  · cases ca1 : amtB x
                    · have HN := Lib.hid (show allN f (k + 1) = false from by rw [show allN f (k + 1) = (allN f k && f k) from rfl, hfk.out, ca1]; simp)
                      rw [ca1] at KA
                      clear hfk hak ca1
                      go_wp2_with (first | ((with_reducible refine is_load 33 _ rfl ?_); refine wpList_load_cell rfl 33 _ rfl _ 0 rfl (tnC (.slice (some ⟨gr, 0, none⟩) nr nr) (.slice (some ⟨gf, 0, none⟩) nr nr) (.slice (some ⟨gj, 0, none⟩) nj nj) (.slice (some ⟨gp, 0, none⟩) np np) tk ca we) _ (by with_reducible assumption) _ Tryz.underlying33 rfl (.slice (some ⟨gr, 0, none⟩) nr nr) (tnC_0 _ _ _ _ _ _ _) ?_) | ((with_reducible refine is_load 23 _ rfl ?_); refine wpList_load_cell rfl 23 _ rfl _ 1 rfl (tnC (.slice (some ⟨gr, 0, none⟩) nr nr) (.slice (some ⟨gf, 0, none⟩) nr nr) (.slice (some ⟨gj, 0, none⟩) nj nj) (.slice (some ⟨gp, 0, none⟩) np np) tk ca we) _ (by with_reducible assumption) _ Tryz.underlying23 rfl (.slice (some ⟨gf, 0, none⟩) nr nr) (tnC_1 _ _ _ _ _ _ _) ?_) | ((with_reducible refine is_load 34 _ rfl ?_); refine wpList_load_cell rfl 34 _ rfl _ 2 rfl (tnC (.slice (some ⟨gr, 0, none⟩) nr nr) (.slice (some ⟨gf, 0, none⟩) nr nr) (.slice (some ⟨gj, 0, none⟩) nj nj) (.slice (some ⟨gp, 0, none⟩) np np) tk ca we) _ (by with_reducible assumption) _ Tryz.underlying34 rfl (.slice (some ⟨gj, 0, none⟩) nj nj) (tnC_2 _ _ _ _ _ _ _) ?_) | ((with_reducible refine is_load 35 _ rfl ?_); refine wpList_load_cell rfl 35 _ rfl _ 3 rfl (tnC (.slice (some ⟨gr, 0, none⟩) nr nr) (.slice (some ⟨gf, 0, none⟩) nr nr) (.slice (some ⟨gj, 0, none⟩) nj nj) (.slice (some ⟨gp, 0, none⟩) np np) tk ca we) _ (by with_reducible assumption) _ Tryz.underlying35 rfl (.slice (some ⟨gp, 0, none⟩) np np) (tnC_3 _ _ _ _ _ _ _) ?_) | ((with_reducible refine is_load 23 _ rfl ?_); refine wpList_load_cell_g rfl 23 _ rfl _ 1 rfl (tnC (.slice (some ⟨gr, 0, none⟩) nr nr) (.slice (some ⟨gf, 0, none⟩) nr nr) (.slice (some ⟨gj, 0, none⟩) nj nj) (.slice (some ⟨gp, 0, none⟩) np np) tk ca we) _ (by with_reducible assumption) _ Tryz.underlying23 rfl (.slice (some ⟨gf, 0, none⟩) nr nr) (tnC_1 _ _ _ _ _ _ _) ?_) | ((with_reducible refine is_load 26 _ rfl ?_); refine wpList_load_cell_g rfl 26 _ rfl _ k rfl (fl fs) _ (by with_reducible assumption) _ Tryz.underlying26 rfl (.float .f32 x) (dk) ?_) | ((with_reducible refine is_load 4 _ rfl ?_); refine wpList_load_cell_g rfl 4 _ rfl _ k rfl (bl (mkS nr os)) _ (by with_reducible assumption) _ Tryz.underlying4 rfl (.bool d) (dm) ?_))
                      refine KR.mono ?_
                      rintro e w3 ⟨rfl, n3, rfl⟩
                      rw [drewN2e]
                      generalize m + n3 = m3
                      have A3 := HO.out.1.drewN m3
                      have M3 := HO.out.2.drewN m3
                      have F3 := (HD.out.2.1.step B2.out).drewN m3
                      go_wp2_with (first | ((with_reducible refine is_load 33 _ rfl ?_); refine wpList_load_cell rfl 33 _ rfl _ 0 rfl (tnC (.slice (some ⟨gr, 0, none⟩) nr nr) (.slice (some ⟨gf, 0, none⟩) nr nr) (.slice (some ⟨gj, 0, none⟩) nj nj) (.slice (some ⟨gp, 0, none⟩) np np) tk ca we) _ (by with_reducible assumption) _ Tryz.underlying33 rfl (.slice (some ⟨gr, 0, none⟩) nr nr) (tnC_0 _ _ _ _ _ _ _) ?_) | ((with_reducible refine is_load 23 _ rfl ?_); refine wpList_load_cell rfl 23 _ rfl _ 1 rfl (tnC (.slice (some ⟨gr, 0, none⟩) nr nr) (.slice (some ⟨gf, 0, none⟩) nr nr) (.slice (some ⟨gj, 0, none⟩) nj nj) (.slice (some ⟨gp, 0, none⟩) np np) tk ca we) _ (by with_reducible assumption) _ Tryz.underlying23 rfl (.slice (some ⟨gf, 0, none⟩) nr nr) (tnC_1 _ _ _ _ _ _ _) ?_) | ((with_reducible refine is_load 34 _ rfl ?_); refine wpList_load_cell rfl 34 _ rfl _ 2 rfl (tnC (.slice (some ⟨gr, 0, none⟩) nr nr) (.slice (some ⟨gf, 0, none⟩) nr nr) (.slice (some ⟨gj, 0, none⟩) nj nj) (.slice (some ⟨gp, 0, none⟩) np np) tk ca we) _ (by with_reducible assumption) _ Tryz.underlying34 rfl (.slice (some ⟨gj, 0, none⟩) nj nj) (tnC_2 _ _ _ _ _ _ _) ?_) | ((with_reducible refine is_load 35 _ rfl ?_); refine wpList_load_cell rfl 35 _ rfl _ 3 rfl (tnC (.slice (some ⟨gr, 0, none⟩) nr nr) (.slice (some ⟨gf, 0, none⟩) nr nr) (.slice (some ⟨gj, 0, none⟩) nj nj) (.slice (some ⟨gp, 0, none⟩) np np) tk ca we) _ (by with_reducible assumption) _ Tryz.underlying35 rfl (.slice (some ⟨gp, 0, none⟩) np np) (tnC_3 _ _ _ _ _ _ _) ?_) | ((with_reducible refine is_load 23 _ rfl ?_); refine wpList_load_cell_g rfl 23 _ rfl _ 1 rfl (tnC (.slice (some ⟨gr, 0, none⟩) nr nr) (.slice (some ⟨gf, 0, none⟩) nr nr) (.slice (some ⟨gj, 0, none⟩) nj nj) (.slice (some ⟨gp, 0, none⟩) np np) tk ca we) _ (by with_reducible assumption) _ Tryz.underlying23 rfl (.slice (some ⟨gf, 0, none⟩) nr nr) (tnC_1 _ _ _ _ _ _ _) ?_) | ((with_reducible refine is_load 26 _ rfl ?_); refine wpList_load_cell_g rfl 26 _ rfl _ k rfl (fl fs) _ (by with_reducible assumption) _ Tryz.underlying26 rfl (.float .f32 x) (dk) ?_) | ((with_reducible refine is_load 4 _ rfl ?_); refine wpList_load_cell_g rfl 4 _ rfl _ k rfl (bl (mkS nr os)) _ (by with_reducible assumption) _ Tryz.underlying4 rfl (.bool d) (dm) ?_))
                      refine (KA _).mono ?_
                      rintro e w3 ⟨rfl, n4, rfl⟩
                      rw [drewN2e]
                      go_wp2_with fail
                      exact ⟨⟨k + 1, by omega, by go_num, by rw [HN.out], Lib.hid ⟨_, rfl⟩⟩, by simp [intOf]; omega⟩
                    · rw [ca1] at KA
                      cases d
                      · have HN := Lib.hid (show allN f (k + 1) = true from by rw [show allN f (k + 1) = (allN f k && f k) from rfl, hfk.out, ca1, hak.out]; simp)
                        clear hfk hak ca1
                        go_wp2_with (first | ((with_reducible refine is_load 33 _ rfl ?_); refine wpList_load_cell rfl 33 _ rfl _ 0 rfl (tnC (.slice (some ⟨gr, 0, none⟩) nr nr) (.slice (some ⟨gf, 0, none⟩) nr nr) (.slice (some ⟨gj, 0, none⟩) nj nj) (.slice (some ⟨gp, 0, none⟩) np np) tk ca we) _ (by with_reducible assumption) _ Tryz.underlying33 rfl (.slice (some ⟨gr, 0, none⟩) nr nr) (tnC_0 _ _ _ _ _ _ _) ?_) | ((with_reducible refine is_load 23 _ rfl ?_); refine wpList_load_cell rfl 23 _ rfl _ 1 rfl (tnC (.slice (some ⟨gr, 0, none⟩) nr nr) (.slice (some ⟨gf, 0, none⟩) nr nr) (.slice (some ⟨gj, 0, none⟩) nj nj) (.slice (some ⟨gp, 0, none⟩) np np) tk ca we) _ (by with_reducible assumption) _ Tryz.underlying23 rfl (.slice (some ⟨gf, 0, none⟩) nr nr) (tnC_1 _ _ _ _ _ _ _) ?_) | ((with_reducible refine is_load 34 _ rfl ?_); refine wpList_load_cell rfl 34 _ rfl _ 2 rfl (tnC (.slice (some ⟨gr, 0, none⟩) nr nr) (.slice (some ⟨gf, 0, none⟩) nr nr) (.slice (some ⟨gj, 0, none⟩) nj nj) (.slice (some ⟨gp, 0, none⟩) np np) tk ca we) _ (by with_reducible assumption) _ Tryz.underlying34 rfl (.slice (some ⟨gj, 0, none⟩) nj nj) (tnC_2 _ _ _ _ _ _ _) ?_) | ((with_reducible refine is_load 35 _ rfl ?_); refine wpList_load_cell rfl 35 _ rfl _ 3 rfl (tnC (.slice (some ⟨gr, 0, none⟩) nr nr) (.slice (some ⟨gf, 0, none⟩) nr nr) (.slice (some ⟨gj, 0, none⟩) nj nj) (.slice (some ⟨gp, 0, none⟩) np np) tk ca we) _ (by with_reducible assumption) _ Tryz.underlying35 rfl (.slice (some ⟨gp, 0, none⟩) np np) (tnC_3 _ _ _ _ _ _ _) ?_) | ((with_reducible refine is_load 23 _ rfl ?_); refine wpList_load_cell_g rfl 23 _ rfl _ 1 rfl (tnC (.slice (some ⟨gr, 0, none⟩) nr nr) (.slice (some ⟨gf, 0, none⟩) nr nr) (.slice (some ⟨gj, 0, none⟩) nj nj) (.slice (some ⟨gp, 0, none⟩) np np) tk ca we) _ (by with_reducible assumption) _ Tryz.underlying23 rfl (.slice (some ⟨gf, 0, none⟩) nr nr) (tnC_1 _ _ _ _ _ _ _) ?_) | ((with_reducible refine is_load 26 _ rfl ?_); refine wpList_load_cell_g rfl 26 _ rfl _ k rfl (fl fs) _ (by with_reducible assumption) _ Tryz.underlying26 rfl (.float .f32 x) (dk) ?_) | ((with_reducible refine is_load 4 _ rfl ?_); refine wpList_load_cell_g rfl 4 _ rfl _ k rfl (bl (mkS nr os)) _ (by with_reducible assumption) _ Tryz.underlying4 rfl (.bool false) (dm) ?_))
                        refine KR.mono ?_
                        rintro e w3 ⟨rfl, n3, rfl⟩
                        rw [drewN2e]
                        generalize m + n3 = m3
                        have A3 := HO.out.1.drewN m3
                        have M3 := HO.out.2.drewN m3
                        have F3 := (HD.out.2.1.step B2.out).drewN m3
                        go_wp2_with (first | ((with_reducible refine is_load 33 _ rfl ?_); refine wpList_load_cell rfl 33 _ rfl _ 0 rfl (tnC (.slice (some ⟨gr, 0, none⟩) nr nr) (.slice (some ⟨gf, 0, none⟩) nr nr) (.slice (some ⟨gj, 0, none⟩) nj nj) (.slice (some ⟨gp, 0, none⟩) np np) tk ca we) _ (by with_reducible assumption) _ Tryz.underlying33 rfl (.slice (some ⟨gr, 0, none⟩) nr nr) (tnC_0 _ _ _ _ _ _ _) ?_) | ((with_reducible refine is_load 23 _ rfl ?_); refine wpList_load_cell rfl 23 _ rfl _ 1 rfl (tnC (.slice (some ⟨gr, 0, none⟩) nr nr) (.slice (some ⟨gf, 0, none⟩) nr nr) (.slice (some ⟨gj, 0, none⟩) nj nj) (.slice (some ⟨gp, 0, none⟩) np np) tk ca we) _ (by with_reducible assumption) _ Tryz.underlying23 rfl (.slice (some ⟨gf, 0, none⟩) nr nr) (tnC_1 _ _ _ _ _ _ _) ?_) | ((with_reducible refine is_load 34 _ rfl ?_); refine wpList_load_cell rfl 34 _ rfl _ 2 rfl (tnC (.slice (some ⟨gr, 0, none⟩) nr nr) (.slice (some ⟨gf, 0, none⟩) nr nr) (.slice (some ⟨gj, 0, none⟩) nj nj) (.slice (some ⟨gp, 0, none⟩) np np) tk ca we) _ (by with_reducible assumption) _ Tryz.underlying34 rfl (.slice (some ⟨gj, 0, none⟩) nj nj) (tnC_2 _ _ _ _ _ _ _) ?_) | ((with_reducible refine is_load 35 _ rfl ?_); refine wpList_load_cell rfl 35 _ rfl _ 3 rfl (tnC (.slice (some ⟨gr, 0, none⟩) nr nr) (.slice (some ⟨gf, 0, none⟩) nr nr) (.slice (some ⟨gj, 0, none⟩) nj nj) (.slice (some ⟨gp, 0, none⟩) np np) tk ca we) _ (by with_reducible assumption) _ Tryz.underlying35 rfl (.slice (some ⟨gp, 0, none⟩) np np) (tnC_3 _ _ _ _ _ _ _) ?_) | ((with_reducible refine is_load 23 _ rfl ?_); refine wpList_load_cell_g rfl 23 _ rfl _ 1 rfl (tnC (.slice (some ⟨gr, 0, none⟩) nr nr) (.slice (some ⟨gf, 0, none⟩) nr nr) (.slice (some ⟨gj, 0, none⟩) nj nj) (.slice (some ⟨gp, 0, none⟩) np np) tk ca we) _ (by with_reducible assumption) _ Tryz.underlying23 rfl (.slice (some ⟨gf, 0, none⟩) nr nr) (tnC_1 _ _ _ _ _ _ _) ?_) | ((with_reducible refine is_load 26 _ rfl ?_); refine wpList_load_cell_g rfl 26 _ rfl _ k rfl (fl fs) _ (by with_reducible assumption) _ Tryz.underlying26 rfl (.float .f32 x) (dk) ?_) | ((with_reducible refine is_load 4 _ rfl ?_); refine wpList_load_cell_g rfl 4 _ rfl _ k rfl (bl (mkS nr os)) _ (by with_reducible assumption) _ Tryz.underlying4 rfl (.bool false) (dm) ?_))
                        refine (KA _).mono ?_
                        rintro e w3 ⟨rfl, n4, rfl⟩
                        rw [drewN2e]
                        generalize m3 + n4 = m4
                        have A4 := HO.out.1.drewN m4
                        have M4 := HO.out.2.drewN m4
                        have F4 := (HD.out.2.1.step B2.out).drewN m4
                        go_wp2_with (first | ((with_reducible refine is_load 33 _ rfl ?_); refine wpList_load_cell rfl 33 _ rfl _ 0 rfl (tnC (.slice (some ⟨gr, 0, none⟩) nr nr) (.slice (some ⟨gf, 0, none⟩) nr nr) (.slice (some ⟨gj, 0, none⟩) nj nj) (.slice (some ⟨gp, 0, none⟩) np np) tk ca we) _ (by with_reducible assumption) _ Tryz.underlying33 rfl (.slice (some ⟨gr, 0, none⟩) nr nr) (tnC_0 _ _ _ _ _ _ _) ?_) | ((with_reducible refine is_load 23 _ rfl ?_); refine wpList_load_cell rfl 23 _ rfl _ 1 rfl (tnC (.slice (some ⟨gr, 0, none⟩) nr nr) (.slice (some ⟨gf, 0, none⟩) nr nr) (.slice (some ⟨gj, 0, none⟩) nj nj) (.slice (some ⟨gp, 0, none⟩) np np) tk ca we) _ (by with_reducible assumption) _ Tryz.underlying23 rfl (.slice (some ⟨gf, 0, none⟩) nr nr) (tnC_1 _ _ _ _ _ _ _) ?_) | ((with_reducible refine is_load 34 _ rfl ?_); refine wpList_load_cell rfl 34 _ rfl _ 2 rfl (tnC (.slice (some ⟨gr, 0, none⟩) nr nr) (.slice (some ⟨gf, 0, none⟩) nr nr) (.slice (some ⟨gj, 0, none⟩) nj nj) (.slice (some ⟨gp, 0, none⟩) np np) tk ca we) _ (by with_reducible assumption) _ Tryz.underlying34 rfl (.slice (some ⟨gj, 0, none⟩) nj nj) (tnC_2 _ _ _ _ _ _ _) ?_) | ((with_reducible refine is_load 35 _ rfl ?_); refine wpList_load_cell rfl 35 _ rfl _ 3 rfl (tnC (.slice (some ⟨gr, 0, none⟩) nr nr) (.slice (some ⟨gf, 0, none⟩) nr nr) (.slice (some ⟨gj, 0, none⟩) nj nj) (.slice (some ⟨gp, 0, none⟩) np np) tk ca we) _ (by with_reducible assumption) _ Tryz.underlying35 rfl (.slice (some ⟨gp, 0, none⟩) np np) (tnC_3 _ _ _ _ _ _ _) ?_) | ((with_reducible refine is_load 23 _ rfl ?_); refine wpList_load_cell_g rfl 23 _ rfl _ 1 rfl (tnC (.slice (some ⟨gr, 0, none⟩) nr nr) (.slice (some ⟨gf, 0, none⟩) nr nr) (.slice (some ⟨gj, 0, none⟩) nj nj) (.slice (some ⟨gp, 0, none⟩) np np) tk ca we) _ (by with_reducible assumption) _ Tryz.underlying23 rfl (.slice (some ⟨gf, 0, none⟩) nr nr) (tnC_1 _ _ _ _ _ _ _) ?_) | ((with_reducible refine is_load 26 _ rfl ?_); refine wpList_load_cell_g rfl 26 _ rfl _ k rfl (fl fs) _ (by with_reducible assumption) _ Tryz.underlying26 rfl (.float .f32 x) (dk) ?_) | ((with_reducible refine is_load 4 _ rfl ?_); refine wpList_load_cell_g rfl 4 _ rfl _ k rfl (bl (mkS nr os)) _ (by with_reducible assumption) _ Tryz.underlying4 rfl (.bool false) (dm) ?_))
                        exact ⟨⟨k + 1, by omega, by go_num, by rw [HN.out], Lib.hid ⟨_, rfl⟩⟩, by simp [intOf]; omega⟩
                      · have HN := Lib.hid (show allN f (k + 1) = (ord == some .eq) from by rw [show allN f (k + 1) = (allN f k && f k) from rfl, hfk.out, ca1, hak.out]; simp)
                        clear hfk hak ca1
                        go_wp2_with (first | ((with_reducible refine is_load 33 _ rfl ?_); refine wpList_load_cell rfl 33 _ rfl _ 0 rfl (tnC (.slice (some ⟨gr, 0, none⟩) nr nr) (.slice (some ⟨gf, 0, none⟩) nr nr) (.slice (some ⟨gj, 0, none⟩) nj nj) (.slice (some ⟨gp, 0, none⟩) np np) tk ca we) _ (by with_reducible assumption) _ Tryz.underlying33 rfl (.slice (some ⟨gr, 0, none⟩) nr nr) (tnC_0 _ _ _ _ _ _ _) ?_) | ((with_reducible refine is_load 23 _ rfl ?_); refine wpList_load_cell rfl 23 _ rfl _ 1 rfl (tnC (.slice (some ⟨gr, 0, none⟩) nr nr) (.slice (some ⟨gf, 0, none⟩) nr nr) (.slice (some ⟨gj, 0, none⟩) nj nj) (.slice (some ⟨gp, 0, none⟩) np np) tk ca we) _ (by with_reducible assumption) _ Tryz.underlying23 rfl (.slice (some ⟨gf, 0, none⟩) nr nr) (tnC_1 _ _ _ _ _ _ _) ?_) | ((with_reducible refine is_load 34 _ rfl ?_); refine wpList_load_cell rfl 34 _ rfl _ 2 rfl (tnC (.slice (some ⟨gr, 0, none⟩) nr nr) (.slice (some ⟨gf, 0, none⟩) nr nr) (.slice (some ⟨gj, 0, none⟩) nj nj) (.slice (some ⟨gp, 0, none⟩) np np) tk ca we) _ (by with_reducible assumption) _ Tryz.underlying34 rfl (.slice (some ⟨gj, 0, none⟩) nj nj) (tnC_2 _ _ _ _ _ _ _) ?_) | ((with_reducible refine is_load 35 _ rfl ?_); refine wpList_load_cell rfl 35 _ rfl _ 3 rfl (tnC (.slice (some ⟨gr, 0, none⟩) nr nr) (.slice (some ⟨gf, 0, none⟩) nr nr) (.slice (some ⟨gj, 0, none⟩) nj nj) (.slice (some ⟨gp, 0, none⟩) np np) tk ca we) _ (by with_reducible assumption) _ Tryz.underlying35 rfl (.slice (some ⟨gp, 0, none⟩) np np) (tnC_3 _ _ _ _ _ _ _) ?_) | ((with_reducible refine is_load 23 _ rfl ?_); refine wpList_load_cell_g rfl 23 _ rfl _ 1 rfl (tnC (.slice (some ⟨gr, 0, none⟩) nr nr) (.slice (some ⟨gf, 0, none⟩) nr nr) (.slice (some ⟨gj, 0, none⟩) nj nj) (.slice (some ⟨gp, 0, none⟩) np np) tk ca we) _ (by with_reducible assumption) _ Tryz.underlying23 rfl (.slice (some ⟨gf, 0, none⟩) nr nr) (tnC_1 _ _ _ _ _ _ _) ?_) | ((with_reducible refine is_load 26 _ rfl ?_); refine wpList_load_cell_g rfl 26 _ rfl _ k rfl (fl fs) _ (by with_reducible assumption) _ Tryz.underlying26 rfl (.float .f32 x) (dk) ?_) | ((with_reducible refine is_load 4 _ rfl ?_); refine wpList_load_cell_g rfl 4 _ rfl _ k rfl (bl (mkS nr os)) _ (by with_reducible assumption) _ Tryz.underlying4 rfl (.bool true) (dm) ?_))
                        refine KR.mono ?_
                        rintro e w3 ⟨rfl, n3, rfl⟩
                        rw [drewN2e]
                        generalize m + n3 = m3
                        have A3 := HO.out.1.drewN m3
                        have M3 := HO.out.2.drewN m3
                        have F3 := (HD.out.2.1.step B2.out).drewN m3
                        go_wp2_with (first | ((with_reducible refine is_load 33 _ rfl ?_); refine wpList_load_cell rfl 33 _ rfl _ 0 rfl (tnC (.slice (some ⟨gr, 0, none⟩) nr nr) (.slice (some ⟨gf, 0, none⟩) nr nr) (.slice (some ⟨gj, 0, none⟩) nj nj) (.slice (some ⟨gp, 0, none⟩) np np) tk ca we) _ (by with_reducible assumption) _ Tryz.underlying33 rfl (.slice (some ⟨gr, 0, none⟩) nr nr) (tnC_0 _ _ _ _ _ _ _) ?_) | ((with_reducible refine is_load 23 _ rfl ?_); refine wpList_load_cell rfl 23 _ rfl _ 1 rfl (tnC (.slice (some ⟨gr, 0, none⟩) nr nr) (.slice (some ⟨gf, 0, none⟩) nr nr) (.slice (some ⟨gj, 0, none⟩) nj nj) (.slice (some ⟨gp, 0, none⟩) np np) tk ca we) _ (by with_reducible assumption) _ Tryz.underlying23 rfl (.slice (some ⟨gf, 0, none⟩) nr nr) (tnC_1 _ _ _ _ _ _ _) ?_) | ((with_reducible refine is_load 34 _ rfl ?_); refine wpList_load_cell rfl 34 _ rfl _ 2 rfl (tnC (.slice (some ⟨gr, 0, none⟩) nr nr) (.slice (some ⟨gf, 0, none⟩) nr nr) (.slice (some ⟨gj, 0, none⟩) nj nj) (.slice (some ⟨gp, 0, none⟩) np np) tk ca we) _ (by with_reducible assumption) _ Tryz.underlying34 rfl (.slice (some ⟨gj, 0, none⟩) nj nj) (tnC_2 _ _ _ _ _ _ _) ?_) | ((with_reducible refine is_load 35 _ rfl ?_); refine wpList_load_cell rfl 35 _ rfl _ 3 rfl (tnC (.slice (some ⟨gr, 0, none⟩) nr nr) (.slice (some ⟨gf, 0, none⟩) nr nr) (.slice (some ⟨gj, 0, none⟩) nj nj) (.slice (some ⟨gp, 0, none⟩) np np) tk ca we) _ (by with_reducible assumption) _ Tryz.underlying35 rfl (.slice (some ⟨gp, 0, none⟩) np np) (tnC_3 _ _ _ _ _ _ _) ?_) | ((with_reducible refine is_load 23 _ rfl ?_); refine wpList_load_cell_g rfl 23 _ rfl _ 1 rfl (tnC (.slice (some ⟨gr, 0, none⟩) nr nr) (.slice (some ⟨gf, 0, none⟩) nr nr) (.slice (some ⟨gj, 0, none⟩) nj nj) (.slice (some ⟨gp, 0, none⟩) np np) tk ca we) _ (by with_reducible assumption) _ Tryz.underlying23 rfl (.slice (some ⟨gf, 0, none⟩) nr nr) (tnC_1 _ _ _ _ _ _ _) ?_) | ((with_reducible refine is_load 26 _ rfl ?_); refine wpList_load_cell_g rfl 26 _ rfl _ k rfl (fl fs) _ (by with_reducible assumption) _ Tryz.underlying26 rfl (.float .f32 x) (dk) ?_) | ((with_reducible refine is_load 4 _ rfl ?_); refine wpList_load_cell_g rfl 4 _ rfl _ k rfl (bl (mkS nr os)) _ (by with_reducible assumption) _ Tryz.underlying4 rfl (.bool true) (dm) ?_))
                        refine (KA _).mono ?_
                        rintro e w3 ⟨rfl, n4, rfl⟩
                        rw [drewN2e]
                        generalize m3 + n4 = m4
                        have A4 := HO.out.1.drewN m4
                        have M4 := HO.out.2.drewN m4
                        have F4 := (HD.out.2.1.step B2.out).drewN m4
                        go_wp2_with (first | ((with_reducible refine is_load 33 _ rfl ?_); refine wpList_load_cell rfl 33 _ rfl _ 0 rfl (tnC (.slice (some ⟨gr, 0, none⟩) nr nr) (.slice (some ⟨gf, 0, none⟩) nr nr) (.slice (some ⟨gj, 0, none⟩) nj nj) (.slice (some ⟨gp, 0, none⟩) np np) tk ca we) _ (by with_reducible assumption) _ Tryz.underlying33 rfl (.slice (some ⟨gr, 0, none⟩) nr nr) (tnC_0 _ _ _ _ _ _ _) ?_) | ((with_reducible refine is_load 23 _ rfl ?_); refine wpList_load_cell rfl 23 _ rfl _ 1 rfl (tnC (.slice (some ⟨gr, 0, none⟩) nr nr) (.slice (some ⟨gf, 0, none⟩) nr nr) (.slice (some ⟨gj, 0, none⟩) nj nj) (.slice (some ⟨gp, 0, none⟩) np np) tk ca we) _ (by with_reducible assumption) _ Tryz.underlying23 rfl (.slice (some ⟨gf, 0, none⟩) nr nr) (tnC_1 _ _ _ _ _ _ _) ?_) | ((with_reducible refine is_load 34 _ rfl ?_); refine wpList_load_cell rfl 34 _ rfl _ 2 rfl (tnC (.slice (some ⟨gr, 0, none⟩) nr nr) (.slice (some ⟨gf, 0, none⟩) nr nr) (.slice (some ⟨gj, 0, none⟩) nj nj) (.slice (some ⟨gp, 0, none⟩) np np) tk ca we) _ (by with_reducible assumption) _ Tryz.underlying34 rfl (.slice (some ⟨gj, 0, none⟩) nj nj) (tnC_2 _ _ _ _ _ _ _) ?_) | ((with_reducible refine is_load 35 _ rfl ?_); refine wpList_load_cell rfl 35 _ rfl _ 3 rfl (tnC (.slice (some ⟨gr, 0, none⟩) nr nr) (.slice (some ⟨gf, 0, none⟩) nr nr) (.slice (some ⟨gj, 0, none⟩) nj nj) (.slice (some ⟨gp, 0, none⟩) np np) tk ca we) _ (by with_reducible assumption) _ Tryz.underlying35 rfl (.slice (some ⟨gp, 0, none⟩) np np) (tnC_3 _ _ _ _ _ _ _) ?_) | ((with_reducible refine is_load 23 _ rfl ?_); refine wpList_load_cell_g rfl 23 _ rfl _ 1 rfl (tnC (.slice (some ⟨gr, 0, none⟩) nr nr) (.slice (some ⟨gf, 0, none⟩) nr nr) (.slice (some ⟨gj, 0, none⟩) nj nj) (.slice (some ⟨gp, 0, none⟩) np np) tk ca we) _ (by with_reducible assumption) _ Tryz.underlying23 rfl (.slice (some ⟨gf, 0, none⟩) nr nr) (tnC_1 _ _ _ _ _ _ _) ?_) | ((with_reducible refine is_load 26 _ rfl ?_); refine wpList_load_cell_g rfl 26 _ rfl _ k rfl (fl fs) _ (by with_reducible assumption) _ Tryz.underlying26 rfl (.float .f32 x) (dk) ?_) | ((with_reducible refine is_load 4 _ rfl ?_); refine wpList_load_cell_g rfl 4 _ rfl _ k rfl (bl (mkS nr os)) _ (by with_reducible assumption) _ Tryz.underlying4 rfl (.bool true) (dm) ?_))
                        exact ⟨⟨k + 1, by omega, by go_num, by rw [HN.out], Lib.hid ⟨_, rfl⟩⟩, by simp [intOf]; omega⟩
              · obtain rfl : nr = k := by omega
                cases hF : allN f nr
                · have hE := Lib.hid hF
                  clear hF
                  have B3 := Lib.hid (bdrew B2.out m)
                  have HV := Lib.hid (show (true && allN f nr && allN g np && inB 0 1000000000 tk && amtB ca && amtB we) = false from by rw [hE.out]; simp)
                  clear HO M3 hE
                  generalize w1.drewN m = w3 at A3 B3 ⊢
                  go_wp2_with (first | ((with_reducible refine is_load 33 _ rfl ?_); refine wpList_load_cell rfl 33 _ rfl _ 0 rfl (tnC (.slice (some ⟨gr, 0, none⟩) nr nr) (.slice (some ⟨gf, 0, none⟩) nr nr) (.slice (some ⟨gj, 0, none⟩) nj nj) (.slice (some ⟨gp, 0, none⟩) np np) tk ca we) _ (by with_reducible assumption) _ Tryz.underlying33 rfl (.slice (some ⟨gr, 0, none⟩) nr nr) (tnC_0 _ _ _ _ _ _ _) ?_) | ((with_reducible refine is_load 23 _ rfl ?_); refine wpList_load_cell rfl 23 _ rfl _ 1 rfl (tnC (.slice (some ⟨gr, 0, none⟩) nr nr) (.slice (some ⟨gf, 0, none⟩) nr nr) (.slice (some ⟨gj, 0, none⟩) nj nj) (.slice (some ⟨gp, 0, none⟩) np np) tk ca we) _ (by with_reducible assumption) _ Tryz.underlying23 rfl (.slice (some ⟨gf, 0, none⟩) nr nr) (tnC_1 _ _ _ _ _ _ _) ?_) | ((with_reducible refine is_load 34 _ rfl ?_); refine wpList_load_cell rfl 34 _ rfl _ 2 rfl (tnC (.slice (some ⟨gr, 0, none⟩) nr nr) (.slice (some ⟨gf, 0, none⟩) nr nr) (.slice (some ⟨gj, 0, none⟩) nj nj) (.slice (some ⟨gp, 0, none⟩) np np) tk ca we) _ (by with_reducible assumption) _ Tryz.underlying34 rfl (.slice (some ⟨gj, 0, none⟩) nj nj) (tnC_2 _ _ _ _ _ _ _) ?_) | ((with_reducible refine is_load 35 _ rfl ?_); refine wpList_load_cell rfl 35 _ rfl _ 3 rfl (tnC (.slice (some ⟨gr, 0, none⟩) nr nr) (.slice (some ⟨gf, 0, none⟩) nr nr) (.slice (some ⟨gj, 0, none⟩) nj nj) (.slice (some ⟨gp, 0, none⟩) np np) tk ca we) _ (by with_reducible assumption) _ Tryz.underlying35 rfl (.slice (some ⟨gp, 0, none⟩) np np) (tnC_3 _ _ _ _ _ _ _) ?_) | ((with_reducible refine is_load 23 _ rfl ?_); refine wpList_load_cell_g rfl 23 _ rfl _ 1 rfl (tnC (.slice (some ⟨gr, 0, none⟩) nr nr) (.slice (some ⟨gf, 0, none⟩) nr nr) (.slice (some ⟨gj, 0, none⟩) nj nj) (.slice (some ⟨gp, 0, none⟩) np np) tk ca we) _ (by with_reducible assumption) _ Tryz.underlying23 rfl (.slice (some ⟨gf, 0, none⟩) nr nr) (tnC_1 _ _ _ _ _ _ _) ?_))
                  go_loopw [5, 7] (fun s i wr' => s = .bool false ∧ i = .int .i64 0 ∧ wr' = w3) (fun _ _ _ => 0)
                  case atStart => exact ⟨rfl, rfl, rfl⟩
                  case round =>
                    obtain ⟨rfl, rfl, rfl⟩ := hrel
                    by_cases hz : (0 : Int) < (np : Int)
                    · go_wp2_with (first | ((with_reducible refine is_load 33 _ rfl ?_); refine wpList_load_cell rfl 33 _ rfl _ 0 rfl (tnC (.slice (some ⟨gr, 0, none⟩) nr nr) (.slice (some ⟨gf, 0, none⟩) nr nr) (.slice (some ⟨gj, 0, none⟩) nj nj) (.slice (some ⟨gp, 0, none⟩) np np) tk ca we) _ (by with_reducible assumption) _ Tryz.underlying33 rfl (.slice (some ⟨gr, 0, none⟩) nr nr) (tnC_0 _ _ _ _ _ _ _) ?_) | ((with_reducible refine is_load 23 _ rfl ?_); refine wpList_load_cell rfl 23 _ rfl _ 1 rfl (tnC (.slice (some ⟨gr, 0, none⟩) nr nr) (.slice (some ⟨gf, 0, none⟩) nr nr) (.slice (some ⟨gj, 0, none⟩) nj nj) (.slice (some ⟨gp, 0, none⟩) np np) tk ca we) _ (by with_reducible assumption) _ Tryz.underlying23 rfl (.slice (some ⟨gf, 0, none⟩) nr nr) (tnC_1 _ _ _ _ _ _ _) ?_) | ((with_reducible refine is_load 34 _ rfl ?_); refine wpList_load_cell rfl 34 _ rfl _ 2 rfl (tnC (.slice (some ⟨gr, 0, none⟩) nr nr) (.slice (some ⟨gf, 0, none⟩) nr nr) (.slice (some ⟨gj, 0, none⟩) nj nj) (.slice (some ⟨gp, 0, none⟩) np np) tk ca we) _ (by with_reducible assumption) _ Tryz.underlying34 rfl (.slice (some ⟨gj, 0, none⟩) nj nj) (tnC_2 _ _ _ _ _ _ _) ?_) | ((with_reducible refine is_load 35 _ rfl ?_); refine wpList_load_cell rfl 35 _ rfl _ 3 rfl (tnC (.slice (some ⟨gr, 0, none⟩) nr nr) (.slice (some ⟨gf, 0, none⟩) nr nr) (.slice (some ⟨gj, 0, none⟩) nj nj) (.slice (some ⟨gp, 0, none⟩) np np) tk ca we) _ (by with_reducible assumption) _ Tryz.underlying35 rfl (.slice (some ⟨gp, 0, none⟩) np np) (tnC_3 _ _ _ _ _ _ _) ?_) | ((with_reducible refine is_load 23 _ rfl ?_); refine wpList_load_cell_g rfl 23 _ rfl _ 1 rfl (tnC (.slice (some ⟨gr, 0, none⟩) nr nr) (.slice (some ⟨gf, 0, none⟩) nr nr) (.slice (some ⟨gj, 0, none⟩) nj nj) (.slice (some ⟨gp, 0, none⟩) np np) tk ca we) _ (by with_reducible assumption) _ Tryz.underlying23 rfl (.slice (some ⟨gf, 0, none⟩) nr nr) (tnC_1 _ _ _ _ _ _ _) ?_))
                      go_ret
                      exact ⟨by first | rfl | (rw [HV.out]; rfl) | (have hq := HV.out; simp only [Bool.true_and] at hq; rw [hq]; rfl), B3.out⟩
                    · go_wp2_with (first | ((with_reducible refine is_load 33 _ rfl ?_); refine wpList_load_cell rfl 33 _ rfl _ 0 rfl (tnC (.slice (some ⟨gr, 0, none⟩) nr nr) (.slice (some ⟨gf, 0, none⟩) nr nr) (.slice (some ⟨gj, 0, none⟩) nj nj) (.slice (some ⟨gp, 0, none⟩) np np) tk ca we) _ (by with_reducible assumption) _ Tryz.underlying33 rfl (.slice (some ⟨gr, 0, none⟩) nr nr) (tnC_0 _ _ _ _ _ _ _) ?_) | ((with_reducible refine is_load 23 _ rfl ?_); refine wpList_load_cell rfl 23 _ rfl _ 1 rfl (tnC (.slice (some ⟨gr, 0, none⟩) nr nr) (.slice (some ⟨gf, 0, none⟩) nr nr) (.slice (some ⟨gj, 0, none⟩) nj nj) (.slice (some ⟨gp, 0, none⟩) np np) tk ca we) _ (by with_reducible assumption) _ Tryz.underlying23 rfl (.slice (some ⟨gf, 0, none⟩) nr nr) (tnC_1 _ _ _ _ _ _ _) ?_) | ((with_reducible refine is_load 34 _ rfl ?_); refine wpList_load_cell rfl 34 _ rfl _ 2 rfl (tnC (.slice (some ⟨gr, 0, none⟩) nr nr) (.slice (some ⟨gf, 0, none⟩) nr nr) (.slice (some ⟨gj, 0, none⟩) nj nj) (.slice (some ⟨gp, 0, none⟩) np np) tk ca we) _ (by with_reducible assumption) _ Tryz.underlying34 rfl (.slice (some ⟨gj, 0, none⟩) nj nj) (tnC_2 _ _ _ _ _ _ _) ?_) | ((with_reducible refine is_load 35 _ rfl ?_); refine wpList_load_cell rfl 35 _ rfl _ 3 rfl (tnC (.slice (some ⟨gr, 0, none⟩) nr nr) (.slice (some ⟨gf, 0, none⟩) nr nr) (.slice (some ⟨gj, 0, none⟩) nj nj) (.slice (some ⟨gp, 0, none⟩) np np) tk ca we) _ (by with_reducible assumption) _ Tryz.underlying35 rfl (.slice (some ⟨gp, 0, none⟩) np np) (tnC_3 _ _ _ _ _ _ _) ?_) | ((with_reducible refine is_load 23 _ rfl ?_); refine wpList_load_cell_g rfl 23 _ rfl _ 1 rfl (tnC (.slice (some ⟨gr, 0, none⟩) nr nr) (.slice (some ⟨gf, 0, none⟩) nr nr) (.slice (some ⟨gj, 0, none⟩) nj nj) (.slice (some ⟨gp, 0, none⟩) np np) tk ca we) _ (by with_reducible assumption) _ Tryz.underlying23 rfl (.slice (some ⟨gf, 0, none⟩) nr nr) (tnC_1 _ _ _ _ _ _ _) ?_))
                      go_ret
                      exact ⟨by first | rfl | (rw [HV.out]; rfl) | (have hq := HV.out; simp only [Bool.true_and] at hq; rw [hq]; rfl), B3.out⟩
                · have hFt := Lib.hid hF
                  have B3 := Lib.hid (bdrew B2.out m)
                  clear HO M3 hF
                  generalize w1.drewN m = w3 at A3 B3 ⊢
                  have H3 := Lib.hid A3
                  go_wp2_with (first | ((with_reducible refine is_load 33 _ rfl ?_); refine wpList_load_cell rfl 33 _ rfl _ 0 rfl (tnC (.slice (some ⟨gr, 0, none⟩) nr nr) (.slice (some ⟨gf, 0, none⟩) nr nr) (.slice (some ⟨gj, 0, none⟩) nj nj) (.slice (some ⟨gp, 0, none⟩) np np) tk ca we) _ (by with_reducible assumption) _ Tryz.underlying33 rfl (.slice (some ⟨gr, 0, none⟩) nr nr) (tnC_0 _ _ _ _ _ _ _) ?_) | ((with_reducible refine is_load 23 _ rfl ?_); refine wpList_load_cell rfl 23 _ rfl _ 1 rfl (tnC (.slice (some ⟨gr, 0, none⟩) nr nr) (.slice (some ⟨gf, 0, none⟩) nr nr) (.slice (some ⟨gj, 0, none⟩) nj nj) (.slice (some ⟨gp, 0, none⟩) np np) tk ca we) _ (by with_reducible assumption) _ Tryz.underlying23 rfl (.slice (some ⟨gf, 0, none⟩) nr nr) (tnC_1 _ _ _ _ _ _ _) ?_) | ((with_reducible refine is_load 34 _ rfl ?_); refine wpList_load_cell rfl 34 _ rfl _ 2 rfl (tnC (.slice (some ⟨gr, 0, none⟩) nr nr) (.slice (some ⟨gf, 0, none⟩) nr nr) (.slice (some ⟨gj, 0, none⟩) nj nj) (.slice (some ⟨gp, 0, none⟩) np np) tk ca we) _ (by with_reducible assumption) _ Tryz.underlying34 rfl (.slice (some ⟨gj, 0, none⟩) nj nj) (tnC_2 _ _ _ _ _ _ _) ?_) | ((with_reducible refine is_load 35 _ rfl ?_); refine wpList_load_cell rfl 35 _ rfl _ 3 rfl (tnC (.slice (some ⟨gr, 0, none⟩) nr nr) (.slice (some ⟨gf, 0, none⟩) nr nr) (.slice (some ⟨gj, 0, none⟩) nj nj) (.slice (some ⟨gp, 0, none⟩) np np) tk ca we) _ (by with_reducible assumption) _ Tryz.underlying35 rfl (.slice (some ⟨gp, 0, none⟩) np np) (tnC_3 _ _ _ _ _ _ _) ?_) | ((with_reducible refine is_load 23 _ rfl ?_); refine wpList_load_cell_g rfl 23 _ rfl _ 1 rfl (tnC (.slice (some ⟨gr, 0, none⟩) nr nr) (.slice (some ⟨gf, 0, none⟩) nr nr) (.slice (some ⟨gj, 0, none⟩) nj nj) (.slice (some ⟨gp, 0, none⟩) np np) tk ca we) _ (by with_reducible assumption) _ Tryz.underlying23 rfl (.slice (some ⟨gf, 0, none⟩) nr nr) (tnC_1 _ _ _ _ _ _ _) ?_))
                  go_loopw [5, 7] (fun s i wr => ∃ t : Nat, t ≤ np ∧ i = .int .i64 (t : Int) ∧ s = .bool (allN g t) ∧ Hid (Below w3.heap.size w3 wr)) (fun _ i _ => np - (intOf i).toNat)
                  case atStart => exact ⟨0, by omega, rfl, rfl, Lib.hid (Below.refl _ _)⟩
                  case round =>
                    obtain ⟨t, ht, rfl, rfl, B4⟩ := hrel
                    have A6 := H3.out.step B4.out
                    have B6 := Lib.hid (bthen B3.out B4.out)
                    clear A3
                    by_cases htl : t < np
                    · have kt : (t : Int) < (np : Int) := by omega
                      cases hag : allN g t
                      · have HV := Lib.hid (show (true && allN f nr && allN g np && inB 0 1000000000 tk && amtB ca && amtB we) = false from by rw [allN_le (n := np) (by omega) hag]; simp)
                        clear hag
                        go_wp2_with (first | ((with_reducible refine is_load 33 _ rfl ?_); refine wpList_load_cell rfl 33 _ rfl _ 0 rfl (tnC (.slice (some ⟨gr, 0, none⟩) nr nr) (.slice (some ⟨gf, 0, none⟩) nr nr) (.slice (some ⟨gj, 0, none⟩) nj nj) (.slice (some ⟨gp, 0, none⟩) np np) tk ca we) _ (by with_reducible assumption) _ Tryz.underlying33 rfl (.slice (some ⟨gr, 0, none⟩) nr nr) (tnC_0 _ _ _ _ _ _ _) ?_) | ((with_reducible refine is_load 23 _ rfl ?_); refine wpList_load_cell rfl 23 _ rfl _ 1 rfl (tnC (.slice (some ⟨gr, 0, none⟩) nr nr) (.slice (some ⟨gf, 0, none⟩) nr nr) (.slice (some ⟨gj, 0, none⟩) nj nj) (.slice (some ⟨gp, 0, none⟩) np np) tk ca we) _ (by with_reducible assumption) _ Tryz.underlying23 rfl (.slice (some ⟨gf, 0, none⟩) nr nr) (tnC_1 _ _ _ _ _ _ _) ?_) | ((with_reducible refine is_load 34 _ rfl ?_); refine wpList_load_cell rfl 34 _ rfl _ 2 rfl (tnC (.slice (some ⟨gr, 0, none⟩) nr nr) (.slice (some ⟨gf, 0, none⟩) nr nr) (.slice (some ⟨gj, 0, none⟩) nj nj) (.slice (some ⟨gp, 0, none⟩) np np) tk ca we) _ (by with_reducible assumption) _ Tryz.underlying34 rfl (.slice (some ⟨gj, 0, none⟩) nj nj) (tnC_2 _ _ _ _ _ _ _) ?_) | ((with_reducible refine is_load 35 _ rfl ?_); refine wpList_load_cell rfl 35 _ rfl _ 3 rfl (tnC (.slice (some ⟨gr, 0, none⟩) nr nr) (.slice (some ⟨gf, 0, none⟩) nr nr) (.slice (some ⟨gj, 0, none⟩) nj nj) (.slice (some ⟨gp, 0, none⟩) np np) tk ca we) _ (by with_reducible assumption) _ Tryz.underlying35 rfl (.slice (some ⟨gp, 0, none⟩) np np) (tnC_3 _ _ _ _ _ _ _) ?_) | ((with_reducible refine is_load 23 _ rfl ?_); refine wpList_load_cell_g rfl 23 _ rfl _ 1 rfl (tnC (.slice (some ⟨gr, 0, none⟩) nr nr) (.slice (some ⟨gf, 0, none⟩) nr nr) (.slice (some ⟨gj, 0, none⟩) nj nj) (.slice (some ⟨gp, 0, none⟩) np np) tk ca we) _ (by with_reducible assumption) _ Tryz.underlying23 rfl (.slice (some ⟨gf, 0, none⟩) nr nr) (tnC_1 _ _ _ _ _ _ _) ?_))
                        go_ret
                        exact ⟨by first | rfl | (rw [HV.out]; rfl) | (have hq := HV.out; simp only [Bool.true_and] at hq; rw [hq]; rfl), B6.out⟩
                      · have s4 : IntKind.i64.wrap ((t : Int) + 1) = (t : Int) + 1 := IntWalk.i64_in _ (by omega)
                        have htp : t < ps.length := by rw [← HQ.out.2.2]; exact htl
                        have P5 := HD.out.2.2.1.step B6.out
                        have G5 := (HD.out.2.2.2.1 t htp).1.step B6.out
                        have KP := l04OkO_any gp (t * 3) (gs t) (pS ps t) (pB ps t) (pO ps t) (HD.out.2.2.2.2.1 t htp) _ wr (PlAt.of_row P5 htp) G5
                        rw [← HD.out.2.2.2.2.2.2.2 t] at KP
                        have HN := Lib.hid (show allN g (t + 1) = g t from by rw [show allN g (t + 1) = (allN g t && g t) from rfl, hag]; rfl)
                        clear htp P5 G5 hag
                        generalize g t = gt' at *
                        go_wp2_with (first | ((with_reducible refine is_load 33 _ rfl ?_); refine wpList_load_cell rfl 33 _ rfl _ 0 rfl (tnC (.slice (some ⟨gr, 0, none⟩) nr nr) (.slice (some ⟨gf, 0, none⟩) nr nr) (.slice (some ⟨gj, 0, none⟩) nj nj) (.slice (some ⟨gp, 0, none⟩) np np) tk ca we) _ (by with_reducible assumption) _ Tryz.underlying33 rfl (.slice (some ⟨gr, 0, none⟩) nr nr) (tnC_0 _ _ _ _ _ _ _) ?_) | ((with_reducible refine is_load 23 _ rfl ?_); refine wpList_load_cell rfl 23 _ rfl _ 1 rfl (tnC (.slice (some ⟨gr, 0, none⟩) nr nr) (.slice (some ⟨gf, 0, none⟩) nr nr) (.slice (some ⟨gj, 0, none⟩) nj nj) (.slice (some ⟨gp, 0, none⟩) np np) tk ca we) _ (by with_reducible assumption) _ Tryz.underlying23 rfl (.slice (some ⟨gf, 0, none⟩) nr nr) (tnC_1 _ _ _ _ _ _ _) ?_) | ((with_reducible refine is_load 34 _ rfl ?_); refine wpList_load_cell rfl 34 _ rfl _ 2 rfl (tnC (.slice (some ⟨gr, 0, none⟩) nr nr) (.slice (some ⟨gf, 0, none⟩) nr nr) (.slice (some ⟨gj, 0, none⟩) nj nj) (.slice (some ⟨gp, 0, none⟩) np np) tk ca we) _ (by with_reducible assumption) _ Tryz.underlying34 rfl (.slice (some ⟨gj, 0, none⟩) nj nj) (tnC_2 _ _ _ _ _ _ _) ?_) | ((with_reducible refine is_load 35 _ rfl ?_); refine wpList_load_cell rfl 35 _ rfl _ 3 rfl (tnC (.slice (some ⟨gr, 0, none⟩) nr nr) (.slice (some ⟨gf, 0, none⟩) nr nr) (.slice (some ⟨gj, 0, none⟩) nj nj) (.slice (some ⟨gp, 0, none⟩) np np) tk ca we) _ (by with_reducible assumption) _ Tryz.underlying35 rfl (.slice (some ⟨gp, 0, none⟩) np np) (tnC_3 _ _ _ _ _ _ _) ?_) | ((with_reducible refine is_load 23 _ rfl ?_); refine wpList_load_cell_g rfl 23 _ rfl _ 1 rfl (tnC (.slice (some ⟨gr, 0, none⟩) nr nr) (.slice (some ⟨gf, 0, none⟩) nr nr) (.slice (some ⟨gj, 0, none⟩) nj nj) (.slice (some ⟨gp, 0, none⟩) np np) tk ca we) _ (by with_reducible assumption) _ Tryz.underlying23 rfl (.slice (some ⟨gf, 0, none⟩) nr nr) (tnC_1 _ _ _ _ _ _ _) ?_))
                        refine KP.mono ?_
                        rintro e w8 ⟨rfl, hb8⟩
                        have B8 := Lib.hid (bthen B4.out hb8)
                        clear A6 B6 B4 hb8 KP
                        go_wp2_with fail
                        exact ⟨⟨t + 1, by omega, by go_num, by rw [HN.out], B8⟩, by simp [intOf]; omega⟩
                    · obtain rfl : np = t := by omega
                      have kt : ¬ (np : Int) < (np : Int) := by omega
                      cases hag : allN g np
                      · have HV := Lib.hid (show (true && allN f nr && allN g np && inB 0 1000000000 tk && amtB ca && amtB we) = false from by rw [hag]; simp)
                        clear hag
                        go_wp2_with (first | ((with_reducible refine is_load 33 _ rfl ?_); refine wpList_load_cell rfl 33 _ rfl _ 0 rfl (tnC (.slice (some ⟨gr, 0, none⟩) nr nr) (.slice (some ⟨gf, 0, none⟩) nr nr) (.slice (some ⟨gj, 0, none⟩) nj nj) (.slice (some ⟨gp, 0, none⟩) np np) tk ca we) _ (by with_reducible assumption) _ Tryz.underlying33 rfl (.slice (some ⟨gr, 0, none⟩) nr nr) (tnC_0 _ _ _ _ _ _ _) ?_) | ((with_reducible refine is_load 23 _ rfl ?_); refine wpList_load_cell rfl 23 _ rfl _ 1 rfl (tnC (.slice (some ⟨gr, 0, none⟩) nr nr) (.slice (some ⟨gf, 0, none⟩) nr nr) (.slice (some ⟨gj, 0, none⟩) nj nj) (.slice (some ⟨gp, 0, none⟩) np np) tk ca we) _ (by with_reducible assumption) _ Tryz.underlying23 rfl (.slice (some ⟨gf, 0, none⟩) nr nr) (tnC_1 _ _ _ _ _ _ _) ?_) | ((with_reducible refine is_load 34 _ rfl ?_); refine wpList_load_cell rfl 34 _ rfl _ 2 rfl (tnC (.slice (some ⟨gr, 0, none⟩) nr nr) (.slice (some ⟨gf, 0, none⟩) nr nr) (.slice (some ⟨gj, 0, none⟩) nj nj) (.slice (some ⟨gp, 0, none⟩) np np) tk ca we) _ (by with_reducible assumption) _ Tryz.underlying34 rfl (.slice (some ⟨gj, 0, none⟩) nj nj) (tnC_2 _ _ _ _ _ _ _) ?_) | ((with_reducible refine is_load 35 _ rfl ?_); refine wpList_load_cell rfl 35 _ rfl _ 3 rfl (tnC (.slice (some ⟨gr, 0, none⟩) nr nr) (.slice (some ⟨gf, 0, none⟩) nr nr) (.slice (some ⟨gj, 0, none⟩) nj nj) (.slice (some ⟨gp, 0, none⟩) np np) tk ca we) _ (by with_reducible assumption) _ Tryz.underlying35 rfl (.slice (some ⟨gp, 0, none⟩) np np) (tnC_3 _ _ _ _ _ _ _) ?_) | ((with_reducible refine is_load 23 _ rfl ?_); refine wpList_load_cell_g rfl 23 _ rfl _ 1 rfl (tnC (.slice (some ⟨gr, 0, none⟩) nr nr) (.slice (some ⟨gf, 0, none⟩) nr nr) (.slice (some ⟨gj, 0, none⟩) nj nj) (.slice (some ⟨gp, 0, none⟩) np np) tk ca we) _ (by with_reducible assumption) _ Tryz.underlying23 rfl (.slice (some ⟨gf, 0, none⟩) nr nr) (tnC_1 _ _ _ _ _ _ _) ?_))
                        go_ret
                        exact ⟨by first | rfl | (rw [HV.out]; rfl) | (have hq := HV.out; simp only [Bool.true_and] at hq; rw [hq]; rfl), B6.out⟩
                      · have hGt := Lib.hid hag
                        clear hag
                        have KT := fun w' => l00In_b tk 0 1000000000 w'
                        have KC := fun w' => l01Amount_any ca hca w'
                        have KW := fun w' => l01Amount_any we hwe w'
                        cases v1 : inB 0 1000000000 tk
                        · have HV := Lib.hid (show (true && allN f nr && allN g np && inB 0 1000000000 tk && amtB ca && amtB we) = false from by rw [v1]; simp)
                          rw [v1] at KT
                          clear v1
                          go_wp2_with (first | ((with_reducible refine is_load 33 _ rfl ?_); refine wpList_load_cell rfl 33 _ rfl _ 0 rfl (tnC (.slice (some ⟨gr, 0, none⟩) nr nr) (.slice (some ⟨gf, 0, none⟩) nr nr) (.slice (some ⟨gj, 0, none⟩) nj nj) (.slice (some ⟨gp, 0, none⟩) np np) tk ca we) _ (by with_reducible assumption) _ Tryz.underlying33 rfl (.slice (some ⟨gr, 0, none⟩) nr nr) (tnC_0 _ _ _ _ _ _ _) ?_) | ((with_reducible refine is_load 23 _ rfl ?_); refine wpList_load_cell rfl 23 _ rfl _ 1 rfl (tnC (.slice (some ⟨gr, 0, none⟩) nr nr) (.slice (some ⟨gf, 0, none⟩) nr nr) (.slice (some ⟨gj, 0, none⟩) nj nj) (.slice (some ⟨gp, 0, none⟩) np np) tk ca we) _ (by with_reducible assumption) _ Tryz.underlying23 rfl (.slice (some ⟨gf, 0, none⟩) nr nr) (tnC_1 _ _ _ _ _ _ _) ?_) | ((with_reducible refine is_load 34 _ rfl ?_); refine wpList_load_cell rfl 34 _ rfl _ 2 rfl (tnC (.slice (some ⟨gr, 0, none⟩) nr nr) (.slice (some ⟨gf, 0, none⟩) nr nr) (.slice (some ⟨gj, 0, none⟩) nj nj) (.slice (some ⟨gp, 0, none⟩) np np) tk ca we) _ (by with_reducible assumption) _ Tryz.underlying34 rfl (.slice (some ⟨gj, 0, none⟩) nj nj) (tnC_2 _ _ _ _ _ _ _) ?_) | ((with_reducible refine is_load 35 _ rfl ?_); refine wpList_load_cell rfl 35 _ rfl _ 3 rfl (tnC (.slice (some ⟨gr, 0, none⟩) nr nr) (.slice (some ⟨gf, 0, none⟩) nr nr) (.slice (some ⟨gj, 0, none⟩) nj nj) (.slice (some ⟨gp, 0, none⟩) np np) tk ca we) _ (by with_reducible assumption) _ Tryz.underlying35 rfl (.slice (some ⟨gp, 0, none⟩) np np) (tnC_3 _ _ _ _ _ _ _) ?_) | ((with_reducible refine is_load 23 _ rfl ?_); refine wpList_load_cell_g rfl 23 _ rfl _ 1 rfl (tnC (.slice (some ⟨gr, 0, none⟩) nr nr) (.slice (some ⟨gf, 0, none⟩) nr nr) (.slice (some ⟨gj, 0, none⟩) nj nj) (.slice (some ⟨gp, 0, none⟩) np np) tk ca we) _ (by with_reducible assumption) _ Tryz.underlying23 rfl (.slice (some ⟨gf, 0, none⟩) nr nr) (tnC_1 _ _ _ _ _ _ _) ?_) | ((with_reducible refine is_load 2 _ rfl ?_); refine wpList_load_cell_g rfl 2 _ rfl _ 4 rfl (tnC (.slice (some ⟨gr, 0, none⟩) nr nr) (.slice (some ⟨gf, 0, none⟩) nr nr) (.slice (some ⟨gj, 0, none⟩) nj nj) (.slice (some ⟨gp, 0, none⟩) np np) tk ca we) _ (by with_reducible assumption) _ Tryz.underlying2 rfl (.int .i64 tk) (tnC_4 _ _ _ _ _ _ _) ?_) | ((with_reducible refine is_load 26 _ rfl ?_); refine wpList_load_cell_g rfl 26 _ rfl _ 5 rfl (tnC (.slice (some ⟨gr, 0, none⟩) nr nr) (.slice (some ⟨gf, 0, none⟩) nr nr) (.slice (some ⟨gj, 0, none⟩) nj nj) (.slice (some ⟨gp, 0, none⟩) np np) tk ca we) _ (by with_reducible assumption) _ Tryz.underlying26 rfl (.float .f32 ca) (tnC_5 _ _ _ _ _ _ _) ?_) | ((with_reducible refine is_load 26 _ rfl ?_); refine wpList_load_cell_g rfl 26 _ rfl _ 6 rfl (tnC (.slice (some ⟨gr, 0, none⟩) nr nr) (.slice (some ⟨gf, 0, none⟩) nr nr) (.slice (some ⟨gj, 0, none⟩) nj nj) (.slice (some ⟨gp, 0, none⟩) np np) tk ca we) _ (by with_reducible assumption) _ Tryz.underlying26 rfl (.float .f32 we) (tnC_6 _ _ _ _ _ _ _) ?_))
                          refine (KT _).mono ?_
                          rintro e w7 ⟨rfl, n6, rfl⟩
                          have A7 := A6.drewN n6
                          have B7 := Lib.hid (bdrew B6.out n6)
                          generalize World.drewN _ n6 = w7 at A7 B7 ⊢
                          clear A6 B6
                          go_wp2_with (first | ((with_reducible refine is_load 2 _ rfl ?_); refine wpList_load_cell_g rfl 2 _ rfl _ 4 rfl (tnC (.slice (some ⟨gr, 0, none⟩) nr nr) (.slice (some ⟨gf, 0, none⟩) nr nr) (.slice (some ⟨gj, 0, none⟩) nj nj) (.slice (some ⟨gp, 0, none⟩) np np) tk ca we) _ (by with_reducible assumption) _ Tryz.underlying2 rfl (.int .i64 tk) (tnC_4 _ _ _ _ _ _ _) ?_) | ((with_reducible refine is_load 26 _ rfl ?_); refine wpList_load_cell_g rfl 26 _ rfl _ 5 rfl (tnC (.slice (some ⟨gr, 0, none⟩) nr nr) (.slice (some ⟨gf, 0, none⟩) nr nr) (.slice (some ⟨gj, 0, none⟩) nj nj) (.slice (some ⟨gp, 0, none⟩) np np) tk ca we) _ (by with_reducible assumption) _ Tryz.underlying26 rfl (.float .f32 ca) (tnC_5 _ _ _ _ _ _ _) ?_) | ((with_reducible refine is_load 26 _ rfl ?_); refine wpList_load_cell_g rfl 26 _ rfl _ 6 rfl (tnC (.slice (some ⟨gr, 0, none⟩) nr nr) (.slice (some ⟨gf, 0, none⟩) nr nr) (.slice (some ⟨gj, 0, none⟩) nj nj) (.slice (some ⟨gp, 0, none⟩) np np) tk ca we) _ (by with_reducible assumption) _ Tryz.underlying26 rfl (.float .f32 we) (tnC_6 _ _ _ _ _ _ _) ?_))
                          go_ret
                          exact ⟨by first | rfl | (rw [HV.out]; rfl) | (have hq := HV.out; simp only [Bool.true_and] at hq; rw [hq]; rfl), B7.out⟩
                        · rw [v1] at KT
                          cases v2 : amtB ca
                          · have HV := Lib.hid (show (true && allN f nr && allN g np && inB 0 1000000000 tk && amtB ca && amtB we) = false from by rw [v2]; simp)
                            rw [v2] at KC
                            clear v1 v2
                            go_wp2_with (first | ((with_reducible refine is_load 33 _ rfl ?_); refine wpList_load_cell rfl 33 _ rfl _ 0 rfl (tnC (.slice (some ⟨gr, 0, none⟩) nr nr) (.slice (some ⟨gf, 0, none⟩) nr nr) (.slice (some ⟨gj, 0, none⟩) nj nj) (.slice (some ⟨gp, 0, none⟩) np np) tk ca we) _ (by with_reducible assumption) _ Tryz.underlying33 rfl (.slice (some ⟨gr, 0, none⟩) nr nr) (tnC_0 _ _ _ _ _ _ _) ?_) | ((with_reducible refine is_load 23 _ rfl ?_); refine wpList_load_cell rfl 23 _ rfl _ 1 rfl (tnC (.slice (some ⟨gr, 0, none⟩) nr nr) (.slice (some ⟨gf, 0, none⟩) nr nr) (.slice (some ⟨gj, 0, none⟩) nj nj) (.slice (some ⟨gp, 0, none⟩) np np) tk ca we) _ (by with_reducible assumption) _ Tryz.underlying23 rfl (.slice (some ⟨gf, 0, none⟩) nr nr) (tnC_1 _ _ _ _ _ _ _) ?_) | ((with_reducible refine is_load 34 _ rfl ?_); refine wpList_load_cell rfl 34 _ rfl _ 2 rfl (tnC (.slice (some ⟨gr, 0, none⟩) nr nr) (.slice (some ⟨gf, 0, none⟩) nr nr) (.slice (some ⟨gj, 0, none⟩) nj nj) (.slice (some ⟨gp, 0, none⟩) np np) tk ca we) _ (by with_reducible assumption) _ Tryz.underlying34 rfl (.slice (some ⟨gj, 0, none⟩) nj nj) (tnC_2 _ _ _ _ _ _ _) ?_) | ((with_reducible refine is_load 35 _ rfl ?_); refine wpList_load_cell rfl 35 _ rfl _ 3 rfl (tnC (.slice (some ⟨gr, 0, none⟩) nr nr) (.slice (some ⟨gf, 0, none⟩) nr nr) (.slice (some ⟨gj, 0, none⟩) nj nj) (.slice (some ⟨gp, 0, none⟩) np np) tk ca we) _ (by with_reducible assumption) _ Tryz.underlying35 rfl (.slice (some ⟨gp, 0, none⟩) np np) (tnC_3 _ _ _ _ _ _ _) ?_) | ((with_reducible refine is_load 23 _ rfl ?_); refine wpList_load_cell_g rfl 23 _ rfl _ 1 rfl (tnC (.slice (some ⟨gr, 0, none⟩) nr nr) (.slice (some ⟨gf, 0, none⟩) nr nr) (.slice (some ⟨gj, 0, none⟩) nj nj) (.slice (some ⟨gp, 0, none⟩) np np) tk ca we) _ (by with_reducible assumption) _ Tryz.underlying23 rfl (.slice (some ⟨gf, 0, none⟩) nr nr) (tnC_1 _ _ _ _ _ _ _) ?_) | ((with_reducible refine is_load 2 _ rfl ?_); refine wpList_load_cell_g rfl 2 _ rfl _ 4 rfl (tnC (.slice (some ⟨gr, 0, none⟩) nr nr) (.slice (some ⟨gf, 0, none⟩) nr nr) (.slice (some ⟨gj, 0, none⟩) nj nj) (.slice (some ⟨gp, 0, none⟩) np np) tk ca we) _ (by with_reducible assumption) _ Tryz.underlying2 rfl (.int .i64 tk) (tnC_4 _ _ _ _ _ _ _) ?_) | ((with_reducible refine is_load 26 _ rfl ?_); refine wpList_load_cell_g rfl 26 _ rfl _ 5 rfl (tnC (.slice (some ⟨gr, 0, none⟩) nr nr) (.slice (some ⟨gf, 0, none⟩) nr nr) (.slice (some ⟨gj, 0, none⟩) nj nj) (.slice (some ⟨gp, 0, none⟩) np np) tk ca we) _ (by with_reducible assumption) _ Tryz.underlying26 rfl (.float .f32 ca) (tnC_5 _ _ _ _ _ _ _) ?_) | ((with_reducible refine is_load 26 _ rfl ?_); refine wpList_load_cell_g rfl 26 _ rfl _ 6 rfl (tnC (.slice (some ⟨gr, 0, none⟩) nr nr) (.slice (some ⟨gf, 0, none⟩) nr nr) (.slice (some ⟨gj, 0, none⟩) nj nj) (.slice (some ⟨gp, 0, none⟩) np np) tk ca we) _ (by with_reducible assumption) _ Tryz.underlying26 rfl (.float .f32 we) (tnC_6 _ _ _ _ _ _ _) ?_))
                            refine (KT _).mono ?_
                            rintro e w7 ⟨rfl, n6, rfl⟩
                            have A7 := A6.drewN n6
                            have B7 := Lib.hid (bdrew B6.out n6)
                            generalize World.drewN _ n6 = w7 at A7 B7 ⊢
                            clear A6 B6
                            go_wp2_with (first | ((with_reducible refine is_load 2 _ rfl ?_); refine wpList_load_cell_g rfl 2 _ rfl _ 4 rfl (tnC (.slice (some ⟨gr, 0, none⟩) nr nr) (.slice (some ⟨gf, 0, none⟩) nr nr) (.slice (some ⟨gj, 0, none⟩) nj nj) (.slice (some ⟨gp, 0, none⟩) np np) tk ca we) _ (by with_reducible assumption) _ Tryz.underlying2 rfl (.int .i64 tk) (tnC_4 _ _ _ _ _ _ _) ?_) | ((with_reducible refine is_load 26 _ rfl ?_); refine wpList_load_cell_g rfl 26 _ rfl _ 5 rfl (tnC (.slice (some ⟨gr, 0, none⟩) nr nr) (.slice (some ⟨gf, 0, none⟩) nr nr) (.slice (some ⟨gj, 0, none⟩) nj nj) (.slice (some ⟨gp, 0, none⟩) np np) tk ca we) _ (by with_reducible assumption) _ Tryz.underlying26 rfl (.float .f32 ca) (tnC_5 _ _ _ _ _ _ _) ?_) | ((with_reducible refine is_load 26 _ rfl ?_); refine wpList_load_cell_g rfl 26 _ rfl _ 6 rfl (tnC (.slice (some ⟨gr, 0, none⟩) nr nr) (.slice (some ⟨gf, 0, none⟩) nr nr) (.slice (some ⟨gj, 0, none⟩) nj nj) (.slice (some ⟨gp, 0, none⟩) np np) tk ca we) _ (by with_reducible assumption) _ Tryz.underlying26 rfl (.float .f32 we) (tnC_6 _ _ _ _ _ _ _) ?_))
                            refine (KC _).mono ?_
                            rintro e w8 ⟨rfl, n7, rfl⟩
                            have A8 := A7.drewN n7
                            have B8 := Lib.hid (bdrew B7.out n7)
                            generalize World.drewN _ n7 = w8 at A8 B8 ⊢
                            clear A7 B7
                            go_wp2_with (first | ((with_reducible refine is_load 2 _ rfl ?_); refine wpList_load_cell_g rfl 2 _ rfl _ 4 rfl (tnC (.slice (some ⟨gr, 0, none⟩) nr nr) (.slice (some ⟨gf, 0, none⟩) nr nr) (.slice (some ⟨gj, 0, none⟩) nj nj) (.slice (some ⟨gp, 0, none⟩) np np) tk ca we) _ (by with_reducible assumption) _ Tryz.underlying2 rfl (.int .i64 tk) (tnC_4 _ _ _ _ _ _ _) ?_) | ((with_reducible refine is_load 26 _ rfl ?_); refine wpList_load_cell_g rfl 26 _ rfl _ 5 rfl (tnC (.slice (some ⟨gr, 0, none⟩) nr nr) (.slice (some ⟨gf, 0, none⟩) nr nr) (.slice (some ⟨gj, 0, none⟩) nj nj) (.slice (some ⟨gp, 0, none⟩) np np) tk ca we) _ (by with_reducible assumption) _ Tryz.underlying26 rfl (.float .f32 ca) (tnC_5 _ _ _ _ _ _ _) ?_) | ((with_reducible refine is_load 26 _ rfl ?_); refine wpList_load_cell_g rfl 26 _ rfl _ 6 rfl (tnC (.slice (some ⟨gr, 0, none⟩) nr nr) (.slice (some ⟨gf, 0, none⟩) nr nr) (.slice (some ⟨gj, 0, none⟩) nj nj) (.slice (some ⟨gp, 0, none⟩) np np) tk ca we) _ (by with_reducible assumption) _ Tryz.underlying26 rfl (.float .f32 we) (tnC_6 _ _ _ _ _ _ _) ?_))
                            go_ret
                            exact ⟨by first | rfl | (rw [HV.out]; rfl) | (have hq := HV.out; simp only [Bool.true_and] at hq; rw [hq]; rfl), B8.out⟩
                          · rw [v2] at KC
                            cases v3 : amtB we
                            · have HV := Lib.hid (show (true && allN f nr && allN g np && inB 0 1000000000 tk && amtB ca && amtB we) = false from by rw [v3]; simp)
                              rw [v3] at KW
                              clear v1 v2 v3
                              go_wp2_with (first | ((with_reducible refine is_load 33 _ rfl ?_); refine wpList_load_cell rfl 33 _ rfl _ 0 rfl (tnC (.slice (some ⟨gr, 0, none⟩) nr nr) (.slice (some ⟨gf, 0, none⟩) nr nr) (.slice (some ⟨gj, 0, none⟩) nj nj) (.slice (some ⟨gp, 0, none⟩) np np) tk ca we) _ (by with_reducible assumption) _ Tryz.underlying33 rfl (.slice (some ⟨gr, 0, none⟩) nr nr) (tnC_0 _ _ _ _ _ _ _) ?_) | ((with_reducible refine is_load 23 _ rfl ?_); refine wpList_load_cell rfl 23 _ rfl _ 1 rfl (tnC (.slice (some ⟨gr, 0, none⟩) nr nr) (.slice (some ⟨gf, 0, none⟩) nr nr) (.slice (some ⟨gj, 0, none⟩) nj nj) (.slice (some ⟨gp, 0, none⟩) np np) tk ca we) _ (by with_reducible assumption) _ Tryz.underlying23 rfl (.slice (some ⟨gf, 0, none⟩) nr nr) (tnC_1 _ _ _ _ _ _ _) ?_) | ((with_reducible refine is_load 34 _ rfl ?_); refine wpList_load_cell rfl 34 _ rfl _ 2 rfl (tnC (.slice (some ⟨gr, 0, none⟩) nr nr) (.slice (some ⟨gf, 0, none⟩) nr nr) (.slice (some ⟨gj, 0, none⟩) nj nj) (.slice (some ⟨gp, 0, none⟩) np np) tk ca we) _ (by with_reducible assumption) _ Tryz.underlying34 rfl (.slice (some ⟨gj, 0, none⟩) nj nj) (tnC_2 _ _ _ _ _ _ _) ?_) | ((with_reducible refine is_load 35 _ rfl ?_); refine wpList_load_cell rfl 35 _ rfl _ 3 rfl (tnC (.slice (some ⟨gr, 0, none⟩) nr nr) (.slice (some ⟨gf, 0, none⟩) nr nr) (.slice (some ⟨gj, 0, none⟩) nj nj) (.slice (some ⟨gp, 0, none⟩) np np) tk ca we) _ (by with_reducible assumption) _ Tryz.underlying35 rfl (.slice (some ⟨gp, 0, none⟩) np np) (tnC_3 _ _ _ _ _ _ _) ?_) | ((with_reducible refine is_load 23 _ rfl ?_); refine wpList_load_cell_g rfl 23 _ rfl _ 1 rfl (tnC (.slice (some ⟨gr, 0, none⟩) nr nr) (.slice (some ⟨gf, 0, none⟩) nr nr) (.slice (some ⟨gj, 0, none⟩) nj nj) (.slice (some ⟨gp, 0, none⟩) np np) tk ca we) _ (by with_reducible assumption) _ Tryz.underlying23 rfl (.slice (some ⟨gf, 0, none⟩) nr nr) (tnC_1 _ _ _ _ _ _ _) ?_) | ((with_reducible refine is_load 2 _ rfl ?_); refine wpList_load_cell_g rfl 2 _ rfl _ 4 rfl (tnC (.slice (some ⟨gr, 0, none⟩) nr nr) (.slice (some ⟨gf, 0, none⟩) nr nr) (.slice (some ⟨gj, 0, none⟩) nj nj) (.slice (some ⟨gp, 0, none⟩) np np) tk ca we) _ (by with_reducible assumption) _ Tryz.underlying2 rfl (.int .i64 tk) (tnC_4 _ _ _ _ _ _ _) ?_) | ((with_reducible refine is_load 26 _ rfl ?_); refine wpList_load_cell_g rfl 26 _ rfl _ 5 rfl (tnC (.slice (some ⟨gr, 0, none⟩) nr nr) (.slice (some ⟨gf, 0, none⟩) nr nr) (.slice (some ⟨gj, 0, none⟩) nj nj) (.slice (some ⟨gp, 0, none⟩) np np) tk ca we) _ (by with_reducible assumption) _ Tryz.underlying26 rfl (.float .f32 ca) (tnC_5 _ _ _ _ _ _ _) ?_) | ((with_reducible refine is_load 26 _ rfl ?_); refine wpList_load_cell_g rfl 26 _ rfl _ 6 rfl (tnC (.slice (some ⟨gr, 0, none⟩) nr nr) (.slice (some ⟨gf, 0, none⟩) nr nr) (.slice (some ⟨gj, 0, none⟩) nj nj) (.slice (some ⟨gp, 0, none⟩) np np) tk ca we) _ (by with_reducible assumption) _ Tryz.underlying26 rfl (.float .f32 we) (tnC_6 _ _ _ _ _ _ _) ?_))
                              refine (KT _).mono ?_
                              rintro e w7 ⟨rfl, n6, rfl⟩
                              have A7 := A6.drewN n6
                              have B7 := Lib.hid (bdrew B6.out n6)
                              generalize World.drewN _ n6 = w7 at A7 B7 ⊢
                              clear A6 B6
                              go_wp2_with (first | ((with_reducible refine is_load 2 _ rfl ?_); refine wpList_load_cell_g rfl 2 _ rfl _ 4 rfl (tnC (.slice (some ⟨gr, 0, none⟩) nr nr) (.slice (some ⟨gf, 0, none⟩) nr nr) (.slice (some ⟨gj, 0, none⟩) nj nj) (.slice (some ⟨gp, 0, none⟩) np np) tk ca we) _ (by with_reducible assumption) _ Tryz.underlying2 rfl (.int .i64 tk) (tnC_4 _ _ _ _ _ _ _) ?_) | ((with_reducible refine is_load 26 _ rfl ?_); refine wpList_load_cell_g rfl 26 _ rfl _ 5 rfl (tnC (.slice (some ⟨gr, 0, none⟩) nr nr) (.slice (some ⟨gf, 0, none⟩) nr nr) (.slice (some ⟨gj, 0, none⟩) nj nj) (.slice (some ⟨gp, 0, none⟩) np np) tk ca we) _ (by with_reducible assumption) _ Tryz.underlying26 rfl (.float .f32 ca) (tnC_5 _ _ _ _ _ _ _) ?_) | ((with_reducible refine is_load 26 _ rfl ?_); refine wpList_load_cell_g rfl 26 _ rfl _ 6 rfl (tnC (.slice (some ⟨gr, 0, none⟩) nr nr) (.slice (some ⟨gf, 0, none⟩) nr nr) (.slice (some ⟨gj, 0, none⟩) nj nj) (.slice (some ⟨gp, 0, none⟩) np np) tk ca we) _ (by with_reducible assumption) _ Tryz.underlying26 rfl (.float .f32 we) (tnC_6 _ _ _ _ _ _ _) ?_))
                              refine (KC _).mono ?_
                              rintro e w8 ⟨rfl, n7, rfl⟩
                              have A8 := A7.drewN n7
                              have B8 := Lib.hid (bdrew B7.out n7)
                              generalize World.drewN _ n7 = w8 at A8 B8 ⊢
                              clear A7 B7
                              go_wp2_with (first | ((with_reducible refine is_load 2 _ rfl ?_); refine wpList_load_cell_g rfl 2 _ rfl _ 4 rfl (tnC (.slice (some ⟨gr, 0, none⟩) nr nr) (.slice (some ⟨gf, 0, none⟩) nr nr) (.slice (some ⟨gj, 0, none⟩) nj nj) (.slice (some ⟨gp, 0, none⟩) np np) tk ca we) _ (by with_reducible assumption) _ Tryz.underlying2 rfl (.int .i64 tk) (tnC_4 _ _ _ _ _ _ _) ?_) | ((with_reducible refine is_load 26 _ rfl ?_); refine wpList_load_cell_g rfl 26 _ rfl _ 5 rfl (tnC (.slice (some ⟨gr, 0, none⟩) nr nr) (.slice (some ⟨gf, 0, none⟩) nr nr) (.slice (some ⟨gj, 0, none⟩) nj nj) (.slice (some ⟨gp, 0, none⟩) np np) tk ca we) _ (by with_reducible assumption) _ Tryz.underlying26 rfl (.float .f32 ca) (tnC_5 _ _ _ _ _ _ _) ?_) | ((with_reducible refine is_load 26 _ rfl ?_); refine wpList_load_cell_g rfl 26 _ rfl _ 6 rfl (tnC (.slice (some ⟨gr, 0, none⟩) nr nr) (.slice (some ⟨gf, 0, none⟩) nr nr) (.slice (some ⟨gj, 0, none⟩) nj nj) (.slice (some ⟨gp, 0, none⟩) np np) tk ca we) _ (by with_reducible assumption) _ Tryz.underlying26 rfl (.float .f32 we) (tnC_6 _ _ _ _ _ _ _) ?_))
                              refine (KW _).mono ?_
                              rintro e w9 ⟨rfl, n8, rfl⟩
                              have A9 := A8.drewN n8
                              have B9 := Lib.hid (bdrew B8.out n8)
                              generalize World.drewN _ n8 = w9 at A9 B9 ⊢
                              clear A8 B8
                              go_wp2_with (first | ((with_reducible refine is_load 2 _ rfl ?_); refine wpList_load_cell_g rfl 2 _ rfl _ 4 rfl (tnC (.slice (some ⟨gr, 0, none⟩) nr nr) (.slice (some ⟨gf, 0, none⟩) nr nr) (.slice (some ⟨gj, 0, none⟩) nj nj) (.slice (some ⟨gp, 0, none⟩) np np) tk ca we) _ (by with_reducible assumption) _ Tryz.underlying2 rfl (.int .i64 tk) (tnC_4 _ _ _ _ _ _ _) ?_) | ((with_reducible refine is_load 26 _ rfl ?_); refine wpList_load_cell_g rfl 26 _ rfl _ 5 rfl (tnC (.slice (some ⟨gr, 0, none⟩) nr nr) (.slice (some ⟨gf, 0, none⟩) nr nr) (.slice (some ⟨gj, 0, none⟩) nj nj) (.slice (some ⟨gp, 0, none⟩) np np) tk ca we) _ (by with_reducible assumption) _ Tryz.underlying26 rfl (.float .f32 ca) (tnC_5 _ _ _ _ _ _ _) ?_) | ((with_reducible refine is_load 26 _ rfl ?_); refine wpList_load_cell_g rfl 26 _ rfl _ 6 rfl (tnC (.slice (some ⟨gr, 0, none⟩) nr nr) (.slice (some ⟨gf, 0, none⟩) nr nr) (.slice (some ⟨gj, 0, none⟩) nj nj) (.slice (some ⟨gp, 0, none⟩) np np) tk ca we) _ (by with_reducible assumption) _ Tryz.underlying26 rfl (.float .f32 we) (tnC_6 _ _ _ _ _ _ _) ?_))
                              go_ret
                              exact ⟨by first | rfl | (rw [HV.out]; rfl) | (have hq := HV.out; simp only [Bool.true_and] at hq; rw [hq]; rfl), B9.out⟩
                            · have HV := Lib.hid (show (true && allN f nr && allN g np && inB 0 1000000000 tk && amtB ca && amtB we) = true from by rw [v1, v2, v3, hFt.out, hGt.out]; rfl)
                              rw [v3] at KW
                              clear v1 v2 v3
                              go_wp2_with (first | ((with_reducible refine is_load 33 _ rfl ?_); refine wpList_load_cell rfl 33 _ rfl _ 0 rfl (tnC (.slice (some ⟨gr, 0, none⟩) nr nr) (.slice (some ⟨gf, 0, none⟩) nr nr) (.slice (some ⟨gj, 0, none⟩) nj nj) (.slice (some ⟨gp, 0, none⟩) np np) tk ca we) _ (by with_reducible assumption) _ Tryz.underlying33 rfl (.slice (some ⟨gr, 0, none⟩) nr nr) (tnC_0 _ _ _ _ _ _ _) ?_) | ((with_reducible refine is_load 23 _ rfl ?_); refine wpList_load_cell rfl 23 _ rfl _ 1 rfl (tnC (.slice (some ⟨gr, 0, none⟩) nr nr) (.slice (some ⟨gf, 0, none⟩) nr nr) (.slice (some ⟨gj, 0, none⟩) nj nj) (.slice (some ⟨gp, 0, none⟩) np np) tk ca we) _ (by with_reducible assumption) _ Tryz.underlying23 rfl (.slice (some ⟨gf, 0, none⟩) nr nr) (tnC_1 _ _ _ _ _ _ _) ?_) | ((with_reducible refine is_load 34 _ rfl ?_); refine wpList_load_cell rfl 34 _ rfl _ 2 rfl (tnC (.slice (some ⟨gr, 0, none⟩) nr nr) (.slice (some ⟨gf, 0, none⟩) nr nr) (.slice (some ⟨gj, 0, none⟩) nj nj) (.slice (some ⟨gp, 0, none⟩) np np) tk ca we) _ (by with_reducible assumption) _ Tryz.underlying34 rfl (.slice (some ⟨gj, 0, none⟩) nj nj) (tnC_2 _ _ _ _ _ _ _) ?_) | ((with_reducible refine is_load 35 _ rfl ?_); refine wpList_load_cell rfl 35 _ rfl _ 3 rfl (tnC (.slice (some ⟨gr, 0, none⟩) nr nr) (.slice (some ⟨gf, 0, none⟩) nr nr) (.slice (some ⟨gj, 0, none⟩) nj nj) (.slice (some ⟨gp, 0, none⟩) np np) tk ca we) _ (by with_reducible assumption) _ Tryz.underlying35 rfl (.slice (some ⟨gp, 0, none⟩) np np) (tnC_3 _ _ _ _ _ _ _) ?_) | ((with_reducible refine is_load 23 _ rfl ?_); refine wpList_load_cell_g rfl 23 _ rfl _ 1 rfl (tnC (.slice (some ⟨gr, 0, none⟩) nr nr) (.slice (some ⟨gf, 0, none⟩) nr nr) (.slice (some ⟨gj, 0, none⟩) nj nj) (.slice (some ⟨gp, 0, none⟩) np np) tk ca we) _ (by with_reducible assumption) _ Tryz.underlying23 rfl (.slice (some ⟨gf, 0, none⟩) nr nr) (tnC_1 _ _ _ _ _ _ _) ?_) | ((with_reducible refine is_load 2 _ rfl ?_); refine wpList_load_cell_g rfl 2 _ rfl _ 4 rfl (tnC (.slice (some ⟨gr, 0, none⟩) nr nr) (.slice (some ⟨gf, 0, none⟩) nr nr) (.slice (some ⟨gj, 0, none⟩) nj nj) (.slice (some ⟨gp, 0, none⟩) np np) tk ca we) _ (by with_reducible assumption) _ Tryz.underlying2 rfl (.int .i64 tk) (tnC_4 _ _ _ _ _ _ _) ?_) | ((with_reducible refine is_load 26 _ rfl ?_); refine wpList_load_cell_g rfl 26 _ rfl _ 5 rfl (tnC (.slice (some ⟨gr, 0, none⟩) nr nr) (.slice (some ⟨gf, 0, none⟩) nr nr) (.slice (some ⟨gj, 0, none⟩) nj nj) (.slice (some ⟨gp, 0, none⟩) np np) tk ca we) _ (by with_reducible assumption) _ Tryz.underlying26 rfl (.float .f32 ca) (tnC_5 _ _ _ _ _ _ _) ?_) | ((with_reducible refine is_load 26 _ rfl ?_); refine wpList_load_cell_g rfl 26 _ rfl _ 6 rfl (tnC (.slice (some ⟨gr, 0, none⟩) nr nr) (.slice (some ⟨gf, 0, none⟩) nr nr) (.slice (some ⟨gj, 0, none⟩) nj nj) (.slice (some ⟨gp, 0, none⟩) np np) tk ca we) _ (by with_reducible assumption) _ Tryz.underlying26 rfl (.float .f32 we) (tnC_6 _ _ _ _ _ _ _) ?_))
                              refine (KT _).mono ?_
                              rintro e w7 ⟨rfl, n6, rfl⟩
                              have A7 := A6.drewN n6
                              have B7 := Lib.hid (bdrew B6.out n6)
                              generalize World.drewN _ n6 = w7 at A7 B7 ⊢
                              clear A6 B6
                              go_wp2_with (first | ((with_reducible refine is_load 2 _ rfl ?_); refine wpList_load_cell_g rfl 2 _ rfl _ 4 rfl (tnC (.slice (some ⟨gr, 0, none⟩) nr nr) (.slice (some ⟨gf, 0, none⟩) nr nr) (.slice (some ⟨gj, 0, none⟩) nj nj) (.slice (some ⟨gp, 0, none⟩) np np) tk ca we) _ (by with_reducible assumption) _ Tryz.underlying2 rfl (.int .i64 tk) (tnC_4 _ _ _ _ _ _ _) ?_) | ((with_reducible refine is_load 26 _ rfl ?_); refine wpList_load_cell_g rfl 26 _ rfl _ 5 rfl (tnC (.slice (some ⟨gr, 0, none⟩) nr nr) (.slice (some ⟨gf, 0, none⟩) nr nr) (.slice (some ⟨gj, 0, none⟩) nj nj) (.slice (some ⟨gp, 0, none⟩) np np) tk ca we) _ (by with_reducible assumption) _ Tryz.underlying26 rfl (.float .f32 ca) (tnC_5 _ _ _ _ _ _ _) ?_) | ((with_reducible refine is_load 26 _ rfl ?_); refine wpList_load_cell_g rfl 26 _ rfl _ 6 rfl (tnC (.slice (some ⟨gr, 0, none⟩) nr nr) (.slice (some ⟨gf, 0, none⟩) nr nr) (.slice (some ⟨gj, 0, none⟩) nj nj) (.slice (some ⟨gp, 0, none⟩) np np) tk ca we) _ (by with_reducible assumption) _ Tryz.underlying26 rfl (.float .f32 we) (tnC_6 _ _ _ _ _ _ _) ?_))
                              refine (KC _).mono ?_
                              rintro e w8 ⟨rfl, n7, rfl⟩
                              have A8 := A7.drewN n7
                              have B8 := Lib.hid (bdrew B7.out n7)
                              generalize World.drewN _ n7 = w8 at A8 B8 ⊢
                              clear A7 B7
                              go_wp2_with (first | ((with_reducible refine is_load 2 _ rfl ?_); refine wpList_load_cell_g rfl 2 _ rfl _ 4 rfl (tnC (.slice (some ⟨gr, 0, none⟩) nr nr) (.slice (some ⟨gf, 0, none⟩) nr nr) (.slice (some ⟨gj, 0, none⟩) nj nj) (.slice (some ⟨gp, 0, none⟩) np np) tk ca we) _ (by with_reducible assumption) _ Tryz.underlying2 rfl (.int .i64 tk) (tnC_4 _ _ _ _ _ _ _) ?_) | ((with_reducible refine is_load 26 _ rfl ?_); refine wpList_load_cell_g rfl 26 _ rfl _ 5 rfl (tnC (.slice (some ⟨gr, 0, none⟩) nr nr) (.slice (some ⟨gf, 0, none⟩) nr nr) (.slice (some ⟨gj, 0, none⟩) nj nj) (.slice (some ⟨gp, 0, none⟩) np np) tk ca we) _ (by with_reducible assumption) _ Tryz.underlying26 rfl (.float .f32 ca) (tnC_5 _ _ _ _ _ _ _) ?_) | ((with_reducible refine is_load 26 _ rfl ?_); refine wpList_load_cell_g rfl 26 _ rfl _ 6 rfl (tnC (.slice (some ⟨gr, 0, none⟩) nr nr) (.slice (some ⟨gf, 0, none⟩) nr nr) (.slice (some ⟨gj, 0, none⟩) nj nj) (.slice (some ⟨gp, 0, none⟩) np np) tk ca we) _ (by with_reducible assumption) _ Tryz.underlying26 rfl (.float .f32 we) (tnC_6 _ _ _ _ _ _ _) ?_))
                              refine (KW _).mono ?_
                              rintro e w9 ⟨rfl, n8, rfl⟩
                              have A9 := A8.drewN n8
                              have B9 := Lib.hid (bdrew B8.out n8)
                              generalize World.drewN _ n8 = w9 at A9 B9 ⊢
                              clear A8 B8
                              go_wp2_with (first | ((with_reducible refine is_load 2 _ rfl ?_); refine wpList_load_cell_g rfl 2 _ rfl _ 4 rfl (tnC (.slice (some ⟨gr, 0, none⟩) nr nr) (.slice (some ⟨gf, 0, none⟩) nr nr) (.slice (some ⟨gj, 0, none⟩) nj nj) (.slice (some ⟨gp, 0, none⟩) np np) tk ca we) _ (by with_reducible assumption) _ Tryz.underlying2 rfl (.int .i64 tk) (tnC_4 _ _ _ _ _ _ _) ?_) | ((with_reducible refine is_load 26 _ rfl ?_); refine wpList_load_cell_g rfl 26 _ rfl _ 5 rfl (tnC (.slice (some ⟨gr, 0, none⟩) nr nr) (.slice (some ⟨gf, 0, none⟩) nr nr) (.slice (some ⟨gj, 0, none⟩) nj nj) (.slice (some ⟨gp, 0, none⟩) np np) tk ca we) _ (by with_reducible assumption) _ Tryz.underlying26 rfl (.float .f32 ca) (tnC_5 _ _ _ _ _ _ _) ?_) | ((with_reducible refine is_load 26 _ rfl ?_); refine wpList_load_cell_g rfl 26 _ rfl _ 6 rfl (tnC (.slice (some ⟨gr, 0, none⟩) nr nr) (.slice (some ⟨gf, 0, none⟩) nr nr) (.slice (some ⟨gj, 0, none⟩) nj nj) (.slice (some ⟨gp, 0, none⟩) np np) tk ca we) _ (by with_reducible assumption) _ Tryz.underlying26 rfl (.float .f32 we) (tnC_6 _ _ _ _ _ _ _) ?_))
                              go_ret
                              exact ⟨by first | rfl | (rw [HV.out]; rfl) | (have hq := HV.out; simp only [Bool.true_and] at hq; rw [hq]; rfl), B9.out⟩
        · have d4 : (np : Int) > 6 := by omega
          have d4a : decide ((np : Int) > 6) = true := decide_eq_true d4
          have d4b : decide (6 < (np : Int)) = true := decide_eq_true d4
          rw [decide_eq_false c4, Bool.false_and]
          go_enter Tryz.func43, Tryz.ntmps43
          go_wp2_with fail
          refine wp_region_cb (by kernel_rfl) (by kernel_rfl) ?_
          have hC := Cb.const w
          repeat (first
            | go_big_quiet_skip
            | (go_big_quiet_want; first
              | (refine q_oneI 33 _ rfl _ Tryz.underlying33 rfl 0 rfl A9 _ (tnC_0 _ _ _ _ _ _ _) ?_; go_simp; go_big_quiet_on)
              | (refine q_oneI 23 _ rfl _ Tryz.underlying23 rfl 1 rfl A9 _ (tnC_1 _ _ _ _ _ _ _) ?_; go_simp; go_big_quiet_on)
              | (refine q_oneI 34 _ rfl _ Tryz.underlying34 rfl 2 rfl A9 _ (tnC_2 _ _ _ _ _ _ _) ?_; go_simp; go_big_quiet_on)
              | (refine q_oneI 35 _ rfl _ Tryz.underlying35 rfl 3 rfl A9 _ (tnC_3 _ _ _ _ _ _ _) ?_; go_simp; go_big_quiet_on)
              | (go_big_quiet_op; go_big_quiet_on)
              | (go_big_quiet_op; apply Exists.intro; refine ⟨fun w' hw' => ?_, ?_⟩; (go_at_call 41; exact (KN _).mono fun _ _ h => ⟨h.1, hw'.step (by obtain ⟨m, rfl⟩ := h.2; exact bdrew (Below.refl _ _) m)⟩); go_big_quiet_on)))
          refine wpQuiet_nil ?_
          intro w5 hw5
          clear hC A9 KN
          go_wp2_with fail
          go_ret
          exact ⟨rfl, hw5⟩
      · have d3 : (nj : Int) > 4 := by omega
        have d3a : decide ((nj : Int) > 4) = true := decide_eq_true d3
        have d3b : decide (4 < (nj : Int)) = true := decide_eq_true d3
        rw [decide_eq_false c3, Bool.false_and, Bool.false_and]
        go_enter Tryz.func43, Tryz.ntmps43
        go_wp2_with fail
        refine wp_region_cb (by kernel_rfl) (by kernel_rfl) ?_
        have hC := Cb.const w
        repeat (first
          | go_big_quiet_skip
          | (go_big_quiet_want; first
            | (refine q_oneI 33 _ rfl _ Tryz.underlying33 rfl 0 rfl A9 _ (tnC_0 _ _ _ _ _ _ _) ?_; go_simp; go_big_quiet_on)
            | (refine q_oneI 23 _ rfl _ Tryz.underlying23 rfl 1 rfl A9 _ (tnC_1 _ _ _ _ _ _ _) ?_; go_simp; go_big_quiet_on)
            | (refine q_oneI 34 _ rfl _ Tryz.underlying34 rfl 2 rfl A9 _ (tnC_2 _ _ _ _ _ _ _) ?_; go_simp; go_big_quiet_on)
            | (refine q_oneI 35 _ rfl _ Tryz.underlying35 rfl 3 rfl A9 _ (tnC_3 _ _ _ _ _ _ _) ?_; go_simp; go_big_quiet_on)
            | (go_big_quiet_op; go_big_quiet_on)
            | (go_big_quiet_op; apply Exists.intro; refine ⟨fun w' hw' => ?_, ?_⟩; (go_at_call 41; exact (KN _).mono fun _ _ h => ⟨h.1, hw'.step (by obtain ⟨m, rfl⟩ := h.2; exact bdrew (Below.refl _ _) m)⟩); go_big_quiet_on)))
        refine wpQuiet_nil ?_
        intro w5 hw5
        clear hC A9 KN
        go_wp2_with fail
        go_ret
        exact ⟨rfl, hw5⟩
    · have d2 : ¬ (nf : Int) = (nr : Int) := by omega
      have d2a : ((nf : Int) != (nr : Int)) = true := by simpa using d2
      have d2b : ((nf : Int) == (nr : Int)) = false := by simpa using d2
      have d2c : ¬ nf = nr := c2
      rw [decide_eq_false c2, Bool.false_and, Bool.false_and, Bool.false_and]
      go_enter Tryz.func43, Tryz.ntmps43
      go_wp2_with fail
      refine wp_region_cb (by kernel_rfl) (by kernel_rfl) ?_
      have hC := Cb.const w
      repeat (first
        | go_big_quiet_skip
        | (go_big_quiet_want; first
          | (refine q_oneI 33 _ rfl _ Tryz.underlying33 rfl 0 rfl A9 _ (tnC_0 _ _ _ _ _ _ _) ?_; go_simp; go_big_quiet_on)
          | (refine q_oneI 23 _ rfl _ Tryz.underlying23 rfl 1 rfl A9 _ (tnC_1 _ _ _ _ _ _ _) ?_; go_simp; go_big_quiet_on)
          | (refine q_oneI 34 _ rfl _ Tryz.underlying34 rfl 2 rfl A9 _ (tnC_2 _ _ _ _ _ _ _) ?_; go_simp; go_big_quiet_on)
          | (refine q_oneI 35 _ rfl _ Tryz.underlying35 rfl 3 rfl A9 _ (tnC_3 _ _ _ _ _ _ _) ?_; go_simp; go_big_quiet_on)
          | (go_big_quiet_op; go_big_quiet_on)
          | (go_big_quiet_op; apply Exists.intro; refine ⟨fun w' hw' => ?_, ?_⟩; (go_at_call 41; exact (KN _).mono fun _ _ h => ⟨h.1, hw'.step (by obtain ⟨m, rfl⟩ := h.2; exact bdrew (Below.refl _ _) m)⟩); go_big_quiet_on)))
      refine wpQuiet_nil ?_
      intro w5 hw5
      clear hC A9 KN
      go_wp2_with fail
      go_ret
      exact ⟨rfl, hw5⟩
  · rw [show inB 1 8 (nr : Int) = false from decide_eq_false (by omega)] at KN
    rw [decide_eq_false c1, Bool.false_and, Bool.false_and, Bool.false_and, Bool.false_and]
    go_enter Tryz.func43, Tryz.ntmps43
    go_wp2_with fail
    refine wp_region_cb (by kernel_rfl) (by kernel_rfl) ?_
    have hC := Cb.const w
    repeat (first
      | go_big_quiet_skip
      | (go_big_quiet_want; first
        | (refine q_oneI 33 _ rfl _ Tryz.underlying33 rfl 0 rfl A9 _ (tnC_0 _ _ _ _ _ _ _) ?_; go_simp; go_big_quiet_on)
        | (refine q_oneI 23 _ rfl _ Tryz.underlying23 rfl 1 rfl A9 _ (tnC_1 _ _ _ _ _ _ _) ?_; go_simp; go_big_quiet_on)
        | (refine q_oneI 34 _ rfl _ Tryz.underlying34 rfl 2 rfl A9 _ (tnC_2 _ _ _ _ _ _ _) ?_; go_simp; go_big_quiet_on)
        | (refine q_oneI 35 _ rfl _ Tryz.underlying35 rfl 3 rfl A9 _ (tnC_3 _ _ _ _ _ _ _) ?_; go_simp; go_big_quiet_on)
        | (go_big_quiet_op; go_big_quiet_on)
        | (go_big_quiet_op; apply Exists.intro; refine ⟨fun w' hw' => ?_, ?_⟩; (go_at_call 41; exact (KN _).mono fun _ _ h => ⟨h.1, hw'.step (by obtain ⟨m, rfl⟩ := h.2; exact bdrew (Below.refl _ _) m)⟩); go_big_quiet_on)))
    refine wpQuiet_nil ?_
    intro w5 hw5
    clear hC A9 KN
    go_wp2_with fail
    go_ret
    exact ⟨rfl, hw5⟩

end Go.Proofs.YtboahhipobcabaaGreat
