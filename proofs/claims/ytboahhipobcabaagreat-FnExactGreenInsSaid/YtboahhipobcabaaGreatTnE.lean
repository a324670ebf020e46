/-
  CONTRACTS: the roads of a town's joints, as the model asks it.
-/
import Derived.Test.YtboahhipobcabaaGreatTnU
import Derived.Test.YtboahhipobcabaaGreatTnS
import Derived.Test.YtboahhipobcabaaGreatG15
namespace Go.Proofs.YtboahhipobcabaaGreat
open Go Go.ChangeShapes Go.WideShapes Go.ChangeAt Go.RowKit
set_option maxRecDepth 100000

/-- all is as it was, but two blocks -/
structure Exx (g1 g2 : Nat) (W w : World) : Prop where
  os : w.os = W.os
  tape : w.tape = W.tape
  output : w.output = W.output
  size : W.heap.size ≤ w.heap.size
  block : ∀ k, k < W.heap.size → k ≠ g1 → k ≠ g2 → w.heap[k]? = W.heap[k]?

theorem Exx.refl (g1 g2 : Nat) (W : World) : Exx g1 g2 W W := ⟨rfl, rfl, rfl, Nat.le_refl _, fun _ _ _ _ => rfl⟩

theorem Exx.drewN {g1 g2 : Nat} {W w : World} (h : Exx g1 g2 W w) (n : Nat) : Exx g1 g2 W (w.drewN n) := ⟨h.1, h.2, h.3, h.4, h.5⟩

theorem Exx.at {g1 g2 : Nat} {W w : World} (h : Exx g1 g2 W w) {g : Nat} {c : Array Value} {T : TypeId} (hA : At W g c T) (h1 : g ≠ g1) (h2 : g ≠ g2) : At w g c T := (h.5 g hA.lt h1 h2).trans hA

theorem Exx.one {g1 g2 : Nat} {W w w' : World} (h : Exx g1 g2 W w) (k : Ex g1 w w') : Exx g1 g2 W w' := ⟨k.1.trans h.1, k.2.trans h.2, k.3.trans h.3, Nat.le_trans h.4 k.4, fun i hi h1 h2 => (k.5 i (Nat.lt_of_lt_of_le hi h.4) h1).trans (h.5 i hi h1 h2)⟩

theorem Exx.two {g1 g2 : Nat} {W w w' : World} (h : Exx g1 g2 W w) (k : Ex g2 w w') : Exx g1 g2 W w' := ⟨k.1.trans h.1, k.2.trans h.2, k.3.trans h.3, Nat.le_trans h.4 k.4, fun i hi h1 h2 => (k.5 i (Nat.lt_of_lt_of_le hi h.4) h2).trans (h.5 i hi h1 h2)⟩

theorem Exx.trans {g1 g2 : Nat} {a b c : World} (h : Exx g1 g2 a b) (k : Exx g1 g2 b c) : Exx g1 g2 a c := ⟨k.1.trans h.1, k.2.trans h.2, k.3.trans h.3, Nat.le_trans h.4 k.4, fun i hi h1 h2 => (k.5 i (Nat.lt_of_lt_of_le hi h.4) h1 h2).trans (h.5 i hi h1 h2)⟩

theorem Exx.below {g1 g2 B : Nat} {W w : World} (h : Exx g1 g2 W w) (h1 : B ≤ g1) (h2 : B ≤ g2) (h3 : B ≤ W.heap.size) : Below B W w := ⟨h.1, h.2, h.3, h.4, fun k hk => h.5 k (by omega) (by omega) (by omega)⟩

theorem run_make_yes (W : World) (n : Nat) (hn : n ≤ 1048576) : (Instr.makeSlice 138 (.int .i64 (n : Int)) (.int .i64 (n : Int))).run Tryz.prog W = .ok (.slice (some ⟨W.heap.size, 0, none⟩) n n) (W.alloc (.cells (bl (mkS n [])) 4)) := by
  have hi : (Tryz.prog.info? 4).map (fun i => (i.zero, i.size, i.bytes)) = some (some (.bool false), 1, 1) := by kernel_rfl
  obtain ⟨i, h1, h2, h3, h4⟩ := info_parts hi
  have := run_make (P := Tryz.prog) W 138 4 i (.bool false) Tryz.underlying138 h1 h2 .i64 .i64 (n : Int) (n : Int) (by omega) (by omega) (by rw [h4]; omega) (by omega)
  rw [Int.toNat_natCast, h3] at this
  rw [this]
  congr 3
  have e : (Value.bool false).cells = #[.bool false] := rfl
  unfold madeCells bl mkS
  apply Array.ext
  · simp [e]
  · intro k h1 h2
    simp [e, Nat.mod_one]

/-- one joint, as the model asks it -/
def endK (nr np : Nat) (js : List Jt) (k : Nat) : Bool := okJt (fe zJ js k) && !(((fe zJ js k).ns.length : Int) != (fe zJ js k).i) && !(((fe zJ js k).us.length : Int) != (fe zJ js k).o) && useB nr (flatN (insF js) k) (fe zJ js k).ns && useB nr (flatN (outsF js) k) (fe zJ js k).us && inB (-1) ((np : Int) - 1) (fe zJ js k).p

set_option maxHeartbeats 8000000 in
theorem l06Ends_at (gt gr n gj gp np : Nat) (hn : n ≤ 1048576) (hnp : np ≤ 1048576) (js : List Jt) (ys : List Jr) (hm0 : js.length ≤ 1048576) (hN : jsN js js.length ≤ 1048576) (hl : ys.length = js.length) (vf : Value) (tk : Int) (ca we : Nat) (w : World)
    (hT0 : At w gt (tnC (.slice (some ⟨gr, 0, none⟩) n n) vf (.slice (some ⟨gj, 0, none⟩) js.length js.length) (.slice (some ⟨gp, 0, none⟩) np np) tk ca we) 37) (hJ0 : At w gj (fm jrC ys) 73) (hK0 : JOk w gj ys js) :
    Calls Tryz.prog 67 #[.pointer (some ⟨gt, 0, none⟩)] w fun e w' => ∃ gi go, e = .returned (.tuple #[.slice (some ⟨gi, 0, none⟩) n n, .slice (some ⟨go, 0, none⟩) n n, .bool (allN (endK n np js) js.length)]) ∧ (allN (endK n np js) js.length = true → At w' go (bl (mkS n (flatN (outsF js) js.length))) 4) ∧ w.heap.size ≤ go ∧ Below w.heap.size w w' := by
  obtain ⟨m, hmm⟩ : ∃ m, m = js.length := ⟨_, rfl⟩
  obtain ⟨f, hf⟩ : ∃ f, f = endK n np js := ⟨_, rfl⟩
  rw [← hmm, ← hf]
  rw [← hmm] at hT0 hm0
  have HM := Lib.hid hmm
  have HF := Lib.hid hf
  have HW := Lib.hid (And.intro hT0 (And.intro hJ0 (And.intro hK0 (And.intro hl hN))))
  have hmk1 := Lib.hid (run_make_yes w n hn)
  have hmk2 := run_make_yes (w.alloc (.cells (bl (mkS n [])) 4)) n hn
  rw [World.size_alloc] at hmk2
  have hmk2 := Lib.hid hmk2
  have I0 : At ((w.alloc (.cells (bl (mkS n [])) 4)).alloc (.cells (bl (mkS n [])) 4)) w.heap.size (bl (mkS n [])) 4 := (At.new w _ _).alloc _
  have O0 : At ((w.alloc (.cells (bl (mkS n [])) 4)).alloc (.cells (bl (mkS n [])) 4)) (w.heap.size + 1) (bl (mkS n [])) 4 := At.last1 w _ _ _
  have T1 := hT0.alloc (.cells (bl (mkS n [])) 4)
  have T2 := T1.alloc (.cells (bl (mkS n [])) 4)
  have B0 := Lib.hid (bnew (b0 w (.cells (bl (mkS n [])) 4)) (.cells (bl (mkS n [])) 4))
  have s0 : IntKind.i64.wrap ((np : Int) - 1) = (np : Int) - 1 := IntWalk.i64_in _ (by omega)
  have HS1 := Lib.hid s0
  clear s0
  obtain ⟨W, hW⟩ : ∃ W, W = ((w.alloc (.cells (bl (mkS n [])) 4)).alloc (.cells (bl (mkS n [])) 4)) := ⟨_, rfl⟩
  obtain ⟨gi, hgi⟩ : ∃ gi, gi = w.heap.size := ⟨_, rfl⟩
  obtain ⟨go, hgo⟩ : ∃ go, go = w.heap.size + 1 := ⟨_, rfl⟩
  have HGi := Lib.hid hgi
  have HGo := Lib.hid hgo
  have HWs := Lib.hid (show W.heap.size = w.heap.size + 1 + 1 from by rw [hW, World.size_alloc, World.size_alloc])
  clear hmm hf hJ0 hK0 hl hN
  go_enter Tryz.func67, Tryz.ntmps67
  go_wp2_with (first | ((with_reducible refine is_load 33 _ rfl ?_); refine wpList_load_cell rfl 33 _ rfl _ 0 rfl (tnC (.slice (some ⟨gr, 0, none⟩) n n) vf (.slice (some ⟨gj, 0, none⟩) m m) (.slice (some ⟨gp, 0, none⟩) np np) tk ca we) _ (by with_reducible assumption) _ Tryz.underlying33 rfl (.slice (some ⟨gr, 0, none⟩) n n) (tnC_0 _ _ _ _ _ _ _) ?_) | ((with_reducible refine is_load 34 _ rfl ?_); refine wpList_load_cell rfl 34 _ rfl _ 2 rfl (tnC (.slice (some ⟨gr, 0, none⟩) n n) vf (.slice (some ⟨gj, 0, none⟩) m m) (.slice (some ⟨gp, 0, none⟩) np np) tk ca we) _ (by with_reducible assumption) _ Tryz.underlying34 rfl (.slice (some ⟨gj, 0, none⟩) m m) (tnC_2 _ _ _ _ _ _ _) ?_) | (at_make; refine wpList_make_runI rfl _ _ _ rfl _ _ _ rfl rfl hmk1.out ?_) | (at_make; refine wpList_make_runI rfl _ _ _ rfl _ _ _ rfl rfl hmk2.out ?_))
  clear hmk1 hmk2 hT0 T1
  rw [← hW] at I0 O0 T2 B0 ⊢
  rw [← hgi] at I0
  rw [← hgo] at O0
  rw [← hgo, ← hgi]
  have HT2 := Lib.hid T2
  clear hW T2 hgi hgo
  go_loopw [7] (fun iv wr => ∃ k : Nat, k ≤ m ∧ iv = .int .i64 (k : Int) ∧ At wr gi (bl (mkS n (flatN (insF js) k))) 4 ∧ At wr go (bl (mkS n (flatN (outsF js) k))) 4 ∧ Hid (allN f k = true) ∧ Hid (Exx gi go W wr)) (fun iv _ => m - (intOf iv).toNat)
  case atStart => exact ⟨0, by omega, rfl, I0, O0, Lib.hid rfl, Lib.hid (Exx.refl _ _ _)⟩
  case round =>
    clear I0 O0
    obtain ⟨k, hk, rfl, I9, O9, hok, S0'⟩ := hrel
    have hglt : gt < w.heap.size := HW.out.1.lt
    have hgt1 : gt ≠ gi := by have := HGi.out; omega
    have hgt2 : gt ≠ go := by have := HGo.out; omega
    have T9 := S0'.out.at HT2.out hgt1 hgt2
    by_cases hlt : k < m
    · have s2 : IntKind.i64.wrap ((k : Int) + 1) = (k : Int) + 1 := IntWalk.i64_in _ (by omega)
      have kd : (k : Int) < (m : Int) := by omega
      have hkl : k < js.length := by rw [← HM.out]; exact hlt
      have hgj : gj < w.heap.size := HW.out.2.1.lt
      have J9 := S0'.out.at (HW.out.2.1.step B0.out) (by have := HGi.out; omega) (by have := HGo.out; omega)
      obtain ⟨gl, gv, hy, G0, V0, hgl, hgv⟩ := HW.out.2.2.1 k (by rw [HW.out.2.2.2.1]; exact hkl)
      have hgl2 := G0.lt
      have hgv2 := V0.lt
      have hNk := jsN_le (js := js) hkl
      have hNn := HW.out.2.2.2.2
      have hR1 : ∀ {x c : Nat}, x = k * 25 + c → c < 25 → (fm jrC ys)[x]? = (jrC (jrOf (fe zJ js k) (some ⟨gl, 0, none⟩) (fe zJ js k).ns.length (some ⟨gv, 0, none⟩) (fe zJ js k).us.length))[c]? := fun {x c} hx hc => by
        rw [hx, ← hy]
        exact fm_get jrC_size (by rw [HW.out.2.2.2.1]; exact hkl) hc
      have HFi : flatN (insF js) (k + 1) = flatN (insF js) k ++ (fe zJ js k).ns := rfl
      have HFo : flatN (outsF js) (k + 1) = flatN (outsF js) k ++ (fe zJ js k).us := rfl
      have hfk : f k = endK n np js k := by rw [HF.out]
      unfold endK okJt at hfk
      have GA := S0'.out.at (G0.step B0.out) (by have := HGi.out; omega) (by have := HGo.out; omega)
      have VA := S0'.out.at (V0.step B0.out) (by have := HGi.out; omega) (by have := HGo.out; omega)
      have hgl3 : gl ≠ gi ∧ gl ≠ go := by have := HGi.out; have := HGo.out; omega
      have hgv3 : gv ≠ gi ∧ gv ≠ go := by have := HGi.out; have := HGo.out; omega
      have hgj3 : gj ≠ gi ∧ gj ≠ go := by have := HGi.out; have := HGo.out; omega
      have hnl1 : (fe zJ js k).ns.length ≤ 1048576 := by omega
      have hnv1 : (fe zJ js k).us.length ≤ 1048576 := by omega
      clear hy G0 V0 hgl hgv hNk hNn hkl
      obtain ⟨j, hj⟩ : ∃ j, j = fe zJ js k := ⟨_, rfl⟩
      rw [← hj] at hR1 HFi HFo hfk GA VA hnl1 hnv1
      clear hj
      obtain ⟨i, o, ts, ps, ns, us, p, hi, ho, ht, hp, hct, hcp, hns2, hus2, hpl⟩ := j
      obtain ⟨R, hRR⟩ : ∃ R, R = fm jrC ys := ⟨_, rfl⟩
      rw [← hRR] at hR1 J9
      clear hRR
      have GA : At wr gl (il ns) 2 := GA
      have VA : At wr gv (il us) 2 := VA
      have hnl1 : ns.length ≤ 1048576 := hnl1
      have hnv1 : us.length ≤ 1048576 := hnv1
      have HFi : flatN (insF js) (k + 1) = flatN (insF js) k ++ ns := HFi
      have HFo : flatN (outsF js) (k + 1) = flatN (outsF js) k ++ us := HFo
      generalize hsI : flatN (insF js) k = sI at *
      generalize hsO : flatN (outsF js) k = sO at *
      have hfk : f k = (okJ i o ts ps && !((ns.length : Int) != i) && !((us.length : Int) != o) && useB n sI ns && useB n sO us && inB (-1) ((np : Int) - 1) p) := hfk
      have KU1 : ∀ u, At u gl (il ns) 2 → At u gi (bl (mkS n sI)) 4 → _ := fun u h1 h2 => l06Used_at gl gi n hgl3.1 hn ns sI hnl1 hns2 2 u h1 h2
      have KU2 : ∀ u, At u gv (il us) 2 → At u go (bl (mkS n sO)) 4 → _ := fun u h1 h2 => l06Used_at gv go n hgv3.2 hn us sO hnv1 hus2 2 u h1 h2
      have hR1 : ∀ {x c : Nat}, x = k * 25 + c → c < 25 → R[x]? = (jr i o ts ps (.slice (some ⟨gl, 0, none⟩) ns.length ns.length) (.slice (some ⟨gv, 0, none⟩) us.length us.length) p)[c]? := hR1
      obtain ⟨off, hoff⟩ : ∃ off, off = k * 25 := ⟨_, rfl⟩
      rw [← hoff] at hR1
      have HOff := Lib.hid hoff
      clear hoff
      have hR : ∀ {x c : Nat}, x = off + c → c < 22 → R[x]? = (jn i o ts ps)[c]? := fun h1 h2 => (hR1 h1 (by omega)).trans (jr_lo ht hp _ _ _ _ _ h2)
      have hR2 : ∀ {x c : Nat}, x = off + c → c < 25 → R[x]? = _ := hR1
      obtain ⟨nl, hnl⟩ : ∃ nl, nl = ns.length := ⟨_, rfl⟩
      obtain ⟨nv, hnv⟩ : ∃ nv, nv = us.length := ⟨_, rfl⟩
      rw [← hnl] at hR2 hR1 hfk KU1
      rw [← hnv] at hR2 hR1 hfk KU2
      have KO := fun (u : World) (h : At u gj R 73) => l03OkO_b gj off R i o ts ps hi ho ht hp hct hcp 73 u h hR
      have KI := fun u => l00In_b p (-1) (IntKind.i64.wrap ((np : Int) - 1)) u
      simp only [show inB (-1) (IntKind.i64.wrap ((np : Int) - 1)) p = inB (-1) ((np : Int) - 1) p from by rw [HS1.out]] at KI
      have HA := Lib.hid (And.intro J9 hgj3)
      have HA2 := Lib.hid (And.intro GA hgl3)
      have HA4 := Lib.hid (And.intro VA hgv3)
      have HA3 := Lib.hid (show go ≠ gi from by have := HGi.out; have := HGo.out; omega)
      have HT := Lib.hid (And.intro T9 (And.intro hgt1 hgt2))
      have HS := Lib.hid (And.intro HFi HFo)
      have HG1 := Lib.hid (show w.heap.size ≤ gi from by have := HGi.out; omega)
      have HG2 := Lib.hid (show w.heap.size ≤ go from by have := HGo.out; omega)
      have HG3 := Lib.hid (show w.heap.size ≤ wr.heap.size from by have := HWs.out; have := S0'.out.size; omega)
      have HBW := Lib.hid (B0.out.trans (S0'.out.below HG1.out HG2.out (by have := HWs.out; omega)))
      have L22 : ∀ w2, Exx gi go wr w2 → (Instr.loadAt 71 (.pointer (some ⟨gj, off + 22, none⟩))).run Tryz.prog w2 = .ok (.slice (some ⟨gl, 0, none⟩) nl nl) w2 := fun w2 h2 => run_load_one w2 71 _ Tryz.underlying71 rfl _ _ ((h2.at HA.out.1 HA.out.2.1 HA.out.2.2).cell ((hR2 (c := 22) rfl (by omega)).trans (jr_v ht hp _ _ _ _ _)))
      have L23 : ∀ w2, Exx gi go wr w2 → (Instr.loadAt 71 (.pointer (some ⟨gj, off + 23, none⟩))).run Tryz.prog w2 = .ok (.slice (some ⟨gv, 0, none⟩) nv nv) w2 := fun w2 h2 => run_load_one w2 71 _ Tryz.underlying71 rfl _ _ ((h2.at HA.out.1 HA.out.2.1 HA.out.2.2).cell ((hR2 (c := 23) rfl (by omega)).trans (jr_u ht hp _ _ _ _ _)))
      have L0 : ∀ w2, Exx gi go wr w2 → (Instr.loadAt 2 (.pointer (some ⟨gj, off, none⟩))).run Tryz.prog w2 = .ok (.int .i64 i) w2 := fun w2 h2 => run_load_one w2 2 _ Tryz.underlying2 rfl _ _ ((h2.at HA.out.1 HA.out.2.1 HA.out.2.2).cell ((hR2 (x := off) (c := 0) rfl (by omega)).trans ((jr_lo ht hp _ _ _ _ _ (by omega)).trans (jn_ins _ _ _ _))))
      have L1 : ∀ w2, Exx gi go wr w2 → (Instr.loadAt 2 (.pointer (some ⟨gj, off + 1, none⟩))).run Tryz.prog w2 = .ok (.int .i64 o) w2 := fun w2 h2 => run_load_one w2 2 _ Tryz.underlying2 rfl _ _ ((h2.at HA.out.1 HA.out.2.1 HA.out.2.2).cell ((hR2 (c := 1) rfl (by omega)).trans ((jr_lo ht hp _ _ _ _ _ (by omega)).trans (jn_outs _ _ _ _))))
      have L24 : ∀ w2, Exx gi go wr w2 → (Instr.loadAt 2 (.pointer (some ⟨gj, off + 24, none⟩))).run Tryz.prog w2 = .ok (.int .i64 p) w2 := fun w2 h2 => run_load_one w2 2 _ Tryz.underlying2 rfl _ _ ((h2.at HA.out.1 HA.out.2.1 HA.out.2.2).cell ((hR2 (c := 24) rfl (by omega)).trans (jr_p ht hp _ _ _ _ _)))
      have LP : ∀ w2, Exx gi go wr w2 → (Instr.loadAt 35 (.pointer (some ⟨gt, 3, none⟩))).run Tryz.prog w2 = .ok (.slice (some ⟨gp, 0, none⟩) np np) w2 := fun w2 h2 => run_load_one w2 35 _ Tryz.underlying35 rfl _ _ ((h2.at HT.out.1 HT.out.2.1 HT.out.2.2).cell (tnC_3 _ _ _ _ _ _ _))
      clear HFi HFo hR1 hR hR2 hnl hnv hgj hglt hgt1 hgt2
      go_wp2_with (first | ((with_reducible refine is_load 33 _ rfl ?_); refine wpList_load_cell rfl 33 _ rfl _ 0 rfl (tnC (.slice (some ⟨gr, 0, none⟩) n n) vf (.slice (some ⟨gj, 0, none⟩) m m) (.slice (some ⟨gp, 0, none⟩) np np) tk ca we) _ (by with_reducible assumption) _ Tryz.underlying33 rfl (.slice (some ⟨gr, 0, none⟩) n n) (tnC_0 _ _ _ _ _ _ _) ?_) | ((with_reducible refine is_load 34 _ rfl ?_); refine wpList_load_cell rfl 34 _ rfl _ 2 rfl (tnC (.slice (some ⟨gr, 0, none⟩) n n) vf (.slice (some ⟨gj, 0, none⟩) m m) (.slice (some ⟨gp, 0, none⟩) np np) tk ca we) _ (by with_reducible assumption) _ Tryz.underlying34 rfl (.slice (some ⟨gj, 0, none⟩) m m) (tnC_2 _ _ _ _ _ _ _) ?_))
      rw [← HOff.out]
      refine wp_region_held (S := fun w2 => Exx gi go wr w2) (by kernel_rfl) ?_
      show wpAnyH _ _ _ _ _ 63 (Array.replicate 63 false) _ _
      have S0 : Exx gi go wr { wr with drawn := wr.drawn + 1 } := (Exx.refl gi go wr).drewN 1
      have I0 : At ({ wr with drawn := wr.drawn + 1 } : World) gi (bl (mkS n sI)) 4 := I9
      have O0 : At ({ wr with drawn := wr.drawn + 1 } : World) go (bl (mkS n sO)) 4 := O9
      generalize hw0 : ({ wr with drawn := wr.drawn + 1 } : World) = u0 at S0 I0 O0 ⊢
      clear hw0
      refine wpAnyH_take (i := 0) (v := .pointer (some ⟨gj, off, none⟩)) rfl (by kernel_rfl) (by kernel_rfl) (by kernel_rfl) (fun _ _ _ h => h) (yif rfl fun w2 hw2 => by kernel_rfl) (by assumption) ?_
      refine wpAnyH_take (i := 1) (v := .pointer (some ⟨gj, off, none⟩)) rfl (by kernel_rfl) (by kernel_rfl) (by kernel_rfl) (fun _ _ _ h => h) (yif rfl fun w2 hw2 => by kernel_rfl) (by assumption) ?_
      refine wpAnyH_take (i := 2) (v := .pointer (some ⟨gj, off, none⟩)) rfl (by kernel_rfl) (by kernel_rfl) (by kernel_rfl) (fun _ _ _ h => h) (yif rfl fun w2 hw2 => by kernel_rfl) (by assumption) ?_
      refine wpAnyH_call (j := 3) (f := 114) (args := #[.pointer (some ⟨gj, off, none⟩)]) (by kernel_rfl) rfl (by kernel_rfl) (by kernel_rfl) ((KO u0 (S0.at HA.out.1 HA.out.2.1 HA.out.2.2)).mono ?_)
      rintro e u1 ⟨rfl, m1, rfl⟩
      have S1 := S0.drewN m1
      have I1 := I0.drewN m1
      have O1 := O0.drewN m1
      generalize u0.drewN m1 = u1 at S1 I1 O1 ⊢
      refine ⟨_, rfl, S1, ?_⟩
      cases e0 : okJ i o ts ps
      · have hv := Lib.hid (allN_at hlt (show f k = false from by rw [hfk, e0]; simp only [Bool.and_false, Bool.false_and, Bool.not_true]))
        rw [e0] at KO
        refine wpAnyH_take (i := 4) (v := .bool true) rfl (by kernel_rfl) (by kernel_rfl) (by kernel_rfl) (fun _ _ _ h => h) (yif rfl fun w2 hw2 => by kernel_rfl) (by assumption) ?_
        refine wpAnyH_take (i := 5) (v := .bool true) rfl (by kernel_rfl) (by kernel_rfl) (by kernel_rfl) (fun _ _ _ h => h) (yif rfl fun w2 hw2 => by kernel_rfl) (by assumption) ?_
        refine wpAnyH_take (i := 6) (v := undef) rfl (by kernel_rfl) (by kernel_rfl) (by kernel_rfl) (fun _ _ _ h => h) (.inr ⟨by kernel_rfl, rfl⟩) (by assumption) ?_
        refine wpAnyH_take (i := 7) (v := undef) rfl (by kernel_rfl) (by kernel_rfl) (by kernel_rfl) (fun _ _ _ h => h) (.inr ⟨by kernel_rfl, rfl⟩) (by assumption) ?_
        refine wpAnyH_take (i := 8) (v := undef) rfl (by kernel_rfl) (by kernel_rfl) (by kernel_rfl) (fun _ _ _ h => h) (.inr ⟨by kernel_rfl, rfl⟩) (by assumption) ?_
        refine wpAnyH_take (i := 9) (v := undef) rfl (by kernel_rfl) (by kernel_rfl) (by kernel_rfl) (fun _ _ _ h => h) (.inr ⟨by kernel_rfl, rfl⟩) (by assumption) ?_
        refine wpAnyH_take (i := 10) (v := undef) rfl (by kernel_rfl) (by kernel_rfl) (by kernel_rfl) (fun _ _ _ h => h) (.inr ⟨by kernel_rfl, rfl⟩) (by assumption) ?_
        refine wpAnyH_take (i := 11) (v := undef) rfl (by kernel_rfl) (by kernel_rfl) (by kernel_rfl) (fun _ _ _ h => h) (.inr ⟨by kernel_rfl, rfl⟩) (by assumption) ?_
        refine wpAnyH_take (i := 12) (v := undef) rfl (by kernel_rfl) (by kernel_rfl) (by kernel_rfl) (fun _ _ _ h => h) (.inr ⟨by kernel_rfl, rfl⟩) (by assumption) ?_
        refine wpAnyH_take (i := 13) (v := undef) rfl (by kernel_rfl) (by kernel_rfl) (by kernel_rfl) (fun _ _ _ h => h) (.inr ⟨by kernel_rfl, rfl⟩) (by assumption) ?_
        refine wpAnyH_take (i := 14) (v := undef) rfl (by kernel_rfl) (by kernel_rfl) (by kernel_rfl) (fun _ _ _ h => h) (.inr ⟨by kernel_rfl, rfl⟩) (by assumption) ?_
        refine wpAnyH_take (i := 15) (v := undef) rfl (by kernel_rfl) (by kernel_rfl) (by kernel_rfl) (fun _ _ _ h => h) (.inr ⟨by kernel_rfl, rfl⟩) (by assumption) ?_
        refine wpAnyH_take (i := 16) (v := undef) rfl (by kernel_rfl) (by kernel_rfl) (by kernel_rfl) (fun _ _ _ h => h) (.inr ⟨by kernel_rfl, rfl⟩) (by assumption) ?_
        refine wpAnyH_take (i := 17) (v := .bool true) rfl (by kernel_rfl) (by kernel_rfl) (by kernel_rfl) (fun _ _ _ h => h) (yif rfl fun w2 hw2 => by kernel_rfl) (by assumption) ?_
        refine wpAnyH_take (i := 18) (v := .bool true) rfl (by kernel_rfl) (by kernel_rfl) (by kernel_rfl) (fun _ _ _ h => h) (yif rfl fun w2 hw2 => by kernel_rfl) (by assumption) ?_
        refine wpAnyH_take (i := 19) (v := undef) rfl (by kernel_rfl) (by kernel_rfl) (by kernel_rfl) (fun _ _ _ h => h) (.inr ⟨by kernel_rfl, rfl⟩) (by assumption) ?_
        refine wpAnyH_take (i := 20) (v := undef) rfl (by kernel_rfl) (by kernel_rfl) (by kernel_rfl) (fun _ _ _ h => h) (.inr ⟨by kernel_rfl, rfl⟩) (by assumption) ?_
        refine wpAnyH_take (i := 21) (v := undef) rfl (by kernel_rfl) (by kernel_rfl) (by kernel_rfl) (fun _ _ _ h => h) (.inr ⟨by kernel_rfl, rfl⟩) (by assumption) ?_
        refine wpAnyH_take (i := 22) (v := undef) rfl (by kernel_rfl) (by kernel_rfl) (by kernel_rfl) (fun _ _ _ h => h) (.inr ⟨by kernel_rfl, rfl⟩) (by assumption) ?_
        refine wpAnyH_take (i := 23) (v := undef) rfl (by kernel_rfl) (by kernel_rfl) (by kernel_rfl) (fun _ _ _ h => h) (.inr ⟨by kernel_rfl, rfl⟩) (by assumption) ?_
        refine wpAnyH_take (i := 24) (v := undef) rfl (by kernel_rfl) (by kernel_rfl) (by kernel_rfl) (fun _ _ _ h => h) (.inr ⟨by kernel_rfl, rfl⟩) (by assumption) ?_
        refine wpAnyH_take (i := 25) (v := undef) rfl (by kernel_rfl) (by kernel_rfl) (by kernel_rfl) (fun _ _ _ h => h) (.inr ⟨by kernel_rfl, rfl⟩) (by assumption) ?_
        refine wpAnyH_take (i := 26) (v := undef) rfl (by kernel_rfl) (by kernel_rfl) (by kernel_rfl) (fun _ _ _ h => h) (.inr ⟨by kernel_rfl, rfl⟩) (by assumption) ?_
        refine wpAnyH_take (i := 27) (v := undef) rfl (by kernel_rfl) (by kernel_rfl) (by kernel_rfl) (fun _ _ _ h => h) (.inr ⟨by kernel_rfl, rfl⟩) (by assumption) ?_
        refine wpAnyH_take (i := 28) (v := undef) rfl (by kernel_rfl) (by kernel_rfl) (by kernel_rfl) (fun _ _ _ h => h) (.inr ⟨by kernel_rfl, rfl⟩) (by assumption) ?_
        refine wpAnyH_take (i := 29) (v := undef) rfl (by kernel_rfl) (by kernel_rfl) (by kernel_rfl) (fun _ _ _ h => h) (.inr ⟨by kernel_rfl, rfl⟩) (by assumption) ?_
        refine wpAnyH_take (i := 30) (v := .bool true) rfl (by kernel_rfl) (by kernel_rfl) (by kernel_rfl) (fun _ _ _ h => h) (yif rfl fun w2 hw2 => by kernel_rfl) (by assumption) ?_
        refine wpAnyH_take (i := 31) (v := .bool true) rfl (by kernel_rfl) (by kernel_rfl) (by kernel_rfl) (fun _ _ _ h => h) (yif rfl fun w2 hw2 => by kernel_rfl) (by assumption) ?_
        refine wpAnyH_take (i := 32) (v := undef) rfl (by kernel_rfl) (by kernel_rfl) (by kernel_rfl) (fun _ _ _ h => h) (.inr ⟨by kernel_rfl, rfl⟩) (by assumption) ?_
        refine wpAnyH_take (i := 33) (v := undef) rfl (by kernel_rfl) (by kernel_rfl) (by kernel_rfl) (fun _ _ _ h => h) (.inr ⟨by kernel_rfl, rfl⟩) (by assumption) ?_
        refine wpAnyH_take (i := 34) (v := undef) rfl (by kernel_rfl) (by kernel_rfl) (by kernel_rfl) (fun _ _ _ h => h) (.inr ⟨by kernel_rfl, rfl⟩) (by assumption) ?_
        refine wpAnyH_take (i := 35) (v := undef) rfl (by kernel_rfl) (by kernel_rfl) (by kernel_rfl) (fun _ _ _ h => h) (.inr ⟨by kernel_rfl, rfl⟩) (by assumption) ?_
        refine wpAnyH_take (i := 36) (v := undef) rfl (by kernel_rfl) (by kernel_rfl) (by kernel_rfl) (fun _ _ _ h => h) (.inr ⟨by kernel_rfl, rfl⟩) (by assumption) ?_
        refine wpAnyH_take (i := 37) (v := undef) rfl (by kernel_rfl) (by kernel_rfl) (by kernel_rfl) (fun _ _ _ h => h) (.inr ⟨by kernel_rfl, rfl⟩) (by assumption) ?_
        refine wpAnyH_take (i := 38) (v := undef) rfl (by kernel_rfl) (by kernel_rfl) (by kernel_rfl) (fun _ _ _ h => h) (.inr ⟨by kernel_rfl, rfl⟩) (by assumption) ?_
        refine wpAnyH_take (i := 39) (v := .bool true) rfl (by kernel_rfl) (by kernel_rfl) (by kernel_rfl) (fun _ _ _ h => h) (yif rfl fun w2 hw2 => by kernel_rfl) (by assumption) ?_
        refine wpAnyH_take (i := 40) (v := .bool true) rfl (by kernel_rfl) (by kernel_rfl) (by kernel_rfl) (fun _ _ _ h => h) (yif rfl fun w2 hw2 => by kernel_rfl) (by assumption) ?_
        refine wpAnyH_take (i := 41) (v := undef) rfl (by kernel_rfl) (by kernel_rfl) (by kernel_rfl) (fun _ _ _ h => h) (.inr ⟨by kernel_rfl, rfl⟩) (by assumption) ?_
        refine wpAnyH_take (i := 42) (v := undef) rfl (by kernel_rfl) (by kernel_rfl) (by kernel_rfl) (fun _ _ _ h => h) (.inr ⟨by kernel_rfl, rfl⟩) (by assumption) ?_
        refine wpAnyH_take (i := 43) (v := undef) rfl (by kernel_rfl) (by kernel_rfl) (by kernel_rfl) (fun _ _ _ h => h) (.inr ⟨by kernel_rfl, rfl⟩) (by assumption) ?_
        refine wpAnyH_take (i := 44) (v := undef) rfl (by kernel_rfl) (by kernel_rfl) (by kernel_rfl) (fun _ _ _ h => h) (.inr ⟨by kernel_rfl, rfl⟩) (by assumption) ?_
        refine wpAnyH_take (i := 45) (v := undef) rfl (by kernel_rfl) (by kernel_rfl) (by kernel_rfl) (fun _ _ _ h => h) (.inr ⟨by kernel_rfl, rfl⟩) (by assumption) ?_
        refine wpAnyH_take (i := 46) (v := undef) rfl (by kernel_rfl) (by kernel_rfl) (by kernel_rfl) (fun _ _ _ h => h) (.inr ⟨by kernel_rfl, rfl⟩) (by assumption) ?_
        refine wpAnyH_take (i := 47) (v := undef) rfl (by kernel_rfl) (by kernel_rfl) (by kernel_rfl) (fun _ _ _ h => h) (.inr ⟨by kernel_rfl, rfl⟩) (by assumption) ?_
        refine wpAnyH_take (i := 48) (v := .bool true) rfl (by kernel_rfl) (by kernel_rfl) (by kernel_rfl) (fun _ _ _ h => h) (yif rfl fun w2 hw2 => by kernel_rfl) (by assumption) ?_
        refine wpAnyH_take (i := 49) (v := .bool true) rfl (by kernel_rfl) (by kernel_rfl) (by kernel_rfl) (fun _ _ _ h => h) (yif rfl fun w2 hw2 => by kernel_rfl) (by assumption) ?_
        refine wpAnyH_take (i := 50) (v := undef) rfl (by kernel_rfl) (by kernel_rfl) (by kernel_rfl) (fun _ _ _ h => h) (.inr ⟨by kernel_rfl, rfl⟩) (by assumption) ?_
        refine wpAnyH_take (i := 51) (v := undef) rfl (by kernel_rfl) (by kernel_rfl) (by kernel_rfl) (fun _ _ _ h => h) (.inr ⟨by kernel_rfl, rfl⟩) (by assumption) ?_
        refine wpAnyH_take (i := 52) (v := undef) rfl (by kernel_rfl) (by kernel_rfl) (by kernel_rfl) (fun _ _ _ h => h) (.inr ⟨by kernel_rfl, rfl⟩) (by assumption) ?_
        refine wpAnyH_take (i := 53) (v := undef) rfl (by kernel_rfl) (by kernel_rfl) (by kernel_rfl) (fun _ _ _ h => h) (.inr ⟨by kernel_rfl, rfl⟩) (by assumption) ?_
        refine wpAnyH_take (i := 54) (v := undef) rfl (by kernel_rfl) (by kernel_rfl) (by kernel_rfl) (fun _ _ _ h => h) (.inr ⟨by kernel_rfl, rfl⟩) (by assumption) ?_
        refine wpAnyH_take (i := 55) (v := undef) rfl (by kernel_rfl) (by kernel_rfl) (by kernel_rfl) (fun _ _ _ h => h) (.inr ⟨by kernel_rfl, rfl⟩) (by assumption) ?_
        refine wpAnyH_take (i := 56) (v := undef) rfl (by kernel_rfl) (by kernel_rfl) (by kernel_rfl) (fun _ _ _ h => h) (.inr ⟨by kernel_rfl, rfl⟩) (by assumption) ?_
        refine wpAnyH_take (i := 57) (v := undef) rfl (by kernel_rfl) (by kernel_rfl) (by kernel_rfl) (fun _ _ _ h => h) (.inr ⟨by kernel_rfl, rfl⟩) (by assumption) ?_
        refine wpAnyH_take (i := 58) (v := undef) rfl (by kernel_rfl) (by kernel_rfl) (by kernel_rfl) (fun _ _ _ h => h) (.inr ⟨by kernel_rfl, rfl⟩) (by assumption) ?_
        refine wpAnyH_take (i := 59) (v := undef) rfl (by kernel_rfl) (by kernel_rfl) (by kernel_rfl) (fun _ _ _ h => h) (.inr ⟨by kernel_rfl, rfl⟩) (by assumption) ?_
        refine wpAnyH_take (i := 60) (v := undef) rfl (by kernel_rfl) (by kernel_rfl) (by kernel_rfl) (fun _ _ _ h => h) (.inr ⟨by kernel_rfl, rfl⟩) (by assumption) ?_
        refine wpAnyH_take (i := 61) (v := undef) rfl (by kernel_rfl) (by kernel_rfl) (by kernel_rfl) (fun _ _ _ h => h) (.inr ⟨by kernel_rfl, rfl⟩) (by assumption) ?_
        refine wpAnyH_take (i := 62) (v := .bool true) rfl (by kernel_rfl) (by kernel_rfl) (by kernel_rfl) (fun _ _ _ h => h) (yif rfl fun w2 hw2 => by kernel_rfl) (by assumption) ?_
        refine wpAnyH_done (by kernel_rfl) ?_ _
        go_simp
        have BF := Lib.hid (S1.below HG1.out HG2.out HG3.out)
        clear L22 L23 L0 L1 L24 LP S0 I0 O0
        go_wp2_with fail
        go_ret3
        exact ⟨gi, go, by rw [hv.out]; rfl, fun h => Bool.noConfusion (hv.out.symm.trans h), HG2.out, HBW.out.trans BF.out⟩
      · rw [e0] at KO
        refine wpAnyH_take (i := 4) (v := .bool false) rfl (by kernel_rfl) (by kernel_rfl) (by kernel_rfl) (fun _ _ _ h => h) (yif rfl fun w2 hw2 => by kernel_rfl) (by assumption) ?_
        refine wpAnyH_take (i := 5) (v := .bool false) rfl (by kernel_rfl) (by kernel_rfl) (by kernel_rfl) (fun _ _ _ h => h) (yif rfl fun w2 hw2 => by kernel_rfl) (by assumption) ?_
        refine wpAnyH_take (i := 6) (v := .pointer (some ⟨gj, off, none⟩)) rfl (by kernel_rfl) (by kernel_rfl) (by kernel_rfl) (fun _ _ _ h => h) (yig (by kernel_rfl) fun w2 hw2 => by kernel_rfl) (by assumption) ?_
        refine wpAnyH_take (i := 7) (v := .pointer (some ⟨gj, off, none⟩)) rfl (by kernel_rfl) (by kernel_rfl) (by kernel_rfl) (fun _ _ _ h => h) (yig (by kernel_rfl) fun w2 hw2 => by kernel_rfl) (by assumption) ?_
        refine wpAnyH_take (i := 8) (v := .pointer (some ⟨gj, off + 22, none⟩)) rfl (by kernel_rfl) (by kernel_rfl) (by kernel_rfl) (fun _ _ _ h => h) (yig (by kernel_rfl) fun w2 hw2 => by kernel_rfl) (by assumption) ?_
        refine wpAnyH_take (i := 9) (v := .slice (some ⟨gl, 0, none⟩) nl nl) rfl (by kernel_rfl) (by kernel_rfl) (by kernel_rfl) (fun _ _ _ h => h) (yig (by kernel_rfl) fun w2 hw2 => x_load 71 (.tmp 44) rfl ⟨gj, off + 22, none⟩ (by kernel_rfl) (L22 w2 hw2)) (by assumption) ?_
        refine wpAnyH_take (i := 10) (v := .int .i64 (nl : Int)) rfl (by kernel_rfl) (by kernel_rfl) (by kernel_rfl) (fun _ _ _ h => h) (yig (by kernel_rfl) fun w2 hw2 => by kernel_rfl) (by assumption) ?_
        refine wpAnyH_take (i := 11) (v := .pointer (some ⟨gj, off, none⟩)) rfl (by kernel_rfl) (by kernel_rfl) (by kernel_rfl) (fun _ _ _ h => h) (yig (by kernel_rfl) fun w2 hw2 => by kernel_rfl) (by assumption) ?_
        refine wpAnyH_take (i := 12) (v := .pointer (some ⟨gj, off, none⟩)) rfl (by kernel_rfl) (by kernel_rfl) (by kernel_rfl) (fun _ _ _ h => h) (yig (by kernel_rfl) fun w2 hw2 => by kernel_rfl) (by assumption) ?_
        refine wpAnyH_take (i := 13) (v := .pointer (some ⟨gj, off, none⟩)) rfl (by kernel_rfl) (by kernel_rfl) (by kernel_rfl) (fun _ _ _ h => h) (yig (by kernel_rfl) fun w2 hw2 => by kernel_rfl) (by assumption) ?_
        refine wpAnyH_take (i := 14) (v := .pointer (some ⟨gj, off, none⟩)) rfl (by kernel_rfl) (by kernel_rfl) (by kernel_rfl) (fun _ _ _ h => h) (yig (by kernel_rfl) fun w2 hw2 => by kernel_rfl) (by assumption) ?_
        refine wpAnyH_take (i := 15) (v := .int .i64 i) rfl (by kernel_rfl) (by kernel_rfl) (by kernel_rfl) (fun _ _ _ h => h) (yig (by kernel_rfl) fun w2 hw2 => x_load 2 (.tmp 50) rfl ⟨gj, off, none⟩ (by kernel_rfl) (L0 w2 hw2)) (by assumption) ?_
        cases e1 : ((nl : Int) != i)
        · skip
          refine wpAnyH_take (i := 16) (v := .bool false) rfl (by kernel_rfl) (by kernel_rfl) (by kernel_rfl) (fun _ _ _ h => h) (yig (by kernel_rfl) fun w2 hw2 => (show _ = Result.ok (Next.value (Value.bool (((nl : Int)) != (i)))) w2 from by kernel_rfl).trans (by rw [e1])) (by assumption) ?_
          refine wpAnyH_take (i := 17) (v := .bool false) rfl (by kernel_rfl) (by kernel_rfl) (by kernel_rfl) (fun _ _ _ h => h) (yif rfl fun w2 hw2 => by kernel_rfl) (by assumption) ?_
          refine wpAnyH_take (i := 18) (v := .bool false) rfl (by kernel_rfl) (by kernel_rfl) (by kernel_rfl) (fun _ _ _ h => h) (yif rfl fun w2 hw2 => by kernel_rfl) (by assumption) ?_
          refine wpAnyH_take (i := 19) (v := .pointer (some ⟨gj, off, none⟩)) rfl (by kernel_rfl) (by kernel_rfl) (by kernel_rfl) (fun _ _ _ h => h) (yig (by kernel_rfl) fun w2 hw2 => by kernel_rfl) (by assumption) ?_
          refine wpAnyH_take (i := 20) (v := .pointer (some ⟨gj, off, none⟩)) rfl (by kernel_rfl) (by kernel_rfl) (by kernel_rfl) (fun _ _ _ h => h) (yig (by kernel_rfl) fun w2 hw2 => by kernel_rfl) (by assumption) ?_
          refine wpAnyH_take (i := 21) (v := .pointer (some ⟨gj, off + 23, none⟩)) rfl (by kernel_rfl) (by kernel_rfl) (by kernel_rfl) (fun _ _ _ h => h) (yig (by kernel_rfl) fun w2 hw2 => by kernel_rfl) (by assumption) ?_
          refine wpAnyH_take (i := 22) (v := .slice (some ⟨gv, 0, none⟩) nv nv) rfl (by kernel_rfl) (by kernel_rfl) (by kernel_rfl) (fun _ _ _ h => h) (yig (by kernel_rfl) fun w2 hw2 => x_load 71 (.tmp 57) rfl ⟨gj, off + 23, none⟩ (by kernel_rfl) (L23 w2 hw2)) (by assumption) ?_
          refine wpAnyH_take (i := 23) (v := .int .i64 (nv : Int)) rfl (by kernel_rfl) (by kernel_rfl) (by kernel_rfl) (fun _ _ _ h => h) (yig (by kernel_rfl) fun w2 hw2 => by kernel_rfl) (by assumption) ?_
          refine wpAnyH_take (i := 24) (v := .pointer (some ⟨gj, off, none⟩)) rfl (by kernel_rfl) (by kernel_rfl) (by kernel_rfl) (fun _ _ _ h => h) (yig (by kernel_rfl) fun w2 hw2 => by kernel_rfl) (by assumption) ?_
          refine wpAnyH_take (i := 25) (v := .pointer (some ⟨gj, off, none⟩)) rfl (by kernel_rfl) (by kernel_rfl) (by kernel_rfl) (fun _ _ _ h => h) (yig (by kernel_rfl) fun w2 hw2 => by kernel_rfl) (by assumption) ?_
          refine wpAnyH_take (i := 26) (v := .pointer (some ⟨gj, off, none⟩)) rfl (by kernel_rfl) (by kernel_rfl) (by kernel_rfl) (fun _ _ _ h => h) (yig (by kernel_rfl) fun w2 hw2 => by kernel_rfl) (by assumption) ?_
          refine wpAnyH_take (i := 27) (v := .pointer (some ⟨gj, off + 1, none⟩)) rfl (by kernel_rfl) (by kernel_rfl) (by kernel_rfl) (fun _ _ _ h => h) (yig (by kernel_rfl) fun w2 hw2 => by kernel_rfl) (by assumption) ?_
          refine wpAnyH_take (i := 28) (v := .int .i64 o) rfl (by kernel_rfl) (by kernel_rfl) (by kernel_rfl) (fun _ _ _ h => h) (yig (by kernel_rfl) fun w2 hw2 => x_load 2 (.tmp 63) rfl ⟨gj, off + 1, none⟩ (by kernel_rfl) (L1 w2 hw2)) (by assumption) ?_
          cases e2 : ((nv : Int) != o)
          · skip
            refine wpAnyH_take (i := 29) (v := .bool false) rfl (by kernel_rfl) (by kernel_rfl) (by kernel_rfl) (fun _ _ _ h => h) (yig (by kernel_rfl) fun w2 hw2 => (show _ = Result.ok (Next.value (Value.bool (((nv : Int)) != (o)))) w2 from by kernel_rfl).trans (by rw [e2])) (by assumption) ?_
            refine wpAnyH_take (i := 30) (v := .bool false) rfl (by kernel_rfl) (by kernel_rfl) (by kernel_rfl) (fun _ _ _ h => h) (yif rfl fun w2 hw2 => by kernel_rfl) (by assumption) ?_
            refine wpAnyH_take (i := 31) (v := .bool false) rfl (by kernel_rfl) (by kernel_rfl) (by kernel_rfl) (fun _ _ _ h => h) (yif rfl fun w2 hw2 => by kernel_rfl) (by assumption) ?_
            refine wpAnyH_take (i := 32) (v := .pointer (some ⟨gj, off, none⟩)) rfl (by kernel_rfl) (by kernel_rfl) (by kernel_rfl) (fun _ _ _ h => h) (yig (by kernel_rfl) fun w2 hw2 => by kernel_rfl) (by assumption) ?_
            refine wpAnyH_take (i := 33) (v := .pointer (some ⟨gj, off, none⟩)) rfl (by kernel_rfl) (by kernel_rfl) (by kernel_rfl) (fun _ _ _ h => h) (yig (by kernel_rfl) fun w2 hw2 => by kernel_rfl) (by assumption) ?_
            refine wpAnyH_take (i := 34) (v := .pointer (some ⟨gj, off + 22, none⟩)) rfl (by kernel_rfl) (by kernel_rfl) (by kernel_rfl) (fun _ _ _ h => h) (yig (by kernel_rfl) fun w2 hw2 => by kernel_rfl) (by assumption) ?_
            refine wpAnyH_take (i := 35) (v := .slice (some ⟨gl, 0, none⟩) nl nl) rfl (by kernel_rfl) (by kernel_rfl) (by kernel_rfl) (fun _ _ _ h => h) (yig (by kernel_rfl) fun w2 hw2 => x_load 71 (.tmp 70) rfl ⟨gj, off + 22, none⟩ (by kernel_rfl) (L22 w2 hw2)) (by assumption) ?_
            refine wpAnyH_take (i := 36) (v := .slice (some ⟨gi, 0, none⟩) n n) rfl (by kernel_rfl) (by kernel_rfl) (by kernel_rfl) (fun _ _ _ h => h) (yig (by kernel_rfl) fun w2 hw2 => by kernel_rfl) (by assumption) ?_
            refine wpAnyH_call (j := 37) (f := 115) (args := #[.slice (some ⟨gl, 0, none⟩) nl nl, .slice (some ⟨gi, 0, none⟩) n n]) (by kernel_rfl) rfl (by kernel_rfl) (by kernel_rfl) ((KU1 u1 (S1.at HA2.out.1 HA2.out.2.1 HA2.out.2.2) I1).mono ?_)
            cases e3 : useB n sI ns
            · have hv := Lib.hid (allN_at hlt (show f k = false from by rw [hfk, e3]; simp only [Bool.and_false, Bool.false_and, Bool.not_true]))
              rintro e u2 ⟨rfl, hU, hE⟩
              have S2 := S1.one hE
              have O2 := hE.at O1 HA3.out
              refine ⟨_, rfl, S2, ?_⟩
              refine wpAnyH_take (i := 38) (v := .bool true) rfl (by kernel_rfl) (by kernel_rfl) (by kernel_rfl) (fun _ _ _ h => h) (yig (by kernel_rfl) fun w2 hw2 => by kernel_rfl) (by assumption) ?_
              refine wpAnyH_take (i := 39) (v := .bool true) rfl (by kernel_rfl) (by kernel_rfl) (by kernel_rfl) (fun _ _ _ h => h) (yif rfl fun w2 hw2 => by kernel_rfl) (by assumption) ?_
              refine wpAnyH_take (i := 40) (v := .bool true) rfl (by kernel_rfl) (by kernel_rfl) (by kernel_rfl) (fun _ _ _ h => h) (yif rfl fun w2 hw2 => by kernel_rfl) (by assumption) ?_
              refine wpAnyH_take (i := 41) (v := undef) rfl (by kernel_rfl) (by kernel_rfl) (by kernel_rfl) (fun _ _ _ h => h) (.inr ⟨by kernel_rfl, rfl⟩) (by assumption) ?_
              refine wpAnyH_take (i := 42) (v := undef) rfl (by kernel_rfl) (by kernel_rfl) (by kernel_rfl) (fun _ _ _ h => h) (.inr ⟨by kernel_rfl, rfl⟩) (by assumption) ?_
              refine wpAnyH_take (i := 43) (v := undef) rfl (by kernel_rfl) (by kernel_rfl) (by kernel_rfl) (fun _ _ _ h => h) (.inr ⟨by kernel_rfl, rfl⟩) (by assumption) ?_
              refine wpAnyH_take (i := 44) (v := undef) rfl (by kernel_rfl) (by kernel_rfl) (by kernel_rfl) (fun _ _ _ h => h) (.inr ⟨by kernel_rfl, rfl⟩) (by assumption) ?_
              refine wpAnyH_take (i := 45) (v := undef) rfl (by kernel_rfl) (by kernel_rfl) (by kernel_rfl) (fun _ _ _ h => h) (.inr ⟨by kernel_rfl, rfl⟩) (by assumption) ?_
              refine wpAnyH_take (i := 46) (v := undef) rfl (by kernel_rfl) (by kernel_rfl) (by kernel_rfl) (fun _ _ _ h => h) (.inr ⟨by kernel_rfl, rfl⟩) (by assumption) ?_
              refine wpAnyH_take (i := 47) (v := undef) rfl (by kernel_rfl) (by kernel_rfl) (by kernel_rfl) (fun _ _ _ h => h) (.inr ⟨by kernel_rfl, rfl⟩) (by assumption) ?_
              refine wpAnyH_take (i := 48) (v := .bool true) rfl (by kernel_rfl) (by kernel_rfl) (by kernel_rfl) (fun _ _ _ h => h) (yif rfl fun w2 hw2 => by kernel_rfl) (by assumption) ?_
              refine wpAnyH_take (i := 49) (v := .bool true) rfl (by kernel_rfl) (by kernel_rfl) (by kernel_rfl) (fun _ _ _ h => h) (yif rfl fun w2 hw2 => by kernel_rfl) (by assumption) ?_
              refine wpAnyH_take (i := 50) (v := undef) rfl (by kernel_rfl) (by kernel_rfl) (by kernel_rfl) (fun _ _ _ h => h) (.inr ⟨by kernel_rfl, rfl⟩) (by assumption) ?_
              refine wpAnyH_take (i := 51) (v := undef) rfl (by kernel_rfl) (by kernel_rfl) (by kernel_rfl) (fun _ _ _ h => h) (.inr ⟨by kernel_rfl, rfl⟩) (by assumption) ?_
              refine wpAnyH_take (i := 52) (v := undef) rfl (by kernel_rfl) (by kernel_rfl) (by kernel_rfl) (fun _ _ _ h => h) (.inr ⟨by kernel_rfl, rfl⟩) (by assumption) ?_
              refine wpAnyH_take (i := 53) (v := undef) rfl (by kernel_rfl) (by kernel_rfl) (by kernel_rfl) (fun _ _ _ h => h) (.inr ⟨by kernel_rfl, rfl⟩) (by assumption) ?_
              refine wpAnyH_take (i := 54) (v := undef) rfl (by kernel_rfl) (by kernel_rfl) (by kernel_rfl) (fun _ _ _ h => h) (.inr ⟨by kernel_rfl, rfl⟩) (by assumption) ?_
              refine wpAnyH_take (i := 55) (v := undef) rfl (by kernel_rfl) (by kernel_rfl) (by kernel_rfl) (fun _ _ _ h => h) (.inr ⟨by kernel_rfl, rfl⟩) (by assumption) ?_
              refine wpAnyH_take (i := 56) (v := undef) rfl (by kernel_rfl) (by kernel_rfl) (by kernel_rfl) (fun _ _ _ h => h) (.inr ⟨by kernel_rfl, rfl⟩) (by assumption) ?_
              refine wpAnyH_take (i := 57) (v := undef) rfl (by kernel_rfl) (by kernel_rfl) (by kernel_rfl) (fun _ _ _ h => h) (.inr ⟨by kernel_rfl, rfl⟩) (by assumption) ?_
              refine wpAnyH_take (i := 58) (v := undef) rfl (by kernel_rfl) (by kernel_rfl) (by kernel_rfl) (fun _ _ _ h => h) (.inr ⟨by kernel_rfl, rfl⟩) (by assumption) ?_
              refine wpAnyH_take (i := 59) (v := undef) rfl (by kernel_rfl) (by kernel_rfl) (by kernel_rfl) (fun _ _ _ h => h) (.inr ⟨by kernel_rfl, rfl⟩) (by assumption) ?_
              refine wpAnyH_take (i := 60) (v := undef) rfl (by kernel_rfl) (by kernel_rfl) (by kernel_rfl) (fun _ _ _ h => h) (.inr ⟨by kernel_rfl, rfl⟩) (by assumption) ?_
              refine wpAnyH_take (i := 61) (v := undef) rfl (by kernel_rfl) (by kernel_rfl) (by kernel_rfl) (fun _ _ _ h => h) (.inr ⟨by kernel_rfl, rfl⟩) (by assumption) ?_
              refine wpAnyH_take (i := 62) (v := .bool true) rfl (by kernel_rfl) (by kernel_rfl) (by kernel_rfl) (fun _ _ _ h => h) (yif rfl fun w2 hw2 => by kernel_rfl) (by assumption) ?_
              refine wpAnyH_done (by kernel_rfl) ?_ _
              go_simp
              have BF := Lib.hid (S2.below HG1.out HG2.out HG3.out)
              clear L22 L23 L0 L1 L24 LP S0 I0 O0
              go_wp2_with fail
              go_ret3
              exact ⟨gi, go, by rw [hv.out]; rfl, fun h => Bool.noConfusion (hv.out.symm.trans h), HG2.out, HBW.out.trans BF.out⟩
            · skip
              rintro e u2 ⟨rfl, hU, hE⟩
              have S2 := S1.one hE
              have O2 := hE.at O1 HA3.out
              refine ⟨_, rfl, S2, ?_⟩
              have I2 := hU rfl
              refine wpAnyH_take (i := 38) (v := .bool false) rfl (by kernel_rfl) (by kernel_rfl) (by kernel_rfl) (fun _ _ _ h => h) (yig (by kernel_rfl) fun w2 hw2 => by kernel_rfl) (by assumption) ?_
              refine wpAnyH_take (i := 39) (v := .bool false) rfl (by kernel_rfl) (by kernel_rfl) (by kernel_rfl) (fun _ _ _ h => h) (yif rfl fun w2 hw2 => by kernel_rfl) (by assumption) ?_
              refine wpAnyH_take (i := 40) (v := .bool false) rfl (by kernel_rfl) (by kernel_rfl) (by kernel_rfl) (fun _ _ _ h => h) (yif rfl fun w2 hw2 => by kernel_rfl) (by assumption) ?_
              refine wpAnyH_take (i := 41) (v := .pointer (some ⟨gj, off, none⟩)) rfl (by kernel_rfl) (by kernel_rfl) (by kernel_rfl) (fun _ _ _ h => h) (yig (by kernel_rfl) fun w2 hw2 => by kernel_rfl) (by assumption) ?_
              refine wpAnyH_take (i := 42) (v := .pointer (some ⟨gj, off, none⟩)) rfl (by kernel_rfl) (by kernel_rfl) (by kernel_rfl) (fun _ _ _ h => h) (yig (by kernel_rfl) fun w2 hw2 => by kernel_rfl) (by assumption) ?_
              refine wpAnyH_take (i := 43) (v := .pointer (some ⟨gj, off + 23, none⟩)) rfl (by kernel_rfl) (by kernel_rfl) (by kernel_rfl) (fun _ _ _ h => h) (yig (by kernel_rfl) fun w2 hw2 => by kernel_rfl) (by assumption) ?_
              refine wpAnyH_take (i := 44) (v := .slice (some ⟨gv, 0, none⟩) nv nv) rfl (by kernel_rfl) (by kernel_rfl) (by kernel_rfl) (fun _ _ _ h => h) (yig (by kernel_rfl) fun w2 hw2 => x_load 71 (.tmp 79) rfl ⟨gj, off + 23, none⟩ (by kernel_rfl) (L23 w2 hw2)) (by assumption) ?_
              refine wpAnyH_take (i := 45) (v := .slice (some ⟨go, 0, none⟩) n n) rfl (by kernel_rfl) (by kernel_rfl) (by kernel_rfl) (fun _ _ _ h => h) (yig (by kernel_rfl) fun w2 hw2 => by kernel_rfl) (by assumption) ?_
              refine wpAnyH_call (j := 46) (f := 115) (args := #[.slice (some ⟨gv, 0, none⟩) nv nv, .slice (some ⟨go, 0, none⟩) n n]) (by kernel_rfl) rfl (by kernel_rfl) (by kernel_rfl) ((KU2 u2 (S2.at HA4.out.1 HA4.out.2.1 HA4.out.2.2) O2).mono ?_)
              cases e4 : useB n sO us
              · have hv := Lib.hid (allN_at hlt (show f k = false from by rw [hfk, e4]; simp only [Bool.and_false, Bool.false_and, Bool.not_true]))
                rintro e u3 ⟨rfl, hU3, hE3⟩
                have S3 := S2.two hE3
                refine ⟨_, rfl, S3, ?_⟩
                refine wpAnyH_take (i := 47) (v := .bool true) rfl (by kernel_rfl) (by kernel_rfl) (by kernel_rfl) (fun _ _ _ h => h) (yig (by kernel_rfl) fun w2 hw2 => by kernel_rfl) (by assumption) ?_
                refine wpAnyH_take (i := 48) (v := .bool true) rfl (by kernel_rfl) (by kernel_rfl) (by kernel_rfl) (fun _ _ _ h => h) (yif rfl fun w2 hw2 => by kernel_rfl) (by assumption) ?_
                refine wpAnyH_take (i := 49) (v := .bool true) rfl (by kernel_rfl) (by kernel_rfl) (by kernel_rfl) (fun _ _ _ h => h) (yif rfl fun w2 hw2 => by kernel_rfl) (by assumption) ?_
                refine wpAnyH_take (i := 50) (v := undef) rfl (by kernel_rfl) (by kernel_rfl) (by kernel_rfl) (fun _ _ _ h => h) (.inr ⟨by kernel_rfl, rfl⟩) (by assumption) ?_
                refine wpAnyH_take (i := 51) (v := undef) rfl (by kernel_rfl) (by kernel_rfl) (by kernel_rfl) (fun _ _ _ h => h) (.inr ⟨by kernel_rfl, rfl⟩) (by assumption) ?_
                refine wpAnyH_take (i := 52) (v := undef) rfl (by kernel_rfl) (by kernel_rfl) (by kernel_rfl) (fun _ _ _ h => h) (.inr ⟨by kernel_rfl, rfl⟩) (by assumption) ?_
                refine wpAnyH_take (i := 53) (v := undef) rfl (by kernel_rfl) (by kernel_rfl) (by kernel_rfl) (fun _ _ _ h => h) (.inr ⟨by kernel_rfl, rfl⟩) (by assumption) ?_
                refine wpAnyH_take (i := 54) (v := undef) rfl (by kernel_rfl) (by kernel_rfl) (by kernel_rfl) (fun _ _ _ h => h) (.inr ⟨by kernel_rfl, rfl⟩) (by assumption) ?_
                refine wpAnyH_take (i := 55) (v := undef) rfl (by kernel_rfl) (by kernel_rfl) (by kernel_rfl) (fun _ _ _ h => h) (.inr ⟨by kernel_rfl, rfl⟩) (by assumption) ?_
                refine wpAnyH_take (i := 56) (v := undef) rfl (by kernel_rfl) (by kernel_rfl) (by kernel_rfl) (fun _ _ _ h => h) (.inr ⟨by kernel_rfl, rfl⟩) (by assumption) ?_
                refine wpAnyH_take (i := 57) (v := undef) rfl (by kernel_rfl) (by kernel_rfl) (by kernel_rfl) (fun _ _ _ h => h) (.inr ⟨by kernel_rfl, rfl⟩) (by assumption) ?_
                refine wpAnyH_take (i := 58) (v := undef) rfl (by kernel_rfl) (by kernel_rfl) (by kernel_rfl) (fun _ _ _ h => h) (.inr ⟨by kernel_rfl, rfl⟩) (by assumption) ?_
                refine wpAnyH_take (i := 59) (v := undef) rfl (by kernel_rfl) (by kernel_rfl) (by kernel_rfl) (fun _ _ _ h => h) (.inr ⟨by kernel_rfl, rfl⟩) (by assumption) ?_
                refine wpAnyH_take (i := 60) (v := undef) rfl (by kernel_rfl) (by kernel_rfl) (by kernel_rfl) (fun _ _ _ h => h) (.inr ⟨by kernel_rfl, rfl⟩) (by assumption) ?_
                refine wpAnyH_take (i := 61) (v := undef) rfl (by kernel_rfl) (by kernel_rfl) (by kernel_rfl) (fun _ _ _ h => h) (.inr ⟨by kernel_rfl, rfl⟩) (by assumption) ?_
                refine wpAnyH_take (i := 62) (v := .bool true) rfl (by kernel_rfl) (by kernel_rfl) (by kernel_rfl) (fun _ _ _ h => h) (yif rfl fun w2 hw2 => by kernel_rfl) (by assumption) ?_
                refine wpAnyH_done (by kernel_rfl) ?_ _
                go_simp
                have BF := Lib.hid (S3.below HG1.out HG2.out HG3.out)
                clear L22 L23 L0 L1 L24 LP S0 I0 O0
                go_wp2_with fail
                go_ret3
                exact ⟨gi, go, by rw [hv.out]; rfl, fun h => Bool.noConfusion (hv.out.symm.trans h), HG2.out, HBW.out.trans BF.out⟩
              · skip
                rintro e u3 ⟨rfl, hU3, hE3⟩
                have S3 := S2.two hE3
                have I3 := hE3.at I2 HA3.out.symm
                refine ⟨_, rfl, S3, ?_⟩
                have O3 := hU3 rfl
                refine wpAnyH_take (i := 47) (v := .bool false) rfl (by kernel_rfl) (by kernel_rfl) (by kernel_rfl) (fun _ _ _ h => h) (yig (by kernel_rfl) fun w2 hw2 => by kernel_rfl) (by assumption) ?_
                refine wpAnyH_take (i := 48) (v := .bool false) rfl (by kernel_rfl) (by kernel_rfl) (by kernel_rfl) (fun _ _ _ h => h) (yif rfl fun w2 hw2 => by kernel_rfl) (by assumption) ?_
                refine wpAnyH_take (i := 49) (v := .bool false) rfl (by kernel_rfl) (by kernel_rfl) (by kernel_rfl) (fun _ _ _ h => h) (yif rfl fun w2 hw2 => by kernel_rfl) (by assumption) ?_
                refine wpAnyH_take (i := 50) (v := .pointer (some ⟨gj, off, none⟩)) rfl (by kernel_rfl) (by kernel_rfl) (by kernel_rfl) (fun _ _ _ h => h) (yig (by kernel_rfl) fun w2 hw2 => by kernel_rfl) (by assumption) ?_
                refine wpAnyH_take (i := 51) (v := .pointer (some ⟨gj, off, none⟩)) rfl (by kernel_rfl) (by kernel_rfl) (by kernel_rfl) (fun _ _ _ h => h) (yig (by kernel_rfl) fun w2 hw2 => by kernel_rfl) (by assumption) ?_
                refine wpAnyH_take (i := 52) (v := .pointer (some ⟨gj, off + 24, none⟩)) rfl (by kernel_rfl) (by kernel_rfl) (by kernel_rfl) (fun _ _ _ h => h) (yig (by kernel_rfl) fun w2 hw2 => by kernel_rfl) (by assumption) ?_
                refine wpAnyH_take (i := 53) (v := .int .i64 p) rfl (by kernel_rfl) (by kernel_rfl) (by kernel_rfl) (fun _ _ _ h => h) (yig (by kernel_rfl) fun w2 hw2 => x_load 2 (.tmp 88) rfl ⟨gj, off + 24, none⟩ (by kernel_rfl) (L24 w2 hw2)) (by assumption) ?_
                refine wpAnyH_take (i := 54) (v := .pointer (some ⟨gt, 0, none⟩)) rfl (by kernel_rfl) (by kernel_rfl) (by kernel_rfl) (fun _ _ _ h => h) (yig (by kernel_rfl) fun w2 hw2 => by kernel_rfl) (by assumption) ?_
                refine wpAnyH_take (i := 55) (v := .pointer (some ⟨gt, 0, none⟩)) rfl (by kernel_rfl) (by kernel_rfl) (by kernel_rfl) (fun _ _ _ h => h) (yig (by kernel_rfl) fun w2 hw2 => by kernel_rfl) (by assumption) ?_
                refine wpAnyH_take (i := 56) (v := .pointer (some ⟨gt, 3, none⟩)) rfl (by kernel_rfl) (by kernel_rfl) (by kernel_rfl) (fun _ _ _ h => h) (yig (by kernel_rfl) fun w2 hw2 => by kernel_rfl) (by assumption) ?_
                refine wpAnyH_take (i := 57) (v := .slice (some ⟨gp, 0, none⟩) np np) rfl (by kernel_rfl) (by kernel_rfl) (by kernel_rfl) (fun _ _ _ h => h) (yig (by kernel_rfl) fun w2 hw2 => x_load 35 (.tmp 92) rfl ⟨gt, 3, none⟩ (by kernel_rfl) (LP w2 hw2)) (by assumption) ?_
                refine wpAnyH_take (i := 58) (v := .int .i64 (np : Int)) rfl (by kernel_rfl) (by kernel_rfl) (by kernel_rfl) (fun _ _ _ h => h) (yig (by kernel_rfl) fun w2 hw2 => by kernel_rfl) (by assumption) ?_
                refine wpAnyH_take (i := 59) (v := .int .i64 (IntKind.i64.wrap ((np : Int) - 1))) rfl (by kernel_rfl) (by kernel_rfl) (by kernel_rfl) (fun _ _ _ h => h) (yig (by kernel_rfl) fun w2 hw2 => by kernel_rfl) (by assumption) ?_
                cases e5 : inB (-1) ((np : Int) - 1) p
                · have hv := Lib.hid (allN_at hlt (show f k = false from by rw [hfk, e5]; simp only [Bool.and_false, Bool.false_and, Bool.not_true]))
                  rw [e5] at KI
                  refine wpAnyH_call (j := 60) (f := 41) (args := #[.int .i64 p, .int .i64 (-1), .int .i64 (IntKind.i64.wrap ((np : Int) - 1))]) (by kernel_rfl) rfl (by kernel_rfl) (by kernel_rfl) ((KI u3).mono ?_)
                  rintro e u4 ⟨rfl, m4, rfl⟩
                  have S4 := S3.drewN m4
                  have I4 := I3.drewN m4
                  have O4 := O3.drewN m4
                  generalize u3.drewN m4 = u4 at S4 I4 O4 ⊢
                  refine ⟨_, rfl, S4, ?_⟩
                  refine wpAnyH_take (i := 61) (v := .bool true) rfl (by kernel_rfl) (by kernel_rfl) (by kernel_rfl) (fun _ _ _ h => h) (yig (by kernel_rfl) fun w2 hw2 => by kernel_rfl) (by assumption) ?_
                  refine wpAnyH_take (i := 62) (v := .bool true) rfl (by kernel_rfl) (by kernel_rfl) (by kernel_rfl) (fun _ _ _ h => h) (yif rfl fun w2 hw2 => by kernel_rfl) (by assumption) ?_
                  refine wpAnyH_done (by kernel_rfl) ?_ _
                  go_simp
                  have BF := Lib.hid (S4.below HG1.out HG2.out HG3.out)
                  clear L22 L23 L0 L1 L24 LP S0 I0 O0
                  go_wp2_with fail
                  go_ret3
                  exact ⟨gi, go, by rw [hv.out]; rfl, fun h => Bool.noConfusion (hv.out.symm.trans h), HG2.out, HBW.out.trans BF.out⟩
                · have hv := Lib.hid (allN_next hok.out (show f k = true from by rw [hfk, e0, e1, e2, e3, e4, e5]; rfl))
                  rw [e5] at KI
                  refine wpAnyH_call (j := 60) (f := 41) (args := #[.int .i64 p, .int .i64 (-1), .int .i64 (IntKind.i64.wrap ((np : Int) - 1))]) (by kernel_rfl) rfl (by kernel_rfl) (by kernel_rfl) ((KI u3).mono ?_)
                  rintro e u4 ⟨rfl, m4, rfl⟩
                  have S4 := S3.drewN m4
                  have I4 := I3.drewN m4
                  have O4 := O3.drewN m4
                  generalize u3.drewN m4 = u4 at S4 I4 O4 ⊢
                  refine ⟨_, rfl, S4, ?_⟩
                  refine wpAnyH_take (i := 61) (v := .bool false) rfl (by kernel_rfl) (by kernel_rfl) (by kernel_rfl) (fun _ _ _ h => h) (yig (by kernel_rfl) fun w2 hw2 => by kernel_rfl) (by assumption) ?_
                  refine wpAnyH_take (i := 62) (v := .bool false) rfl (by kernel_rfl) (by kernel_rfl) (by kernel_rfl) (fun _ _ _ h => h) (yif rfl fun w2 hw2 => by kernel_rfl) (by assumption) ?_
                  refine wpAnyH_done (by kernel_rfl) ?_ _
                  go_simp
                  have BF := Lib.hid (S0'.out.trans S4)
                  have I4' : At u4 gi (bl (mkS n (flatN (insF js) (k + 1)))) 4 := by rw [show flatN (insF js) (k + 1) = sI ++ ns from HS.out.1]; exact I4
                  have O4' : At u4 go (bl (mkS n (flatN (outsF js) (k + 1)))) 4 := by rw [show flatN (outsF js) (k + 1) = sO ++ us from HS.out.2]; exact O4
                  clear L22 L23 L0 L1 L24 LP
                  go_wp2_with fail
                  exact ⟨⟨k + 1, by omega, by go_num, I4', O4', hv, BF⟩, by simp [intOf]; omega⟩
          · have hv := Lib.hid (allN_at hlt (show f k = false from by rw [hfk, e2]; simp only [Bool.and_false, Bool.false_and, Bool.not_true]))
            refine wpAnyH_take (i := 29) (v := .bool true) rfl (by kernel_rfl) (by kernel_rfl) (by kernel_rfl) (fun _ _ _ h => h) (yig (by kernel_rfl) fun w2 hw2 => (show _ = Result.ok (Next.value (Value.bool (((nv : Int)) != (o)))) w2 from by kernel_rfl).trans (by rw [e2])) (by assumption) ?_
            refine wpAnyH_take (i := 30) (v := .bool true) rfl (by kernel_rfl) (by kernel_rfl) (by kernel_rfl) (fun _ _ _ h => h) (yif rfl fun w2 hw2 => by kernel_rfl) (by assumption) ?_
            refine wpAnyH_take (i := 31) (v := .bool true) rfl (by kernel_rfl) (by kernel_rfl) (by kernel_rfl) (fun _ _ _ h => h) (yif rfl fun w2 hw2 => by kernel_rfl) (by assumption) ?_
            refine wpAnyH_take (i := 32) (v := undef) rfl (by kernel_rfl) (by kernel_rfl) (by kernel_rfl) (fun _ _ _ h => h) (.inr ⟨by kernel_rfl, rfl⟩) (by assumption) ?_
            refine wpAnyH_take (i := 33) (v := undef) rfl (by kernel_rfl) (by kernel_rfl) (by kernel_rfl) (fun _ _ _ h => h) (.inr ⟨by kernel_rfl, rfl⟩) (by assumption) ?_
            refine wpAnyH_take (i := 34) (v := undef) rfl (by kernel_rfl) (by kernel_rfl) (by kernel_rfl) (fun _ _ _ h => h) (.inr ⟨by kernel_rfl, rfl⟩) (by assumption) ?_
            refine wpAnyH_take (i := 35) (v := undef) rfl (by kernel_rfl) (by kernel_rfl) (by kernel_rfl) (fun _ _ _ h => h) (.inr ⟨by kernel_rfl, rfl⟩) (by assumption) ?_
            refine wpAnyH_take (i := 36) (v := undef) rfl (by kernel_rfl) (by kernel_rfl) (by kernel_rfl) (fun _ _ _ h => h) (.inr ⟨by kernel_rfl, rfl⟩) (by assumption) ?_
            refine wpAnyH_take (i := 37) (v := undef) rfl (by kernel_rfl) (by kernel_rfl) (by kernel_rfl) (fun _ _ _ h => h) (.inr ⟨by kernel_rfl, rfl⟩) (by assumption) ?_
            refine wpAnyH_take (i := 38) (v := undef) rfl (by kernel_rfl) (by kernel_rfl) (by kernel_rfl) (fun _ _ _ h => h) (.inr ⟨by kernel_rfl, rfl⟩) (by assumption) ?_
            refine wpAnyH_take (i := 39) (v := .bool true) rfl (by kernel_rfl) (by kernel_rfl) (by kernel_rfl) (fun _ _ _ h => h) (yif rfl fun w2 hw2 => by kernel_rfl) (by assumption) ?_
            refine wpAnyH_take (i := 40) (v := .bool true) rfl (by kernel_rfl) (by kernel_rfl) (by kernel_rfl) (fun _ _ _ h => h) (yif rfl fun w2 hw2 => by kernel_rfl) (by assumption) ?_
            refine wpAnyH_take (i := 41) (v := undef) rfl (by kernel_rfl) (by kernel_rfl) (by kernel_rfl) (fun _ _ _ h => h) (.inr ⟨by kernel_rfl, rfl⟩) (by assumption) ?_
            refine wpAnyH_take (i := 42) (v := undef) rfl (by kernel_rfl) (by kernel_rfl) (by kernel_rfl) (fun _ _ _ h => h) (.inr ⟨by kernel_rfl, rfl⟩) (by assumption) ?_
            refine wpAnyH_take (i := 43) (v := undef) rfl (by kernel_rfl) (by kernel_rfl) (by kernel_rfl) (fun _ _ _ h => h) (.inr ⟨by kernel_rfl, rfl⟩) (by assumption) ?_
            refine wpAnyH_take (i := 44) (v := undef) rfl (by kernel_rfl) (by kernel_rfl) (by kernel_rfl) (fun _ _ _ h => h) (.inr ⟨by kernel_rfl, rfl⟩) (by assumption) ?_
            refine wpAnyH_take (i := 45) (v := undef) rfl (by kernel_rfl) (by kernel_rfl) (by kernel_rfl) (fun _ _ _ h => h) (.inr ⟨by kernel_rfl, rfl⟩) (by assumption) ?_
            refine wpAnyH_take (i := 46) (v := undef) rfl (by kernel_rfl) (by kernel_rfl) (by kernel_rfl) (fun _ _ _ h => h) (.inr ⟨by kernel_rfl, rfl⟩) (by assumption) ?_
            refine wpAnyH_take (i := 47) (v := undef) rfl (by kernel_rfl) (by kernel_rfl) (by kernel_rfl) (fun _ _ _ h => h) (.inr ⟨by kernel_rfl, rfl⟩) (by assumption) ?_
            refine wpAnyH_take (i := 48) (v := .bool true) rfl (by kernel_rfl) (by kernel_rfl) (by kernel_rfl) (fun _ _ _ h => h) (yif rfl fun w2 hw2 => by kernel_rfl) (by assumption) ?_
            refine wpAnyH_take (i := 49) (v := .bool true) rfl (by kernel_rfl) (by kernel_rfl) (by kernel_rfl) (fun _ _ _ h => h) (yif rfl fun w2 hw2 => by kernel_rfl) (by assumption) ?_
            refine wpAnyH_take (i := 50) (v := undef) rfl (by kernel_rfl) (by kernel_rfl) (by kernel_rfl) (fun _ _ _ h => h) (.inr ⟨by kernel_rfl, rfl⟩) (by assumption) ?_
            refine wpAnyH_take (i := 51) (v := undef) rfl (by kernel_rfl) (by kernel_rfl) (by kernel_rfl) (fun _ _ _ h => h) (.inr ⟨by kernel_rfl, rfl⟩) (by assumption) ?_
            refine wpAnyH_take (i := 52) (v := undef) rfl (by kernel_rfl) (by kernel_rfl) (by kernel_rfl) (fun _ _ _ h => h) (.inr ⟨by kernel_rfl, rfl⟩) (by assumption) ?_
            refine wpAnyH_take (i := 53) (v := undef) rfl (by kernel_rfl) (by kernel_rfl) (by kernel_rfl) (fun _ _ _ h => h) (.inr ⟨by kernel_rfl, rfl⟩) (by assumption) ?_
            refine wpAnyH_take (i := 54) (v := undef) rfl (by kernel_rfl) (by kernel_rfl) (by kernel_rfl) (fun _ _ _ h => h) (.inr ⟨by kernel_rfl, rfl⟩) (by assumption) ?_
            refine wpAnyH_take (i := 55) (v := undef) rfl (by kernel_rfl) (by kernel_rfl) (by kernel_rfl) (fun _ _ _ h => h) (.inr ⟨by kernel_rfl, rfl⟩) (by assumption) ?_
            refine wpAnyH_take (i := 56) (v := undef) rfl (by kernel_rfl) (by kernel_rfl) (by kernel_rfl) (fun _ _ _ h => h) (.inr ⟨by kernel_rfl, rfl⟩) (by assumption) ?_
            refine wpAnyH_take (i := 57) (v := undef) rfl (by kernel_rfl) (by kernel_rfl) (by kernel_rfl) (fun _ _ _ h => h) (.inr ⟨by kernel_rfl, rfl⟩) (by assumption) ?_
            refine wpAnyH_take (i := 58) (v := undef) rfl (by kernel_rfl) (by kernel_rfl) (by kernel_rfl) (fun _ _ _ h => h) (.inr ⟨by kernel_rfl, rfl⟩) (by assumption) ?_
            refine wpAnyH_take (i := 59) (v := undef) rfl (by kernel_rfl) (by kernel_rfl) (by kernel_rfl) (fun _ _ _ h => h) (.inr ⟨by kernel_rfl, rfl⟩) (by assumption) ?_
            refine wpAnyH_take (i := 60) (v := undef) rfl (by kernel_rfl) (by kernel_rfl) (by kernel_rfl) (fun _ _ _ h => h) (.inr ⟨by kernel_rfl, rfl⟩) (by assumption) ?_
            refine wpAnyH_take (i := 61) (v := undef) rfl (by kernel_rfl) (by kernel_rfl) (by kernel_rfl) (fun _ _ _ h => h) (.inr ⟨by kernel_rfl, rfl⟩) (by assumption) ?_
            refine wpAnyH_take (i := 62) (v := .bool true) rfl (by kernel_rfl) (by kernel_rfl) (by kernel_rfl) (fun _ _ _ h => h) (yif rfl fun w2 hw2 => by kernel_rfl) (by assumption) ?_
            refine wpAnyH_done (by kernel_rfl) ?_ _
            go_simp
            have BF := Lib.hid (S1.below HG1.out HG2.out HG3.out)
            clear L22 L23 L0 L1 L24 LP S0 I0 O0
            go_wp2_with fail
            go_ret3
            exact ⟨gi, go, by rw [hv.out]; rfl, fun h => Bool.noConfusion (hv.out.symm.trans h), HG2.out, HBW.out.trans BF.out⟩
        · have hv := Lib.hid (allN_at hlt (show f k = false from by rw [hfk, e1]; simp only [Bool.and_false, Bool.false_and, Bool.not_true]))
          refine wpAnyH_take (i := 16) (v := .bool true) rfl (by kernel_rfl) (by kernel_rfl) (by kernel_rfl) (fun _ _ _ h => h) (yig (by kernel_rfl) fun w2 hw2 => (show _ = Result.ok (Next.value (Value.bool (((nl : Int)) != (i)))) w2 from by kernel_rfl).trans (by rw [e1])) (by assumption) ?_
          refine wpAnyH_take (i := 17) (v := .bool true) rfl (by kernel_rfl) (by kernel_rfl) (by kernel_rfl) (fun _ _ _ h => h) (yif rfl fun w2 hw2 => by kernel_rfl) (by assumption) ?_
          refine wpAnyH_take (i := 18) (v := .bool true) rfl (by kernel_rfl) (by kernel_rfl) (by kernel_rfl) (fun _ _ _ h => h) (yif rfl fun w2 hw2 => by kernel_rfl) (by assumption) ?_
          refine wpAnyH_take (i := 19) (v := undef) rfl (by kernel_rfl) (by kernel_rfl) (by kernel_rfl) (fun _ _ _ h => h) (.inr ⟨by kernel_rfl, rfl⟩) (by assumption) ?_
          refine wpAnyH_take (i := 20) (v := undef) rfl (by kernel_rfl) (by kernel_rfl) (by kernel_rfl) (fun _ _ _ h => h) (.inr ⟨by kernel_rfl, rfl⟩) (by assumption) ?_
          refine wpAnyH_take (i := 21) (v := undef) rfl (by kernel_rfl) (by kernel_rfl) (by kernel_rfl) (fun _ _ _ h => h) (.inr ⟨by kernel_rfl, rfl⟩) (by assumption) ?_
          refine wpAnyH_take (i := 22) (v := undef) rfl (by kernel_rfl) (by kernel_rfl) (by kernel_rfl) (fun _ _ _ h => h) (.inr ⟨by kernel_rfl, rfl⟩) (by assumption) ?_
          refine wpAnyH_take (i := 23) (v := undef) rfl (by kernel_rfl) (by kernel_rfl) (by kernel_rfl) (fun _ _ _ h => h) (.inr ⟨by kernel_rfl, rfl⟩) (by assumption) ?_
          refine wpAnyH_take (i := 24) (v := undef) rfl (by kernel_rfl) (by kernel_rfl) (by kernel_rfl) (fun _ _ _ h => h) (.inr ⟨by kernel_rfl, rfl⟩) (by assumption) ?_
          refine wpAnyH_take (i := 25) (v := undef) rfl (by kernel_rfl) (by kernel_rfl) (by kernel_rfl) (fun _ _ _ h => h) (.inr ⟨by kernel_rfl, rfl⟩) (by assumption) ?_
          refine wpAnyH_take (i := 26) (v := undef) rfl (by kernel_rfl) (by kernel_rfl) (by kernel_rfl) (fun _ _ _ h => h) (.inr ⟨by kernel_rfl, rfl⟩) (by assumption) ?_
          refine wpAnyH_take (i := 27) (v := undef) rfl (by kernel_rfl) (by kernel_rfl) (by kernel_rfl) (fun _ _ _ h => h) (.inr ⟨by kernel_rfl, rfl⟩) (by assumption) ?_
          refine wpAnyH_take (i := 28) (v := undef) rfl (by kernel_rfl) (by kernel_rfl) (by kernel_rfl) (fun _ _ _ h => h) (.inr ⟨by kernel_rfl, rfl⟩) (by assumption) ?_
          refine wpAnyH_take (i := 29) (v := undef) rfl (by kernel_rfl) (by kernel_rfl) (by kernel_rfl) (fun _ _ _ h => h) (.inr ⟨by kernel_rfl, rfl⟩) (by assumption) ?_
          refine wpAnyH_take (i := 30) (v := .bool true) rfl (by kernel_rfl) (by kernel_rfl) (by kernel_rfl) (fun _ _ _ h => h) (yif rfl fun w2 hw2 => by kernel_rfl) (by assumption) ?_
          refine wpAnyH_take (i := 31) (v := .bool true) rfl (by kernel_rfl) (by kernel_rfl) (by kernel_rfl) (fun _ _ _ h => h) (yif rfl fun w2 hw2 => by kernel_rfl) (by assumption) ?_
          refine wpAnyH_take (i := 32) (v := undef) rfl (by kernel_rfl) (by kernel_rfl) (by kernel_rfl) (fun _ _ _ h => h) (.inr ⟨by kernel_rfl, rfl⟩) (by assumption) ?_
          refine wpAnyH_take (i := 33) (v := undef) rfl (by kernel_rfl) (by kernel_rfl) (by kernel_rfl) (fun _ _ _ h => h) (.inr ⟨by kernel_rfl, rfl⟩) (by assumption) ?_
          refine wpAnyH_take (i := 34) (v := undef) rfl (by kernel_rfl) (by kernel_rfl) (by kernel_rfl) (fun _ _ _ h => h) (.inr ⟨by kernel_rfl, rfl⟩) (by assumption) ?_
          refine wpAnyH_take (i := 35) (v := undef) rfl (by kernel_rfl) (by kernel_rfl) (by kernel_rfl) (fun _ _ _ h => h) (.inr ⟨by kernel_rfl, rfl⟩) (by assumption) ?_
          refine wpAnyH_take (i := 36) (v := undef) rfl (by kernel_rfl) (by kernel_rfl) (by kernel_rfl) (fun _ _ _ h => h) (.inr ⟨by kernel_rfl, rfl⟩) (by assumption) ?_
          refine wpAnyH_take (i := 37) (v := undef) rfl (by kernel_rfl) (by kernel_rfl) (by kernel_rfl) (fun _ _ _ h => h) (.inr ⟨by kernel_rfl, rfl⟩) (by assumption) ?_
          refine wpAnyH_take (i := 38) (v := undef) rfl (by kernel_rfl) (by kernel_rfl) (by kernel_rfl) (fun _ _ _ h => h) (.inr ⟨by kernel_rfl, rfl⟩) (by assumption) ?_
          refine wpAnyH_take (i := 39) (v := .bool true) rfl (by kernel_rfl) (by kernel_rfl) (by kernel_rfl) (fun _ _ _ h => h) (yif rfl fun w2 hw2 => by kernel_rfl) (by assumption) ?_
          refine wpAnyH_take (i := 40) (v := .bool true) rfl (by kernel_rfl) (by kernel_rfl) (by kernel_rfl) (fun _ _ _ h => h) (yif rfl fun w2 hw2 => by kernel_rfl) (by assumption) ?_
          refine wpAnyH_take (i := 41) (v := undef) rfl (by kernel_rfl) (by kernel_rfl) (by kernel_rfl) (fun _ _ _ h => h) (.inr ⟨by kernel_rfl, rfl⟩) (by assumption) ?_
          refine wpAnyH_take (i := 42) (v := undef) rfl (by kernel_rfl) (by kernel_rfl) (by kernel_rfl) (fun _ _ _ h => h) (.inr ⟨by kernel_rfl, rfl⟩) (by assumption) ?_
          refine wpAnyH_take (i := 43) (v := undef) rfl (by kernel_rfl) (by kernel_rfl) (by kernel_rfl) (fun _ _ _ h => h) (.inr ⟨by kernel_rfl, rfl⟩) (by assumption) ?_
          refine wpAnyH_take (i := 44) (v := undef) rfl (by kernel_rfl) (by kernel_rfl) (by kernel_rfl) (fun _ _ _ h => h) (.inr ⟨by kernel_rfl, rfl⟩) (by assumption) ?_
          refine wpAnyH_take (i := 45) (v := undef) rfl (by kernel_rfl) (by kernel_rfl) (by kernel_rfl) (fun _ _ _ h => h) (.inr ⟨by kernel_rfl, rfl⟩) (by assumption) ?_
          refine wpAnyH_take (i := 46) (v := undef) rfl (by kernel_rfl) (by kernel_rfl) (by kernel_rfl) (fun _ _ _ h => h) (.inr ⟨by kernel_rfl, rfl⟩) (by assumption) ?_
          refine wpAnyH_take (i := 47) (v := undef) rfl (by kernel_rfl) (by kernel_rfl) (by kernel_rfl) (fun _ _ _ h => h) (.inr ⟨by kernel_rfl, rfl⟩) (by assumption) ?_
          refine wpAnyH_take (i := 48) (v := .bool true) rfl (by kernel_rfl) (by kernel_rfl) (by kernel_rfl) (fun _ _ _ h => h) (yif rfl fun w2 hw2 => by kernel_rfl) (by assumption) ?_
          refine wpAnyH_take (i := 49) (v := .bool true) rfl (by kernel_rfl) (by kernel_rfl) (by kernel_rfl) (fun _ _ _ h => h) (yif rfl fun w2 hw2 => by kernel_rfl) (by assumption) ?_
          refine wpAnyH_take (i := 50) (v := undef) rfl (by kernel_rfl) (by kernel_rfl) (by kernel_rfl) (fun _ _ _ h => h) (.inr ⟨by kernel_rfl, rfl⟩) (by assumption) ?_
          refine wpAnyH_take (i := 51) (v := undef) rfl (by kernel_rfl) (by kernel_rfl) (by kernel_rfl) (fun _ _ _ h => h) (.inr ⟨by kernel_rfl, rfl⟩) (by assumption) ?_
          refine wpAnyH_take (i := 52) (v := undef) rfl (by kernel_rfl) (by kernel_rfl) (by kernel_rfl) (fun _ _ _ h => h) (.inr ⟨by kernel_rfl, rfl⟩) (by assumption) ?_
          refine wpAnyH_take (i := 53) (v := undef) rfl (by kernel_rfl) (by kernel_rfl) (by kernel_rfl) (fun _ _ _ h => h) (.inr ⟨by kernel_rfl, rfl⟩) (by assumption) ?_
          refine wpAnyH_take (i := 54) (v := undef) rfl (by kernel_rfl) (by kernel_rfl) (by kernel_rfl) (fun _ _ _ h => h) (.inr ⟨by kernel_rfl, rfl⟩) (by assumption) ?_
          refine wpAnyH_take (i := 55) (v := undef) rfl (by kernel_rfl) (by kernel_rfl) (by kernel_rfl) (fun _ _ _ h => h) (.inr ⟨by kernel_rfl, rfl⟩) (by assumption) ?_
          refine wpAnyH_take (i := 56) (v := undef) rfl (by kernel_rfl) (by kernel_rfl) (by kernel_rfl) (fun _ _ _ h => h) (.inr ⟨by kernel_rfl, rfl⟩) (by assumption) ?_
          refine wpAnyH_take (i := 57) (v := undef) rfl (by kernel_rfl) (by kernel_rfl) (by kernel_rfl) (fun _ _ _ h => h) (.inr ⟨by kernel_rfl, rfl⟩) (by assumption) ?_
          refine wpAnyH_take (i := 58) (v := undef) rfl (by kernel_rfl) (by kernel_rfl) (by kernel_rfl) (fun _ _ _ h => h) (.inr ⟨by kernel_rfl, rfl⟩) (by assumption) ?_
          refine wpAnyH_take (i := 59) (v := undef) rfl (by kernel_rfl) (by kernel_rfl) (by kernel_rfl) (fun _ _ _ h => h) (.inr ⟨by kernel_rfl, rfl⟩) (by assumption) ?_
          refine wpAnyH_take (i := 60) (v := undef) rfl (by kernel_rfl) (by kernel_rfl) (by kernel_rfl) (fun _ _ _ h => h) (.inr ⟨by kernel_rfl, rfl⟩) (by assumption) ?_
          refine wpAnyH_take (i := 61) (v := undef) rfl (by kernel_rfl) (by kernel_rfl) (by kernel_rfl) (fun _ _ _ h => h) (.inr ⟨by kernel_rfl, rfl⟩) (by assumption) ?_
          refine wpAnyH_take (i := 62) (v := .bool true) rfl (by kernel_rfl) (by kernel_rfl) (by kernel_rfl) (fun _ _ _ h => h) (yif rfl fun w2 hw2 => by kernel_rfl) (by assumption) ?_
          refine wpAnyH_done (by kernel_rfl) ?_ _
          go_simp
          have BF := Lib.hid (S1.below HG1.out HG2.out HG3.out)
          clear L22 L23 L0 L1 L24 LP S0 I0 O0
          go_wp2_with fail
          go_ret3
          exact ⟨gi, go, by rw [hv.out]; rfl, fun h => Bool.noConfusion (hv.out.symm.trans h), HG2.out, HBW.out.trans BF.out⟩
    · obtain rfl : m = k := by omega
      have BF := Lib.hid (B0.out.trans (S0'.out.below (B := w.heap.size) (by have := HGi.out; omega) (by have := HGo.out; omega) (by have := HWs.out; omega)))
      have HGo2 := Lib.hid (show w.heap.size ≤ go from by have := HGo.out; omega)
      clear I9 hglt hgt1 hgt2
      go_wp2_with (first | ((with_reducible refine is_load 33 _ rfl ?_); refine wpList_load_cell rfl 33 _ rfl _ 0 rfl (tnC (.slice (some ⟨gr, 0, none⟩) n n) vf (.slice (some ⟨gj, 0, none⟩) m m) (.slice (some ⟨gp, 0, none⟩) np np) tk ca we) _ (by with_reducible assumption) _ Tryz.underlying33 rfl (.slice (some ⟨gr, 0, none⟩) n n) (tnC_0 _ _ _ _ _ _ _) ?_) | ((with_reducible refine is_load 34 _ rfl ?_); refine wpList_load_cell rfl 34 _ rfl _ 2 rfl (tnC (.slice (some ⟨gr, 0, none⟩) n n) vf (.slice (some ⟨gj, 0, none⟩) m m) (.slice (some ⟨gp, 0, none⟩) np np) tk ca we) _ (by with_reducible assumption) _ Tryz.underlying34 rfl (.slice (some ⟨gj, 0, none⟩) m m) (tnC_2 _ _ _ _ _ _ _) ?_))
      go_ret3
      exact ⟨gi, go, by rw [hok.out]; rfl, fun _ => O9, HGo2.out, BF.out⟩

end Go.Proofs.YtboahhipobcabaaGreat
