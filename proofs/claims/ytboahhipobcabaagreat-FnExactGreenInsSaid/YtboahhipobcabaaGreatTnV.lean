/-
  CONTRACTS: the joints of a town, what is offered (the program).
-/
import Derived.Test.YtboahhipobcabaaGreatTnR
namespace Go.Proofs.YtboahhipobcabaaGreat
open Go Go.ChangeShapes Go.WideShapes Go.ChangeAt Go.RowKit
set_option maxRecDepth 100000

def insF (js : List Jt) : Nat → List Int := fun k => (fe zJ js k).ns
def outsF (js : List Jt) : Nat → List Int := fun k => (fe zJ js k).us

def jointsV (nr np : Nat) (js : List Jt) : Bool := decide (js.length ≤ 4) && (allN (fun k => jointV nr np (fe zJ js k)) js.length && (nodB (flatN (insF js) js.length) && nodB (flatN (outsF js) js.length)))

set_option maxHeartbeats 2000000 in
theorem areJoints_own (gr nr gj gp np : Nat) (hnr : nr ≤ 1048576) (hnp : np ≤ 1048576) (js : List Jt) (hn : js.length ≤ 1048576) (hN : jsN js js.length ≤ 1048576) (vf : Value) (tk : Int) (ca we : Nat) (w : World)
    (h : ∃ ys : List Jr, ys.length = js.length ∧ At w gj (fm jrC ys) 73 ∧ JOk w gj ys js) :
    Calls Tryz.prog 78 #[.agg (tnC (.slice (some ⟨gr, 0, none⟩) nr nr) vf (.slice (some ⟨gj, 0, none⟩) js.length js.length) (.slice (some ⟨gp, 0, none⟩) np np) tk ca we)] w fun e w' => e = .returned (.bool (jointsV nr np js)) ∧ Below w.heap.size w w' := by
  obtain ⟨ys, hl, h1, h2⟩ := h
  unfold jointsV
  have h1a := h1.alloc (.cells (tnC (.slice (some ⟨gr, 0, none⟩) nr nr) vf (.slice (some ⟨gj, 0, none⟩) js.length js.length) (.slice (some ⟨gp, 0, none⟩) np np) tk ca we) 37)
  have A0 := At.new w (tnC (.slice (some ⟨gr, 0, none⟩) nr nr) vf (.slice (some ⟨gj, 0, none⟩) js.length js.length) (.slice (some ⟨gp, 0, none⟩) np np) tk ca we) 37
  have B0 := Lib.hid (b0 w (.cells (tnC (.slice (some ⟨gr, 0, none⟩) nr nr) vf (.slice (some ⟨gj, 0, none⟩) js.length js.length) (.slice (some ⟨gp, 0, none⟩) np np) tk ca we) 37))
  have h2a := h2.step (b0 w (.cells (tnC (.slice (some ⟨gr, 0, none⟩) nr nr) vf (.slice (some ⟨gj, 0, none⟩) js.length js.length) (.slice (some ⟨gp, 0, none⟩) np np) tk ca we) 37))
  obtain ⟨n, hnn⟩ : ∃ n, n = js.length := ⟨_, rfl⟩
  obtain ⟨f, hf⟩ : ∃ f, f = fun k => jointV nr np (fe zJ js k) := ⟨_, rfl⟩
  rw [← hf]
  rw [← hnn] at hn hN h1a h2a A0 B0 hl ⊢
  have KI := fun w' h3 h4 => roadsOn_insOf gj js ys (by rw [← hnn]; exact hn) (by rw [← hnn]; exact hN) (by rw [← hnn]; exact hl) w' h3 h4
  have KO := fun w' h3 h4 => roadsOn_outsOf gj js ys (by rw [← hnn]; exact hn) (by rw [← hnn]; exact hN) (by rw [← hnn]; exact hl) w' h3 h4
  rw [← hnn] at KI KO
  change ∀ w', At w' gj (fm jrC ys) 73 → JOk w' gj ys js → Calls _ _ _ w' (fun e w'' => ∃ r, e = .returned (.tuple #[.map (some r), .bool (nodB (flatN (insF js) n))]) ∧ MpI w'' r (flatN (insF js) n) ∧ w'.heap.size ≤ r ∧ _) at KI
  change ∀ w', At w' gj (fm jrC ys) 73 → JOk w' gj ys js → Calls _ _ _ w' (fun e w'' => ∃ r, e = .returned (.tuple #[.map (some r), .bool (nodB (flatN (outsF js) n))]) ∧ MpI w'' r (flatN (outsF js) n) ∧ w'.heap.size ≤ r ∧ _) at KO
  have HX := Lib.hid (And.intro A0 (And.intro h1a (And.intro h2a (And.intro hl (And.intro hN (show n = js.length from hnn))))))
  have HF := Lib.hid hf
  have KI := Lib.hid KI
  have KO := Lib.hid KO
  clear hnn hf h1 h2 h1a h2a A0 hl hN
  obtain ⟨W, hW⟩ : ∃ W, W = w.alloc (.cells (tnC (.slice (some ⟨gr, 0, none⟩) nr nr) vf (.slice (some ⟨gj, 0, none⟩) n n) (.slice (some ⟨gp, 0, none⟩) np np) tk ca we) 37) := ⟨_, rfl⟩
  have HW := Lib.hid (show w.heap.size ≤ W.heap.size from by rw [hW, World.size_alloc]; omega)
  by_cases h4 : n ≤ 4
  · rw [decide_eq_true h4, Bool.true_and]
    have h5 : ¬ (n : Int) > 4 := by omega
    have A0 := HX.out.1
    go_enter Tryz.func78, Tryz.ntmps78
    go_wp2_with (first | ((with_reducible refine is_load 34 _ rfl ?_); refine wpList_load_cell rfl 34 _ rfl _ 2 rfl (tnC (.slice (some ⟨gr, 0, none⟩) nr nr) vf (.slice (some ⟨gj, 0, none⟩) n n) (.slice (some ⟨gp, 0, none⟩) np np) tk ca we) _ (by with_reducible assumption) _ Tryz.underlying34 rfl (.slice (some ⟨gj, 0, none⟩) n n) (tnC_2 _ _ _ _ _ _ _) ?_))
    rw [← hW] at HX B0 ⊢
    clear A0 hW
    go_loopw [16] (fun i wr => ∃ k : Nat, k ≤ n ∧ i = .int .i64 (k : Int) ∧ Hid (allN f k = true) ∧ Hid (Below W.heap.size W wr)) (fun i _ => n - (intOf i).toNat)
    case atStart => exact ⟨0, by omega, rfl, Lib.hid rfl, Lib.hid (Below.refl _ _)⟩
    case round =>
      obtain ⟨k, hk, rfl, hok, B1⟩ := hrel
      have A1 := HX.out.1.step B1.out
      have J1 := HX.out.2.1.step B1.out
      by_cases hlt : k < n
      · have s2 : IntKind.i64.wrap ((k : Int) + 1) = (k : Int) + 1 := IntWalk.i64_in _ (by omega)
        have kd : (k : Int) < (n : Int) := by omega
        have hkl : k < js.length := by rw [← HX.out.2.2.2.2.2]; exact hlt
        have hsl := fm_at (d := zJr) (k := k * 25) jrC_size (xs := ys) (i := k) (by rw [HX.out.2.2.2.1]; exact hlt) rfl
        have hle : k * 25 + 25 ≤ (fm jrC ys).size := by rw [fm_size jrC_size, HX.out.2.2.2.1]; omega
        obtain ⟨g, h, hy, G0, H0, -, -⟩ := HX.out.2.2.1 k (by rw [HX.out.2.2.2.1]; exact hlt)
        rw [hy] at hsl
        have hNk := jsN_le (js := js) (n := n) hlt
        have hNn := HX.out.2.2.2.2.1
        obtain ⟨y, hyy⟩ : ∃ y : Jr, y = jrOf (fe zJ js k) (some ⟨g, 0, none⟩) (fe zJ js k).ns.length (some ⟨h, 0, none⟩) (fe zJ js k).us.length := ⟨_, rfl⟩
        have N0 := At.new wr (#[.int .i64 0, .int .i64 0, .float .f32 0, .float .f32 0, .float .f32 0, .float .f32 0, .float .f32 0, .float .f32 0, .float .f32 0, .float .f32 0, .float .f32 0, .float .f32 0, .float .f32 0, .float .f32 0, .float .f32 0, .float .f32 0, .float .f32 0, .float .f32 0, .float .f32 0, .float .f32 0, .float .f32 0, .float .f32 0, .slice none 0 0, .slice none 0 0, .int .i64 0]) 73
        have N1 := N0.setRow (jrC y)
        have A2 := (A1.alloc (.cells (#[.int .i64 0, .int .i64 0, .float .f32 0, .float .f32 0, .float .f32 0, .float .f32 0, .float .f32 0, .float .f32 0, .float .f32 0, .float .f32 0, .float .f32 0, .float .f32 0, .float .f32 0, .float .f32 0, .float .f32 0, .float .f32 0, .float .f32 0, .float .f32 0, .float .f32 0, .float .f32 0, .float .f32 0, .float .f32 0, .slice none 0 0, .slice none 0 0, .int .i64 0]) 73)).setRow_other (k := wr.heap.size) (Nat.ne_of_lt A1.lt) (jrC y)
        have B2 := Lib.hid (bset (bnew B1.out (.cells (#[.int .i64 0, .int .i64 0, .float .f32 0, .float .f32 0, .float .f32 0, .float .f32 0, .float .f32 0, .float .f32 0, .float .f32 0, .float .f32 0, .float .f32 0, .float .f32 0, .float .f32 0, .float .f32 0, .float .f32 0, .float .f32 0, .float .f32 0, .float .f32 0, .float .f32 0, .float .f32 0, .float .f32 0, .float .f32 0, .slice none 0 0, .slice none 0 0, .int .i64 0]) 73)) (g := wr.heap.size) B1.out.size (jrC y))
        have KT := isJointOf_own (fe zJ js k) g h gr nr gp np hnr hnp (by omega) (by omega) vf (.slice (some ⟨gj, 0, none⟩) n n) tk ca we _ (G0.step B2.out) (H0.step B2.out)
        have hone : (jrC y).all (·.oneCell') = true := by rw [hyy]; exact jr_one _ _ _ _ _ _ _ rfl rfl
        have hfk : f k = jointV nr np (fe zJ js k) := by rw [HF.out]
        rw [← hfk, ← hyy] at KT
        rw [← hyy] at hsl
        clear hyy hy G0 H0 hNk hNn hkl hfk B1
        by_cases hb : f k = true
        · rw [hb] at KT
          have hv := Lib.hid (allN_next hok.out hb)
          clear hok hb
          go_wp2_with (first | ((with_reducible refine is_load 34 _ rfl ?_); refine wpList_load_cell rfl 34 _ rfl _ 2 rfl (tnC (.slice (some ⟨gr, 0, none⟩) nr nr) vf (.slice (some ⟨gj, 0, none⟩) n n) (.slice (some ⟨gp, 0, none⟩) np np) tk ca we) _ (by with_reducible assumption) _ Tryz.underlying34 rfl (.slice (some ⟨gj, 0, none⟩) n n) (tnC_2 _ _ _ _ _ _ _) ?_) | ((with_reducible refine is_load 73 _ rfl ?_); refine wpList_load_part rfl 73 _ rfl _ (k * 25) rfl (fm jrC ys) _ (by with_reducible assumption) 25 hle _ Tryz.underlying73 rfl (by kernel_rfl) (jrC y) hsl ?_) | ((with_reducible refine is_store 73 _ _ rfl ?_); refine wpList_store_at rfl 73 _ _ rfl _ rfl (jrC y) rfl (#[.int .i64 0, .int .i64 0, .float .f32 0, .float .f32 0, .float .f32 0, .float .f32 0, .float .f32 0, .float .f32 0, .float .f32 0, .float .f32 0, .float .f32 0, .float .f32 0, .float .f32 0, .float .f32 0, .float .f32 0, .float .f32 0, .float .f32 0, .float .f32 0, .float .f32 0, .float .f32 0, .float .f32 0, .float .f32 0, .slice none 0 0, .slice none 0 0, .int .i64 0]) _ (by with_reducible assumption) 25 (jrC_size _) rfl (by kernel_rfl) hone ?_) | ((with_reducible refine is_load 73 _ rfl ?_); refine wpList_load_at rfl 73 _ rfl _ rfl (jrC y) _ (by with_reducible assumption) 25 (jrC_size _) _ Tryz.underlying73 rfl (by kernel_rfl) ?_) | ((with_reducible refine is_load 37 _ rfl ?_); refine wpList_load_at rfl 37 _ rfl _ rfl (tnC (.slice (some ⟨gr, 0, none⟩) nr nr) vf (.slice (some ⟨gj, 0, none⟩) n n) (.slice (some ⟨gp, 0, none⟩) np np) tk ca we) _ (by with_reducible assumption) 7 (tnC_size _ _ _ _ _ _ _) _ Tryz.underlying37 rfl (by kernel_rfl) ?_))
          refine KT.mono ?_
          rintro e w3 ⟨rfl, hb3⟩
          have B3 := Lib.hid (bthen B2.out hb3)
          clear N0 N1 A1 A2 J1 B2 hsl hle KT hb3 hone
          go_wp2_with fail
          exact ⟨⟨k + 1, by omega, by go_num, hv, B3⟩, by simp [intOf]; omega⟩
        · have hb : f k = false := by simpa using hb
          rw [hb] at KT
          have hv := Lib.hid (allN_at hlt hb)
          clear hok hb
          go_wp2_with (first | ((with_reducible refine is_load 34 _ rfl ?_); refine wpList_load_cell rfl 34 _ rfl _ 2 rfl (tnC (.slice (some ⟨gr, 0, none⟩) nr nr) vf (.slice (some ⟨gj, 0, none⟩) n n) (.slice (some ⟨gp, 0, none⟩) np np) tk ca we) _ (by with_reducible assumption) _ Tryz.underlying34 rfl (.slice (some ⟨gj, 0, none⟩) n n) (tnC_2 _ _ _ _ _ _ _) ?_) | ((with_reducible refine is_load 73 _ rfl ?_); refine wpList_load_part rfl 73 _ rfl _ (k * 25) rfl (fm jrC ys) _ (by with_reducible assumption) 25 hle _ Tryz.underlying73 rfl (by kernel_rfl) (jrC y) hsl ?_) | ((with_reducible refine is_store 73 _ _ rfl ?_); refine wpList_store_at rfl 73 _ _ rfl _ rfl (jrC y) rfl (#[.int .i64 0, .int .i64 0, .float .f32 0, .float .f32 0, .float .f32 0, .float .f32 0, .float .f32 0, .float .f32 0, .float .f32 0, .float .f32 0, .float .f32 0, .float .f32 0, .float .f32 0, .float .f32 0, .float .f32 0, .float .f32 0, .float .f32 0, .float .f32 0, .float .f32 0, .float .f32 0, .float .f32 0, .float .f32 0, .slice none 0 0, .slice none 0 0, .int .i64 0]) _ (by with_reducible assumption) 25 (jrC_size _) rfl (by kernel_rfl) hone ?_) | ((with_reducible refine is_load 73 _ rfl ?_); refine wpList_load_at rfl 73 _ rfl _ rfl (jrC y) _ (by with_reducible assumption) 25 (jrC_size _) _ Tryz.underlying73 rfl (by kernel_rfl) ?_) | ((with_reducible refine is_load 37 _ rfl ?_); refine wpList_load_at rfl 37 _ rfl _ rfl (tnC (.slice (some ⟨gr, 0, none⟩) nr nr) vf (.slice (some ⟨gj, 0, none⟩) n n) (.slice (some ⟨gp, 0, none⟩) np np) tk ca we) _ (by with_reducible assumption) 7 (tnC_size _ _ _ _ _ _ _) _ Tryz.underlying37 rfl (by kernel_rfl) ?_))
          refine KT.mono ?_
          rintro e w3 ⟨rfl, hb3⟩
          have B3 := Lib.hid (bthen B2.out hb3)
          clear N0 N1 A1 A2 J1 B2 hsl hle KT hb3 hone
          go_wp2_with fail
          go_ret
          exact ⟨by rw [hv.out]; rfl, B0.out.trans (B3.out.mono HW.out)⟩
      · obtain rfl : n = k := by omega
        have J2 := HX.out.2.2.1.step B1.out
        have KI1 := KI.out wr J1 J2
        go_wp2_with (first | ((with_reducible refine is_load 34 _ rfl ?_); refine wpList_load_cell rfl 34 _ rfl _ 2 rfl (tnC (.slice (some ⟨gr, 0, none⟩) nr nr) vf (.slice (some ⟨gj, 0, none⟩) n n) (.slice (some ⟨gp, 0, none⟩) np np) tk ca we) _ (by with_reducible assumption) _ Tryz.underlying34 rfl (.slice (some ⟨gj, 0, none⟩) n n) (tnC_2 _ _ _ _ _ _ _) ?_))
        refine KI1.mono ?_
        rintro e w3 ⟨r3, rfl, -, -, hb3⟩
        have A3 := A1.step hb3
        have J3 := J1.step hb3
        have Q3 := J2.step hb3
        have B3 := Lib.hid (bthen B1.out hb3)
        have KO1 := KO.out w3 J3 Q3
        clear A1 J1 J2 B1 hb3 KI1 KI KO
        go_wp2_with (first | ((with_reducible refine is_load 34 _ rfl ?_); refine wpList_load_cell rfl 34 _ rfl _ 2 rfl (tnC (.slice (some ⟨gr, 0, none⟩) nr nr) vf (.slice (some ⟨gj, 0, none⟩) n n) (.slice (some ⟨gp, 0, none⟩) np np) tk ca we) _ (by with_reducible assumption) _ Tryz.underlying34 rfl (.slice (some ⟨gj, 0, none⟩) n n) (tnC_2 _ _ _ _ _ _ _) ?_))
        refine KO1.mono ?_
        rintro e w4 ⟨r4, rfl, -, -, hb4⟩
        have B4 := Lib.hid (bthen B3.out hb4)
        have HOK := Lib.hid hok.out
        clear A3 J3 Q3 B3 hb4 KO1 hok
        cases b1 : nodB (flatN (insF js) n)
        · have HB1 := Lib.hid b1
          go_wp2_with fail
          go_ret
          exact ⟨by rw [HOK.out, HB1.out]; rfl, B0.out.trans (B4.out.mono HW.out)⟩
        · have HB1 := Lib.hid b1
          go_wp2_with fail
          go_ret
          exact ⟨by rw [HOK.out, HB1.out]; rfl, B0.out.trans (B4.out.mono HW.out)⟩
  · rw [decide_eq_false h4, Bool.false_and]
    have h5 : (n : Int) > 4 := by omega
    have A0 := HX.out.1
    go_enter Tryz.func78, Tryz.ntmps78
    go_wp2_with (first | ((with_reducible refine is_load 34 _ rfl ?_); refine wpList_load_cell rfl 34 _ rfl _ 2 rfl (tnC (.slice (some ⟨gr, 0, none⟩) nr nr) vf (.slice (some ⟨gj, 0, none⟩) n n) (.slice (some ⟨gp, 0, none⟩) np np) tk ca we) _ (by with_reducible assumption) _ Tryz.underlying34 rfl (.slice (some ⟨gj, 0, none⟩) n n) (tnC_2 _ _ _ _ _ _ _) ?_))
    go_ret
    exact ⟨rfl, B0.out⟩

/-- is a number nothing? -/
def nilB (a : Nat) : Bool := FloatKind.f32.format.order a 0 == some .eq

def offK (fs : List Nat) (os : List Int) (k : Nat) : Bool := amtB (nth fs k) && (nilB (nth fs k) || !decide ((k : Int) ∈ os))

def offerV (nr : Nat) (fs : List Nat) (js : List Jt) : Bool := decide (fs.length = nr) && allN (offK fs (flatN (outsF js) js.length)) fs.length

set_option maxHeartbeats 2000000 in
theorem isOffered_own (gr nr gf gj : Nat) (fs : List Nat) (hf : ∀ x ∈ fs, x < 4294967296) (hnf : fs.length ≤ 1048576) (js : List Jt) (hn : js.length ≤ 1048576) (hN : jsN js js.length ≤ 1048576) (vp : Value) (tk : Int) (ca we : Nat) (w : World)
    (h : ∃ ys : List Jr, ys.length = js.length ∧ At w gj (fm jrC ys) 73 ∧ JOk w gj ys js) (hF : At w gf (fl fs) 26) :
    Calls Tryz.prog 80 #[.agg (tnC (.slice (some ⟨gr, 0, none⟩) nr nr) (.slice (some ⟨gf, 0, none⟩) fs.length fs.length) (.slice (some ⟨gj, 0, none⟩) js.length js.length) vp tk ca we)] w fun e w' => e = .returned (.bool (offerV nr fs js)) ∧ Below w.heap.size w w' := by
  obtain ⟨ys, hl, h1, h2⟩ := h
  unfold offerV
  obtain ⟨nf, hnff⟩ : ∃ nf, nf = fs.length := ⟨_, rfl⟩
  have KO := fun w' h3 h4 => roadsOn_outsOf gj js ys hn hN hl w' h3 h4
  change ∀ w', At w' gj (fm jrC ys) 73 → JOk w' gj ys js → Calls _ _ _ w' (fun e w'' => ∃ r, e = .returned (.tuple #[.map (some r), .bool (nodB (flatN (outsF js) js.length))]) ∧ MpI w'' r (flatN (outsF js) js.length) ∧ w'.heap.size ≤ r ∧ _) at KO
  generalize flatN (outsF js) js.length = os at *
  generalize js.length = nj at *
  rw [← hnff] at hnf ⊢
  have h1a := h1.alloc (.cells (tnC (.slice (some ⟨gr, 0, none⟩) nr nr) (.slice (some ⟨gf, 0, none⟩) nf nf) (.slice (some ⟨gj, 0, none⟩) nj nj) vp tk ca we) 37)
  have hFa := hF.alloc (.cells (tnC (.slice (some ⟨gr, 0, none⟩) nr nr) (.slice (some ⟨gf, 0, none⟩) nf nf) (.slice (some ⟨gj, 0, none⟩) nj nj) vp tk ca we) 37)
  have A0 := At.new w (tnC (.slice (some ⟨gr, 0, none⟩) nr nr) (.slice (some ⟨gf, 0, none⟩) nf nf) (.slice (some ⟨gj, 0, none⟩) nj nj) vp tk ca we) 37
  have B0 := Lib.hid (b0 w (.cells (tnC (.slice (some ⟨gr, 0, none⟩) nr nr) (.slice (some ⟨gf, 0, none⟩) nf nf) (.slice (some ⟨gj, 0, none⟩) nj nj) vp tk ca we) 37))
  have h2a := h2.step (b0 w (.cells (tnC (.slice (some ⟨gr, 0, none⟩) nr nr) (.slice (some ⟨gf, 0, none⟩) nf nf) (.slice (some ⟨gj, 0, none⟩) nj nj) vp tk ca we) 37))
  obtain ⟨f, hff⟩ : ∃ f, f = offK fs os := ⟨_, rfl⟩
  rw [← hff]
  have HF := Lib.hid (And.intro hff (And.intro hnff hf))
  by_cases hq : nf = nr
  · subst hq
    rw [decide_eq_true rfl, Bool.true_and]
    have KO1 := KO _ h1a h2a
    clear hff hnff h1 h2 h1a hF h2a hl KO hn hN hf
    go_enter Tryz.func80, Tryz.ntmps80
    go_wp2_with (first | ((with_reducible refine is_load 23 _ rfl ?_); refine wpList_load_cell rfl 23 _ rfl _ 1 rfl (tnC (.slice (some ⟨gr, 0, none⟩) nf nf) (.slice (some ⟨gf, 0, none⟩) nf nf) (.slice (some ⟨gj, 0, none⟩) nj nj) vp tk ca we) _ (by with_reducible assumption) _ Tryz.underlying23 rfl (.slice (some ⟨gf, 0, none⟩) nf nf) (tnC_1 _ _ _ _ _ _ _) ?_) | ((with_reducible refine is_load 33 _ rfl ?_); refine wpList_load_cell rfl 33 _ rfl _ 0 rfl (tnC (.slice (some ⟨gr, 0, none⟩) nf nf) (.slice (some ⟨gf, 0, none⟩) nf nf) (.slice (some ⟨gj, 0, none⟩) nj nj) vp tk ca we) _ (by with_reducible assumption) _ Tryz.underlying33 rfl (.slice (some ⟨gr, 0, none⟩) nf nf) (tnC_0 _ _ _ _ _ _ _) ?_) | ((with_reducible refine is_load 34 _ rfl ?_); refine wpList_load_cell rfl 34 _ rfl _ 2 rfl (tnC (.slice (some ⟨gr, 0, none⟩) nf nf) (.slice (some ⟨gf, 0, none⟩) nf nf) (.slice (some ⟨gj, 0, none⟩) nj nj) vp tk ca we) _ (by with_reducible assumption) _ Tryz.underlying34 rfl (.slice (some ⟨gj, 0, none⟩) nj nj) (tnC_2 _ _ _ _ _ _ _) ?_))
    refine KO1.mono ?_
    rintro e w1 ⟨r, rfl, M1, -, hb1⟩
    have A1 := A0.step hb1
    have F1 := hFa.step hb1
    have B1 := Lib.hid (bthen B0.out hb1)
    clear A0 hFa B0 hb1 KO1
    go_wp2_with (first | ((with_reducible refine is_load 23 _ rfl ?_); refine wpList_load_cell rfl 23 _ rfl _ 1 rfl (tnC (.slice (some ⟨gr, 0, none⟩) nf nf) (.slice (some ⟨gf, 0, none⟩) nf nf) (.slice (some ⟨gj, 0, none⟩) nj nj) vp tk ca we) _ (by with_reducible assumption) _ Tryz.underlying23 rfl (.slice (some ⟨gf, 0, none⟩) nf nf) (tnC_1 _ _ _ _ _ _ _) ?_) | ((with_reducible refine is_load 33 _ rfl ?_); refine wpList_load_cell rfl 33 _ rfl _ 0 rfl (tnC (.slice (some ⟨gr, 0, none⟩) nf nf) (.slice (some ⟨gf, 0, none⟩) nf nf) (.slice (some ⟨gj, 0, none⟩) nj nj) vp tk ca we) _ (by with_reducible assumption) _ Tryz.underlying33 rfl (.slice (some ⟨gr, 0, none⟩) nf nf) (tnC_0 _ _ _ _ _ _ _) ?_) | ((with_reducible refine is_load 34 _ rfl ?_); refine wpList_load_cell rfl 34 _ rfl _ 2 rfl (tnC (.slice (some ⟨gr, 0, none⟩) nf nf) (.slice (some ⟨gf, 0, none⟩) nf nf) (.slice (some ⟨gj, 0, none⟩) nj nj) vp tk ca we) _ (by with_reducible assumption) _ Tryz.underlying34 rfl (.slice (some ⟨gj, 0, none⟩) nj nj) (tnC_2 _ _ _ _ _ _ _) ?_))
    have HX := Lib.hid (And.intro F1 M1)
    clear A1 F1 M1
    go_loopw [23] (fun i wr => ∃ k : Nat, k ≤ nf ∧ i = .int .i64 (k : Int) ∧ Hid (allN f k = true) ∧ Hid (∃ m, wr = w1.drewN m)) (fun i _ => nf - (intOf i).toNat)
    case atStart => exact ⟨0, by omega, rfl, Lib.hid rfl, Lib.hid ⟨0, rfl⟩⟩
    case round =>
      obtain ⟨k, hk, rfl, hok, hw⟩ := hrel
      obtain ⟨m, rfl⟩ := hw.out
      clear hw
      by_cases hlt : k < nf
      · have s2 : IntKind.i64.wrap ((k : Int) + 1) = (k : Int) + 1 := IntWalk.i64_in _ (by omega)
        have kd : (k : Int) < (nf : Int) := by omega
        have hkl : k < fs.length := by rw [← HF.out.2.1]; exact hlt
        have F1 := HX.out.1.drewN m
        have dk := fl_get (xs := fs) hkl
        have hx := u32_lt HF.out.2.2 k
        have hfk : f k = (amtB (nth fs k) && (nilB (nth fs k) || !decide ((k : Int) ∈ os))) := by rw [HF.out.1]; rfl
        have KA := fun w' => IsAmount_any (nth fs k) hx w'
        generalize nth fs k = x at *
        have hlk : ∀ w', (∃ m', w' = w1.drewN m') → (Instr.lookup 203 (.map (some r)) (.int .i64 (k : Int)) false).run Tryz.prog w' = .ok (.bool (decide ((k : Int) ∈ os))) w' := by
          rintro _ ⟨m', rfl⟩
          exact (HX.out.2.of (w' := w1.drewN m') rfl).look _ 203 2 4 Tryz.underlying203 Tryz.underlying2 rfl
        have hz0 : nilB x = (FloatKind.f32.format.order x 0 == some .eq) := rfl
        have HLK0 := Lib.hid hlk
        clear hlk hkl hx
        generalize decide ((k : Int) ∈ os) = d at *
        generalize hzz : (FloatKind.f32.format.order x 0) = ord at *
        rw [hz0] at hfk
        clear hz0
        cases ca1 : amtB x
        · rw [ca1] at KA hfk
          have hv := Lib.hid (allN_at hlt (hfk.trans (Bool.false_and _)))
          clear ca1 hfk hok HLK0
          go_wp2_with (first | ((with_reducible refine is_load 26 _ rfl ?_); refine wpList_load_cell rfl 26 _ rfl _ k rfl (fl fs) _ (by with_reducible assumption) _ Tryz.underlying26 rfl (.float .f32 x) (dk) ?_) | ((refine is_lookupI 203 _ _ false rfl ?_); refine wpList_lookupI_g rfl 203 _ _ false rfl _ _ rfl rfl _ HLK.out ?_))
          refine (KA _).mono ?_
          rintro e w3 ⟨rfl, n3, rfl⟩
          have B3 := Lib.hid (bdrew B1.out (m + n3))
          clear KA dk F1
          go_wp2_with fail
          go_ret
          exact ⟨by rw [hv.out]; rfl, B3.out⟩
        · rw [ca1, Bool.true_and] at hfk
          rw [ca1] at KA
          cases cz : (ord == some .eq)
          · rw [cz, Bool.false_or] at hfk
            have cz2 : (ord != some .eq) = true := by show (!(ord == some .eq)) = true; rw [cz]; rfl
            cases d
            · have hv := Lib.hid (allN_next hok.out hfk)
              clear ca1 hfk hok
              go_wp2_with (first | ((with_reducible refine is_load 26 _ rfl ?_); refine wpList_load_cell rfl 26 _ rfl _ k rfl (fl fs) _ (by with_reducible assumption) _ Tryz.underlying26 rfl (.float .f32 x) (dk) ?_) | ((refine is_lookupI 203 _ _ false rfl ?_); refine wpList_lookupI_g rfl 203 _ _ false rfl _ _ rfl rfl _ HLK.out ?_))
              refine (KA _).mono ?_
              rintro e w3 ⟨rfl, n3, rfl⟩
              have HLK := Lib.hid (HLK0.out ((w1.drewN m).drewN n3) ⟨m + n3, by simp [World.drewN, Nat.add_assoc]⟩)
              have HLK := Lib.hid (show (Instr.lookup 203 (.map (some r)) (.int .i64 (k : Int)) false).run Tryz.prog (w1.drewN (m + n3)) = .ok (.bool false) (w1.drewN (m + n3)) from HLK0.out _ ⟨_, rfl⟩)
              have B3 := Lib.hid (show ∃ m', w1.drewN (m + n3) = w1.drewN m' from ⟨_, rfl⟩)
              clear KA dk F1 HLK0
              go_wp2_with (first | ((with_reducible refine is_load 26 _ rfl ?_); refine wpList_load_cell rfl 26 _ rfl _ k rfl (fl fs) _ (by with_reducible assumption) _ Tryz.underlying26 rfl (.float .f32 x) (dk) ?_) | ((refine is_lookupI 203 _ _ false rfl ?_); refine wpList_lookupI_g rfl 203 _ _ false rfl _ _ rfl rfl _ HLK.out ?_))
              exact ⟨⟨k + 1, by omega, by go_num, hv, B3⟩, by simp [intOf]; omega⟩
            · have hv := Lib.hid (allN_at hlt hfk)
              clear ca1 hfk hok
              go_wp2_with (first | ((with_reducible refine is_load 26 _ rfl ?_); refine wpList_load_cell rfl 26 _ rfl _ k rfl (fl fs) _ (by with_reducible assumption) _ Tryz.underlying26 rfl (.float .f32 x) (dk) ?_) | ((refine is_lookupI 203 _ _ false rfl ?_); refine wpList_lookupI_g rfl 203 _ _ false rfl _ _ rfl rfl _ HLK.out ?_))
              refine (KA _).mono ?_
              rintro e w3 ⟨rfl, n3, rfl⟩
              have HLK := Lib.hid (show (Instr.lookup 203 (.map (some r)) (.int .i64 (k : Int)) false).run Tryz.prog (w1.drewN (m + n3)) = .ok (.bool true) (w1.drewN (m + n3)) from HLK0.out _ ⟨_, rfl⟩)
              have B3 := Lib.hid (bdrew B1.out (m + n3))
              clear KA dk F1 HLK0
              go_wp2_with (first | ((with_reducible refine is_load 26 _ rfl ?_); refine wpList_load_cell rfl 26 _ rfl _ k rfl (fl fs) _ (by with_reducible assumption) _ Tryz.underlying26 rfl (.float .f32 x) (dk) ?_) | ((refine is_lookupI 203 _ _ false rfl ?_); refine wpList_lookupI_g rfl 203 _ _ false rfl _ _ rfl rfl _ HLK.out ?_))
              go_ret
              exact ⟨by rw [hv.out]; rfl, B3.out⟩
          · rw [cz, Bool.true_or] at hfk
            have cz2 : (ord != some .eq) = false := by show (!(ord == some .eq)) = false; rw [cz]; rfl
            have hv := Lib.hid (allN_next hok.out hfk)
            clear ca1 hfk hok HLK0
            go_wp2_with (first | ((with_reducible refine is_load 26 _ rfl ?_); refine wpList_load_cell rfl 26 _ rfl _ k rfl (fl fs) _ (by with_reducible assumption) _ Tryz.underlying26 rfl (.float .f32 x) (dk) ?_) | ((refine is_lookupI 203 _ _ false rfl ?_); refine wpList_lookupI_g rfl 203 _ _ false rfl _ _ rfl rfl _ HLK.out ?_))
            refine (KA _).mono ?_
            rintro e w3 ⟨rfl, n3, rfl⟩
            have B3 := Lib.hid (show ∃ m', w1.drewN (m + n3) = w1.drewN m' from ⟨_, rfl⟩)
            clear KA dk F1
            go_wp2_with fail
            exact ⟨⟨k + 1, by omega, by go_num, hv, B3⟩, by simp [intOf]; omega⟩
      · obtain rfl : nf = k := by omega
        go_wp2_with fail
        go_ret
        exact ⟨by rw [hok.out]; rfl, bdrew B1.out m⟩
  · rw [decide_eq_false hq, Bool.false_and]
    have hq2 : ¬ (nf : Int) = (nr : Int) := by omega
    clear hff hnff h1 h2 h1a hF h2a hl KO hn hN hf hFa
    go_enter Tryz.func80, Tryz.ntmps80
    go_wp2_with (first | ((with_reducible refine is_load 23 _ rfl ?_); refine wpList_load_cell rfl 23 _ rfl _ 1 rfl (tnC (.slice (some ⟨gr, 0, none⟩) nr nr) (.slice (some ⟨gf, 0, none⟩) nf nf) (.slice (some ⟨gj, 0, none⟩) nj nj) vp tk ca we) _ (by with_reducible assumption) _ Tryz.underlying23 rfl (.slice (some ⟨gf, 0, none⟩) nf nf) (tnC_1 _ _ _ _ _ _ _) ?_) | ((with_reducible refine is_load 33 _ rfl ?_); refine wpList_load_cell rfl 33 _ rfl _ 0 rfl (tnC (.slice (some ⟨gr, 0, none⟩) nr nr) (.slice (some ⟨gf, 0, none⟩) nf nf) (.slice (some ⟨gj, 0, none⟩) nj nj) vp tk ca we) _ (by with_reducible assumption) _ Tryz.underlying33 rfl (.slice (some ⟨gr, 0, none⟩) nr nr) (tnC_0 _ _ _ _ _ _ _) ?_) | ((with_reducible refine is_load 34 _ rfl ?_); refine wpList_load_cell rfl 34 _ rfl _ 2 rfl (tnC (.slice (some ⟨gr, 0, none⟩) nr nr) (.slice (some ⟨gf, 0, none⟩) nf nf) (.slice (some ⟨gj, 0, none⟩) nj nj) vp tk ca we) _ (by with_reducible assumption) _ Tryz.underlying34 rfl (.slice (some ⟨gj, 0, none⟩) nj nj) (tnC_2 _ _ _ _ _ _ _) ?_))
    go_ret
    exact ⟨rfl, B0.out⟩

end Go.Proofs.YtboahhipobcabaaGreat
