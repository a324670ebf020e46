/-
  FnExactWatchRoad: the program's WatchRoad answers as its model, at every detector and road. No condition.
-/
import Derived.Test.YtopjikgkoodbmabWatchS
import Derived.Test.YtopjikgkoodbmabWatchI
import Derived.Test.YtopjikgkoodbmabToDet
import Derived.Test.YtopjikgkoodbmabShDet
import Derived.Test.YtopjikgkoodbmabConv
import Derived.Test.YtopjikgkoodbmabLaw
import Derived.Test.YtopjikgkoodbmabTake2
namespace Go.Proofs.Ytopjikgkoodbmab.lawFnExactWatchRoad
open Go Go.ChangeShapes Go.WideShapes Go.ChangeAt Go.RowKit

theorem shareW {H F : Nat → World → Prop} {goal : Prop} (main : (∀ a w, H a w → F a w) → goal) (rest : ∀ a w, H a w → F a w) : goal := main rest

theorem two_of9 {i j k : Nat} (h : i ∈ [j, k]) : i = j ∨ i = k := by simpa using h

theorem run_dt {w : World} {g : Nat} {c : Int} {y : Nat} {n : Int} {f : Nat} {t : Int} {T : TypeId} (ty : TypeId) (fs : Array Field) (h : At w g (dt c y n f t) T) (hu : Try.prog.underlying ty = some (.struct fs)) (hi : (Try.prog.info? ty).map (·.size) = some 5) :
    (Instr.loadAt ty (.pointer (some ⟨g, 0, none⟩))).run Try.prog w = .ok (.agg (dt c y n f t)) w :=
  run_loadAt_part w g 0 5 ty (dt c y n f t) T (0, 0) _ h hu rfl hi (by rw [dt_size]; omega)

theorem run_rdw {w : World} {g : Nat} {cs : List Nat} {p b l : Nat} {T : TypeId} (ty : TypeId) (hl : cs.length = 16) (fs : Array Field) (h : At w g (rd cs p b l) T) (hu : Try.prog.underlying ty = some (.struct fs)) (hi : (Try.prog.info? ty).map (·.size) = some 19) :
    (Instr.loadAt ty (.pointer (some ⟨g, 0, none⟩))).run Try.prog w = .ok (.agg (rd cs p b l)) w := by
  have hs : (rd cs p b l).size = 19 := rd_size hl p b l
  have := run_loadAt_part (P := Try.prog) w g 0 19 ty (rd cs p b l) T (0, 0) _ h hu rfl hi (by rw [hs]; omega)
  rwa [Nat.zero_add, ← hs, Array.extract_size] at this

set_option maxRecDepth 100000
set_option maxHeartbeats 2000000 in
theorem walk (c : Int) (y : Nat) (n : Int) (f : Nat) (t : Int) (_hc : I64t c) (hy : y < 4294967296) (hn : I16 n) (hf : f < 4294967296) (_ht : I64t t) (cs : List Nat) (p b l : Nat) (hl : cs.length = 16) (hc : ∀ x ∈ cs, x < 4294967296) (hp : p < 4294967296) (hb : b < 4294967296) (hla : l < 4294967296) (w : World) :
    Calls Try.prog 8 #[.agg (dt c y n f t), .agg (rd cs p b l)] w (True? w) := by
  have D0 : At ((w.alloc (.cells (dt c y n f t) 95)).alloc (.cells (rd cs p b l) 97)) w.heap.size (dt c y n f t) 95 := (At.new w _ _).alloc _
  have Q0 : At ((w.alloc (.cells (dt c y n f t) 95)).alloc (.cells (rd cs p b l) 97)) (w.heap.size + 1) (rd cs p b l) 97 := At.last1 w _ _ _
  have B0 := Lib.hid (bnew (b0 w (.cells (dt c y n f t) 95)) (.cells (rd cs p b l) 97))
  have KS := fun w => sWatchRoad_any c y n f t hy hn hf cs p b l hl hc hp hb hla w
  have KI := fun w => WatchRoad_any c y n f t hy hn hf cs p b l hl hc hp hb hla w
  have GD := vWR_good (c := c) (y := y) (n := n) (f := f) (t := t) (p := p) (b := b) (l := l) hl
  generalize vWR c y n f t cs p b l = q at KS KI GD
  obtain ⟨q1, q2, q3, q4, q5, cd⟩ := q
  simp only at KS KI GD
  clear hc hp hb hla
  go_enter Try.func8, Try.ntmps8
  go_wp2
  generalize ((w.alloc (.cells (dt c y n f t) 95)).alloc (.cells (rd cs p b l) 97)) = w1 at D0 Q0 B0 ⊢
  apply shareW (H := fun GA w9 => At w9 GA (dt q1 q2 q3 q4 q5) 98 ∧ Below w1.heap.size w1 w9) (fun key => ?main)
  case main =>
    refine wp_region_held (S := fun w' => Below w1.heap.size w1 w') (by kernel_rfl) ?_
    show wpAnyH _ _ _ _ _ 11 (Array.replicate 11 false) _ _
    have S0 : Below w1.heap.size w1 { w1 with drawn := w1.drawn + 1 } := bdrew (Below.refl _ w1) 1
    generalize hw0 : ({ w1 with drawn := w1.drawn + 1 } : World) = u0 at S0 ⊢
    clear hw0
    refine wpAnyH_take (i := 0) (v := .agg (dt c y n f t)) rfl (by kernel_rfl) (by kernel_rfl) (by kernel_rfl) (fun _ _ _ h => h) (yif rfl fun w' hw' => x_load 95 (.tmp 2) rfl ⟨w.heap.size, 0, none⟩ (by kernel_rfl) (run_dt 95 _ (D0.step hw') Try.underlying95 (by kernel_rfl))) (by assumption) ?_
    refine wpAnyH_take (i := 2) (v := .agg (rd cs p b l)) rfl (by kernel_rfl) (by kernel_rfl) (by kernel_rfl) (fun _ _ _ h => h) (yif rfl fun w' hw' => x_load 97 (.tmp 3) rfl ⟨w.heap.size + 1, 0, none⟩ (by kernel_rfl) (run_rdw 97 hl _ (Q0.step hw') Try.underlying97 (by kernel_rfl))) (by assumption) ?_
    refine wpAnyH_all (rs := [1, 8]) (by kernel_rfl) (by simp) fun i9 hi9 => ?_
    rcases two_of9 hi9 with rfl | rfl
    · refine op_call (f := 62) (args := #[.agg (dt c y n f t)]) rfl rfl (by kernel_rfl) ((toDetector_any c y n f t u0).mono ?_)
      rintro e u1 ⟨rfl, hb0⟩
      have S1 := bthen S0 hb0
      refine ⟨_, rfl, S1, ?_⟩
      refine wpAnyH_all (rs := [3, 8]) (by kernel_rfl) (by simp) fun i9 hi9 => ?_
      rcases two_of9 hi9 with rfl | rfl
      · refine op_call (f := 63) (args := #[.agg (rd cs p b l)]) rfl rfl (by kernel_rfl) ((toRoad_any cs p b l hl u1).mono ?_)
        rintro e u2 ⟨rfl, hb1⟩
        have S2 := bthen S1 hb1
        refine ⟨_, rfl, S2, ?_⟩
        refine wpAnyH_all (rs := [4, 8]) (by kernel_rfl) (by simp) fun i9 hi9 => ?_
        rcases two_of9 hi9 with rfl | rfl
        · refine op_call (f := 61) (args := #[.agg (dt c y n f t), .agg (rd cs p b l)]) rfl rfl (by kernel_rfl) ((KS u2).mono ?_)
          rintro e u3 ⟨rfl, hb2⟩
          have S3 := bthen S2 hb2
          refine ⟨_, rfl, S3, ?_⟩
          refine wpAnyH_take (i := 5) (v := .tuple #[.agg (dt q1 q2 q3 q4 q5), .int .i64 cd]) rfl (by kernel_rfl) (by kernel_rfl) (by kernel_rfl) (fun _ _ _ h => h) (yif rfl fun w2 hw2 => by kernel_rfl) (by assumption) ?_
          refine wpAnyH_take (i := 6) (v := .agg (dt q1 q2 q3 q4 q5)) rfl (by kernel_rfl) (by kernel_rfl) (by kernel_rfl) (fun _ _ _ h => h) (yif rfl fun w2 hw2 => by kernel_rfl) (by assumption) ?_
          refine wpAnyH_take (i := 7) (v := .int .i64 cd) rfl (by kernel_rfl) (by kernel_rfl) (by kernel_rfl) (fun _ _ _ h => h) (yif rfl fun w2 hw2 => by kernel_rfl) (by assumption) ?_
          refine wpAnyH_all (rs := [8]) (by kernel_rfl) (by simp) fun i9 hi9 => ?_
          obtain rfl := one_of hi9
          obtain ⟨GA, hGA⟩ : ∃ g, g = u3.heap.size := ⟨_, rfl⟩
          obtain ⟨u4, hu4⟩ : ∃ u, u = u3.alloc (.cells (#[.int .i64 0, .float .f32 0, .int .i16 0, .float .f32 0, .int .i64 0]) 98) := ⟨_, rfl⟩
          have S4 := bnew S3 (.cells (#[.int .i64 0, .float .f32 0, .int .i16 0, .float .f32 0, .int .i64 0]) 98)
          have N4 := At.new u3 (#[.int .i64 0, .float .f32 0, .int .i16 0, .float .f32 0, .int .i64 0]) 98
          have hle := S3.size
          rw [← hu4] at S4 N4
          rw [← hGA] at N4 hle
          refine op_value (v := .pointer (some ⟨GA, 0, none⟩)) (w' := u4) rfl rfl (by rw [hu4, hGA]; kernel_rfl) ⟨S4, ?_⟩
          clear hu4 hGA
          refine wpAnyH_all (rs := [9]) (by kernel_rfl) (by simp) fun i9 hi9 => ?_
          obtain rfl := one_of hi9
          obtain ⟨u5, hu5⟩ : ∃ u, u = u4.setRow GA ((dt q1 q2 q3 q4 q5)) := ⟨_, rfl⟩
          have S5 := bset S4 (g := GA) hle ((dt q1 q2 q3 q4 q5))
          have N5 := N4.setRow ((dt q1 q2 q3 q4 q5))
          rw [← hu5] at S5 N5
          refine op_skip (w' := u5) rfl rfl (by rw [hu5]; exact store_fresh rfl 5 (dt_size _ _ _ _ _) rfl (by kernel_rfl) (dt_one _ _ _ _ _) _ _ _ (by kernel_rfl) (by kernel_rfl) N4) ⟨S5, ?_⟩
          clear hu5
          refine wpAnyH_take (i := 10) (v := .int .i64 cd) rfl (by kernel_rfl) (by kernel_rfl) (by kernel_rfl) (fun _ _ _ h => h) (yif rfl fun w2 hw2 => by kernel_rfl) (by assumption) ?_
          refine wpAnyH_done (by kernel_rfl) ?_ _
          go_simp
          exact key GA u5 ⟨N5, S5⟩
        · obtain ⟨GA, hGA⟩ : ∃ g, g = u2.heap.size := ⟨_, rfl⟩
          obtain ⟨u3, hu3⟩ : ∃ u, u = u2.alloc (.cells (#[.int .i64 0, .float .f32 0, .int .i16 0, .float .f32 0, .int .i64 0]) 98) := ⟨_, rfl⟩
          have S3 := bnew S2 (.cells (#[.int .i64 0, .float .f32 0, .int .i16 0, .float .f32 0, .int .i64 0]) 98)
          have N3 := At.new u2 (#[.int .i64 0, .float .f32 0, .int .i16 0, .float .f32 0, .int .i64 0]) 98
          have hle := S2.size
          rw [← hu3] at S3 N3
          rw [← hGA] at N3 hle
          refine op_value (v := .pointer (some ⟨GA, 0, none⟩)) (w' := u3) rfl rfl (by rw [hu3, hGA]; kernel_rfl) ⟨S3, ?_⟩
          clear hu3 hGA
          refine wpAnyH_all (rs := [4]) (by kernel_rfl) (by simp) fun i9 hi9 => ?_
          obtain rfl := one_of hi9
          refine op_call (f := 61) (args := #[.agg (dt c y n f t), .agg (rd cs p b l)]) rfl rfl (by kernel_rfl) ((KS u3).mono ?_)
          rintro e u4 ⟨rfl, hb3⟩
          have S4 := bthen S3 hb3
          have N4 := N3.step hb3
          refine ⟨_, rfl, S4, ?_⟩
          refine wpAnyH_take (i := 5) (v := .tuple #[.agg (dt q1 q2 q3 q4 q5), .int .i64 cd]) rfl (by kernel_rfl) (by kernel_rfl) (by kernel_rfl) (fun _ _ _ h => h) (yif rfl fun w2 hw2 => by kernel_rfl) (by assumption) ?_
          refine wpAnyH_take (i := 6) (v := .agg (dt q1 q2 q3 q4 q5)) rfl (by kernel_rfl) (by kernel_rfl) (by kernel_rfl) (fun _ _ _ h => h) (yif rfl fun w2 hw2 => by kernel_rfl) (by assumption) ?_
          refine wpAnyH_take (i := 7) (v := .int .i64 cd) rfl (by kernel_rfl) (by kernel_rfl) (by kernel_rfl) (fun _ _ _ h => h) (yif rfl fun w2 hw2 => by kernel_rfl) (by assumption) ?_
          refine wpAnyH_all (rs := [9]) (by kernel_rfl) (by simp) fun i9 hi9 => ?_
          obtain rfl := one_of hi9
          obtain ⟨u5, hu5⟩ : ∃ u, u = u4.setRow GA ((dt q1 q2 q3 q4 q5)) := ⟨_, rfl⟩
          have S5 := bset S4 (g := GA) hle ((dt q1 q2 q3 q4 q5))
          have N5 := N4.setRow ((dt q1 q2 q3 q4 q5))
          rw [← hu5] at S5 N5
          refine op_skip (w' := u5) rfl rfl (by rw [hu5]; exact store_fresh rfl 5 (dt_size _ _ _ _ _) rfl (by kernel_rfl) (dt_one _ _ _ _ _) _ _ _ (by kernel_rfl) (by kernel_rfl) N4) ⟨S5, ?_⟩
          clear hu5
          refine wpAnyH_take (i := 10) (v := .int .i64 cd) rfl (by kernel_rfl) (by kernel_rfl) (by kernel_rfl) (fun _ _ _ h => h) (yif rfl fun w2 hw2 => by kernel_rfl) (by assumption) ?_
          refine wpAnyH_done (by kernel_rfl) ?_ _
          go_simp
          exact key GA u5 ⟨N5, S5⟩
      · obtain ⟨GA, hGA⟩ : ∃ g, g = u1.heap.size := ⟨_, rfl⟩
        obtain ⟨u2, hu2⟩ : ∃ u, u = u1.alloc (.cells (#[.int .i64 0, .float .f32 0, .int .i16 0, .float .f32 0, .int .i64 0]) 98) := ⟨_, rfl⟩
        have S2 := bnew S1 (.cells (#[.int .i64 0, .float .f32 0, .int .i16 0, .float .f32 0, .int .i64 0]) 98)
        have N2 := At.new u1 (#[.int .i64 0, .float .f32 0, .int .i16 0, .float .f32 0, .int .i64 0]) 98
        have hle := S1.size
        rw [← hu2] at S2 N2
        rw [← hGA] at N2 hle
        refine op_value (v := .pointer (some ⟨GA, 0, none⟩)) (w' := u2) rfl rfl (by rw [hu2, hGA]; kernel_rfl) ⟨S2, ?_⟩
        clear hu2 hGA
        refine wpAnyH_all (rs := [3]) (by kernel_rfl) (by simp) fun i9 hi9 => ?_
        obtain rfl := one_of hi9
        refine op_call (f := 63) (args := #[.agg (rd cs p b l)]) rfl rfl (by kernel_rfl) ((toRoad_any cs p b l hl u2).mono ?_)
        rintro e u3 ⟨rfl, hb2⟩
        have S3 := bthen S2 hb2
        have N3 := N2.step hb2
        refine ⟨_, rfl, S3, ?_⟩
        refine wpAnyH_all (rs := [4]) (by kernel_rfl) (by simp) fun i9 hi9 => ?_
        obtain rfl := one_of hi9
        refine op_call (f := 61) (args := #[.agg (dt c y n f t), .agg (rd cs p b l)]) rfl rfl (by kernel_rfl) ((KS u3).mono ?_)
        rintro e u4 ⟨rfl, hb3⟩
        have S4 := bthen S3 hb3
        have N4 := N3.step hb3
        refine ⟨_, rfl, S4, ?_⟩
        refine wpAnyH_take (i := 5) (v := .tuple #[.agg (dt q1 q2 q3 q4 q5), .int .i64 cd]) rfl (by kernel_rfl) (by kernel_rfl) (by kernel_rfl) (fun _ _ _ h => h) (yif rfl fun w2 hw2 => by kernel_rfl) (by assumption) ?_
        refine wpAnyH_take (i := 6) (v := .agg (dt q1 q2 q3 q4 q5)) rfl (by kernel_rfl) (by kernel_rfl) (by kernel_rfl) (fun _ _ _ h => h) (yif rfl fun w2 hw2 => by kernel_rfl) (by assumption) ?_
        refine wpAnyH_take (i := 7) (v := .int .i64 cd) rfl (by kernel_rfl) (by kernel_rfl) (by kernel_rfl) (fun _ _ _ h => h) (yif rfl fun w2 hw2 => by kernel_rfl) (by assumption) ?_
        refine wpAnyH_all (rs := [9]) (by kernel_rfl) (by simp) fun i9 hi9 => ?_
        obtain rfl := one_of hi9
        obtain ⟨u5, hu5⟩ : ∃ u, u = u4.setRow GA ((dt q1 q2 q3 q4 q5)) := ⟨_, rfl⟩
        have S5 := bset S4 (g := GA) hle ((dt q1 q2 q3 q4 q5))
        have N5 := N4.setRow ((dt q1 q2 q3 q4 q5))
        rw [← hu5] at S5 N5
        refine op_skip (w' := u5) rfl rfl (by rw [hu5]; exact store_fresh rfl 5 (dt_size _ _ _ _ _) rfl (by kernel_rfl) (dt_one _ _ _ _ _) _ _ _ (by kernel_rfl) (by kernel_rfl) N4) ⟨S5, ?_⟩
        clear hu5
        refine wpAnyH_take (i := 10) (v := .int .i64 cd) rfl (by kernel_rfl) (by kernel_rfl) (by kernel_rfl) (fun _ _ _ h => h) (yif rfl fun w2 hw2 => by kernel_rfl) (by assumption) ?_
        refine wpAnyH_done (by kernel_rfl) ?_ _
        go_simp
        exact key GA u5 ⟨N5, S5⟩
    · obtain ⟨GA, hGA⟩ : ∃ g, g = u0.heap.size := ⟨_, rfl⟩
      obtain ⟨u1, hu1⟩ : ∃ u, u = u0.alloc (.cells (#[.int .i64 0, .float .f32 0, .int .i16 0, .float .f32 0, .int .i64 0]) 98) := ⟨_, rfl⟩
      have S1 := bnew S0 (.cells (#[.int .i64 0, .float .f32 0, .int .i16 0, .float .f32 0, .int .i64 0]) 98)
      have N1 := At.new u0 (#[.int .i64 0, .float .f32 0, .int .i16 0, .float .f32 0, .int .i64 0]) 98
      have hle := S0.size
      rw [← hu1] at S1 N1
      rw [← hGA] at N1 hle
      refine op_value (v := .pointer (some ⟨GA, 0, none⟩)) (w' := u1) rfl rfl (by rw [hu1, hGA]; kernel_rfl) ⟨S1, ?_⟩
      clear hu1 hGA
      refine wpAnyH_all (rs := [1]) (by kernel_rfl) (by simp) fun i9 hi9 => ?_
      obtain rfl := one_of hi9
      refine op_call (f := 62) (args := #[.agg (dt c y n f t)]) rfl rfl (by kernel_rfl) ((toDetector_any c y n f t u1).mono ?_)
      rintro e u2 ⟨rfl, hb1⟩
      have S2 := bthen S1 hb1
      have N2 := N1.step hb1
      refine ⟨_, rfl, S2, ?_⟩
      refine wpAnyH_all (rs := [3]) (by kernel_rfl) (by simp) fun i9 hi9 => ?_
      obtain rfl := one_of hi9
      refine op_call (f := 63) (args := #[.agg (rd cs p b l)]) rfl rfl (by kernel_rfl) ((toRoad_any cs p b l hl u2).mono ?_)
      rintro e u3 ⟨rfl, hb2⟩
      have S3 := bthen S2 hb2
      have N3 := N2.step hb2
      refine ⟨_, rfl, S3, ?_⟩
      refine wpAnyH_all (rs := [4]) (by kernel_rfl) (by simp) fun i9 hi9 => ?_
      obtain rfl := one_of hi9
      refine op_call (f := 61) (args := #[.agg (dt c y n f t), .agg (rd cs p b l)]) rfl rfl (by kernel_rfl) ((KS u3).mono ?_)
      rintro e u4 ⟨rfl, hb3⟩
      have S4 := bthen S3 hb3
      have N4 := N3.step hb3
      refine ⟨_, rfl, S4, ?_⟩
      refine wpAnyH_take (i := 5) (v := .tuple #[.agg (dt q1 q2 q3 q4 q5), .int .i64 cd]) rfl (by kernel_rfl) (by kernel_rfl) (by kernel_rfl) (fun _ _ _ h => h) (yif rfl fun w2 hw2 => by kernel_rfl) (by assumption) ?_
      refine wpAnyH_take (i := 6) (v := .agg (dt q1 q2 q3 q4 q5)) rfl (by kernel_rfl) (by kernel_rfl) (by kernel_rfl) (fun _ _ _ h => h) (yif rfl fun w2 hw2 => by kernel_rfl) (by assumption) ?_
      refine wpAnyH_take (i := 7) (v := .int .i64 cd) rfl (by kernel_rfl) (by kernel_rfl) (by kernel_rfl) (fun _ _ _ h => h) (yif rfl fun w2 hw2 => by kernel_rfl) (by assumption) ?_
      refine wpAnyH_all (rs := [9]) (by kernel_rfl) (by simp) fun i9 hi9 => ?_
      obtain rfl := one_of hi9
      obtain ⟨u5, hu5⟩ : ∃ u, u = u4.setRow GA ((dt q1 q2 q3 q4 q5)) := ⟨_, rfl⟩
      have S5 := bset S4 (g := GA) hle ((dt q1 q2 q3 q4 q5))
      have N5 := N4.setRow ((dt q1 q2 q3 q4 q5))
      rw [← hu5] at S5 N5
      refine op_skip (w' := u5) rfl rfl (by rw [hu5]; exact store_fresh rfl 5 (dt_size _ _ _ _ _) rfl (by kernel_rfl) (dt_one _ _ _ _ _) _ _ _ (by kernel_rfl) (by kernel_rfl) N4) ⟨S5, ?_⟩
      clear hu5
      refine wpAnyH_take (i := 10) (v := .int .i64 cd) rfl (by kernel_rfl) (by kernel_rfl) (by kernel_rfl) (fun _ _ _ h => h) (yif rfl fun w2 hw2 => by kernel_rfl) (by assumption) ?_
      refine wpAnyH_done (by kernel_rfl) ?_ _
      go_simp
      exact key GA u5 ⟨N5, S5⟩
  intro GA w2 hh
  obtain ⟨A2, S2⟩ := hh
  have D2 := D0.step S2
  have Q2 := Q0.step S2
  have B2 := Lib.hid (bthen B0.out S2)
  clear KS D0 Q0 B0 S2
  go_wp2_with fail
  apply shareW (H := fun GB w9 => At w9 GB (dt q1 q2 q3 q4 q5) 98 ∧ Below w2.heap.size w2 w9) (fun key => ?main)
  case main =>
    refine wp_region_held (S := fun w' => Below w2.heap.size w2 w') (by kernel_rfl) ?_
    show wpAnyH _ _ _ _ _ 11 (Array.replicate 11 false) _ _
    have S0 : Below w2.heap.size w2 { w2 with drawn := w2.drawn + 1 } := bdrew (Below.refl _ w2) 1
    generalize hw0 : ({ w2 with drawn := w2.drawn + 1 } : World) = u0 at S0 ⊢
    clear hw0
    refine wpAnyH_take (i := 0) (v := .agg (dt c y n f t)) rfl (by kernel_rfl) (by kernel_rfl) (by kernel_rfl) (fun _ _ _ h => h) (yif rfl fun w' hw' => x_load 95 (.tmp 2) rfl ⟨w.heap.size, 0, none⟩ (by kernel_rfl) (run_dt 95 _ (D2.step hw') Try.underlying95 (by kernel_rfl))) (by assumption) ?_
    refine wpAnyH_take (i := 2) (v := .agg (rd cs p b l)) rfl (by kernel_rfl) (by kernel_rfl) (by kernel_rfl) (fun _ _ _ h => h) (yif rfl fun w' hw' => x_load 97 (.tmp 3) rfl ⟨w.heap.size + 1, 0, none⟩ (by kernel_rfl) (run_rdw 97 hl _ (Q2.step hw') Try.underlying97 (by kernel_rfl))) (by assumption) ?_
    refine wpAnyH_all (rs := [1, 8]) (by kernel_rfl) (by simp) fun i9 hi9 => ?_
    rcases two_of9 hi9 with rfl | rfl
    · refine op_call (f := 62) (args := #[.agg (dt c y n f t)]) rfl rfl (by kernel_rfl) ((toDetector_any c y n f t u0).mono ?_)
      rintro e u1 ⟨rfl, hb0⟩
      have S1 := bthen S0 hb0
      refine ⟨_, rfl, S1, ?_⟩
      refine wpAnyH_all (rs := [3, 8]) (by kernel_rfl) (by simp) fun i9 hi9 => ?_
      rcases two_of9 hi9 with rfl | rfl
      · refine op_call (f := 63) (args := #[.agg (rd cs p b l)]) rfl rfl (by kernel_rfl) ((toRoad_any cs p b l hl u1).mono ?_)
        rintro e u2 ⟨rfl, hb1⟩
        have S2 := bthen S1 hb1
        refine ⟨_, rfl, S2, ?_⟩
        refine wpAnyH_all (rs := [4, 8]) (by kernel_rfl) (by simp) fun i9 hi9 => ?_
        rcases two_of9 hi9 with rfl | rfl
        · refine op_call (f := 64) (args := #[.agg (dt c y n f t), .agg (rd cs p b l)]) rfl rfl (by kernel_rfl) ((KI u2).mono ?_)
          rintro e u3 ⟨rfl, hb2⟩
          have S3 := bthen S2 hb2
          refine ⟨_, rfl, S3, ?_⟩
          refine wpAnyH_take (i := 5) (v := .tuple #[.agg (dt q1 q2 q3 q4 q5), .int .i64 cd]) rfl (by kernel_rfl) (by kernel_rfl) (by kernel_rfl) (fun _ _ _ h => h) (yif rfl fun w2 hw2 => by kernel_rfl) (by assumption) ?_
          refine wpAnyH_take (i := 6) (v := .agg (dt q1 q2 q3 q4 q5)) rfl (by kernel_rfl) (by kernel_rfl) (by kernel_rfl) (fun _ _ _ h => h) (yif rfl fun w2 hw2 => by kernel_rfl) (by assumption) ?_
          refine wpAnyH_take (i := 7) (v := .int .i64 cd) rfl (by kernel_rfl) (by kernel_rfl) (by kernel_rfl) (fun _ _ _ h => h) (yif rfl fun w2 hw2 => by kernel_rfl) (by assumption) ?_
          refine wpAnyH_all (rs := [8]) (by kernel_rfl) (by simp) fun i9 hi9 => ?_
          obtain rfl := one_of hi9
          obtain ⟨GB, hGA⟩ : ∃ g, g = u3.heap.size := ⟨_, rfl⟩
          obtain ⟨u4, hu4⟩ : ∃ u, u = u3.alloc (.cells (#[.int .i64 0, .float .f32 0, .int .i16 0, .float .f32 0, .int .i64 0]) 98) := ⟨_, rfl⟩
          have S4 := bnew S3 (.cells (#[.int .i64 0, .float .f32 0, .int .i16 0, .float .f32 0, .int .i64 0]) 98)
          have N4 := At.new u3 (#[.int .i64 0, .float .f32 0, .int .i16 0, .float .f32 0, .int .i64 0]) 98
          have hle := S3.size
          rw [← hu4] at S4 N4
          rw [← hGA] at N4 hle
          refine op_value (v := .pointer (some ⟨GB, 0, none⟩)) (w' := u4) rfl rfl (by rw [hu4, hGA]; kernel_rfl) ⟨S4, ?_⟩
          clear hu4 hGA
          refine wpAnyH_all (rs := [9]) (by kernel_rfl) (by simp) fun i9 hi9 => ?_
          obtain rfl := one_of hi9
          obtain ⟨u5, hu5⟩ : ∃ u, u = u4.setRow GB ((dt q1 q2 q3 q4 q5)) := ⟨_, rfl⟩
          have S5 := bset S4 (g := GB) hle ((dt q1 q2 q3 q4 q5))
          have N5 := N4.setRow ((dt q1 q2 q3 q4 q5))
          rw [← hu5] at S5 N5
          refine op_skip (w' := u5) rfl rfl (by rw [hu5]; exact store_fresh rfl 5 (dt_size _ _ _ _ _) rfl (by kernel_rfl) (dt_one _ _ _ _ _) _ _ _ (by kernel_rfl) (by kernel_rfl) N4) ⟨S5, ?_⟩
          clear hu5
          refine wpAnyH_take (i := 10) (v := .int .i64 cd) rfl (by kernel_rfl) (by kernel_rfl) (by kernel_rfl) (fun _ _ _ h => h) (yif rfl fun w2 hw2 => by kernel_rfl) (by assumption) ?_
          refine wpAnyH_done (by kernel_rfl) ?_ _
          go_simp
          exact key GB u5 ⟨N5, S5⟩
        · obtain ⟨GB, hGA⟩ : ∃ g, g = u2.heap.size := ⟨_, rfl⟩
          obtain ⟨u3, hu3⟩ : ∃ u, u = u2.alloc (.cells (#[.int .i64 0, .float .f32 0, .int .i16 0, .float .f32 0, .int .i64 0]) 98) := ⟨_, rfl⟩
          have S3 := bnew S2 (.cells (#[.int .i64 0, .float .f32 0, .int .i16 0, .float .f32 0, .int .i64 0]) 98)
          have N3 := At.new u2 (#[.int .i64 0, .float .f32 0, .int .i16 0, .float .f32 0, .int .i64 0]) 98
          have hle := S2.size
          rw [← hu3] at S3 N3
          rw [← hGA] at N3 hle
          refine op_value (v := .pointer (some ⟨GB, 0, none⟩)) (w' := u3) rfl rfl (by rw [hu3, hGA]; kernel_rfl) ⟨S3, ?_⟩
          clear hu3 hGA
          refine wpAnyH_all (rs := [4]) (by kernel_rfl) (by simp) fun i9 hi9 => ?_
          obtain rfl := one_of hi9
          refine op_call (f := 64) (args := #[.agg (dt c y n f t), .agg (rd cs p b l)]) rfl rfl (by kernel_rfl) ((KI u3).mono ?_)
          rintro e u4 ⟨rfl, hb3⟩
          have S4 := bthen S3 hb3
          have N4 := N3.step hb3
          refine ⟨_, rfl, S4, ?_⟩
          refine wpAnyH_take (i := 5) (v := .tuple #[.agg (dt q1 q2 q3 q4 q5), .int .i64 cd]) rfl (by kernel_rfl) (by kernel_rfl) (by kernel_rfl) (fun _ _ _ h => h) (yif rfl fun w2 hw2 => by kernel_rfl) (by assumption) ?_
          refine wpAnyH_take (i := 6) (v := .agg (dt q1 q2 q3 q4 q5)) rfl (by kernel_rfl) (by kernel_rfl) (by kernel_rfl) (fun _ _ _ h => h) (yif rfl fun w2 hw2 => by kernel_rfl) (by assumption) ?_
          refine wpAnyH_take (i := 7) (v := .int .i64 cd) rfl (by kernel_rfl) (by kernel_rfl) (by kernel_rfl) (fun _ _ _ h => h) (yif rfl fun w2 hw2 => by kernel_rfl) (by assumption) ?_
          refine wpAnyH_all (rs := [9]) (by kernel_rfl) (by simp) fun i9 hi9 => ?_
          obtain rfl := one_of hi9
          obtain ⟨u5, hu5⟩ : ∃ u, u = u4.setRow GB ((dt q1 q2 q3 q4 q5)) := ⟨_, rfl⟩
          have S5 := bset S4 (g := GB) hle ((dt q1 q2 q3 q4 q5))
          have N5 := N4.setRow ((dt q1 q2 q3 q4 q5))
          rw [← hu5] at S5 N5
          refine op_skip (w' := u5) rfl rfl (by rw [hu5]; exact store_fresh rfl 5 (dt_size _ _ _ _ _) rfl (by kernel_rfl) (dt_one _ _ _ _ _) _ _ _ (by kernel_rfl) (by kernel_rfl) N4) ⟨S5, ?_⟩
          clear hu5
          refine wpAnyH_take (i := 10) (v := .int .i64 cd) rfl (by kernel_rfl) (by kernel_rfl) (by kernel_rfl) (fun _ _ _ h => h) (yif rfl fun w2 hw2 => by kernel_rfl) (by assumption) ?_
          refine wpAnyH_done (by kernel_rfl) ?_ _
          go_simp
          exact key GB u5 ⟨N5, S5⟩
      · obtain ⟨GB, hGA⟩ : ∃ g, g = u1.heap.size := ⟨_, rfl⟩
        obtain ⟨u2, hu2⟩ : ∃ u, u = u1.alloc (.cells (#[.int .i64 0, .float .f32 0, .int .i16 0, .float .f32 0, .int .i64 0]) 98) := ⟨_, rfl⟩
        have S2 := bnew S1 (.cells (#[.int .i64 0, .float .f32 0, .int .i16 0, .float .f32 0, .int .i64 0]) 98)
        have N2 := At.new u1 (#[.int .i64 0, .float .f32 0, .int .i16 0, .float .f32 0, .int .i64 0]) 98
        have hle := S1.size
        rw [← hu2] at S2 N2
        rw [← hGA] at N2 hle
        refine op_value (v := .pointer (some ⟨GB, 0, none⟩)) (w' := u2) rfl rfl (by rw [hu2, hGA]; kernel_rfl) ⟨S2, ?_⟩
        clear hu2 hGA
        refine wpAnyH_all (rs := [3]) (by kernel_rfl) (by simp) fun i9 hi9 => ?_
        obtain rfl := one_of hi9
        refine op_call (f := 63) (args := #[.agg (rd cs p b l)]) rfl rfl (by kernel_rfl) ((toRoad_any cs p b l hl u2).mono ?_)
        rintro e u3 ⟨rfl, hb2⟩
        have S3 := bthen S2 hb2
        have N3 := N2.step hb2
        refine ⟨_, rfl, S3, ?_⟩
        refine wpAnyH_all (rs := [4]) (by kernel_rfl) (by simp) fun i9 hi9 => ?_
        obtain rfl := one_of hi9
        refine op_call (f := 64) (args := #[.agg (dt c y n f t), .agg (rd cs p b l)]) rfl rfl (by kernel_rfl) ((KI u3).mono ?_)
        rintro e u4 ⟨rfl, hb3⟩
        have S4 := bthen S3 hb3
        have N4 := N3.step hb3
        refine ⟨_, rfl, S4, ?_⟩
        refine wpAnyH_take (i := 5) (v := .tuple #[.agg (dt q1 q2 q3 q4 q5), .int .i64 cd]) rfl (by kernel_rfl) (by kernel_rfl) (by kernel_rfl) (fun _ _ _ h => h) (yif rfl fun w2 hw2 => by kernel_rfl) (by assumption) ?_
        refine wpAnyH_take (i := 6) (v := .agg (dt q1 q2 q3 q4 q5)) rfl (by kernel_rfl) (by kernel_rfl) (by kernel_rfl) (fun _ _ _ h => h) (yif rfl fun w2 hw2 => by kernel_rfl) (by assumption) ?_
        refine wpAnyH_take (i := 7) (v := .int .i64 cd) rfl (by kernel_rfl) (by kernel_rfl) (by kernel_rfl) (fun _ _ _ h => h) (yif rfl fun w2 hw2 => by kernel_rfl) (by assumption) ?_
        refine wpAnyH_all (rs := [9]) (by kernel_rfl) (by simp) fun i9 hi9 => ?_
        obtain rfl := one_of hi9
        obtain ⟨u5, hu5⟩ : ∃ u, u = u4.setRow GB ((dt q1 q2 q3 q4 q5)) := ⟨_, rfl⟩
        have S5 := bset S4 (g := GB) hle ((dt q1 q2 q3 q4 q5))
        have N5 := N4.setRow ((dt q1 q2 q3 q4 q5))
        rw [← hu5] at S5 N5
        refine op_skip (w' := u5) rfl rfl (by rw [hu5]; exact store_fresh rfl 5 (dt_size _ _ _ _ _) rfl (by kernel_rfl) (dt_one _ _ _ _ _) _ _ _ (by kernel_rfl) (by kernel_rfl) N4) ⟨S5, ?_⟩
        clear hu5
        refine wpAnyH_take (i := 10) (v := .int .i64 cd) rfl (by kernel_rfl) (by kernel_rfl) (by kernel_rfl) (fun _ _ _ h => h) (yif rfl fun w2 hw2 => by kernel_rfl) (by assumption) ?_
        refine wpAnyH_done (by kernel_rfl) ?_ _
        go_simp
        exact key GB u5 ⟨N5, S5⟩
    · obtain ⟨GB, hGA⟩ : ∃ g, g = u0.heap.size := ⟨_, rfl⟩
      obtain ⟨u1, hu1⟩ : ∃ u, u = u0.alloc (.cells (#[.int .i64 0, .float .f32 0, .int .i16 0, .float .f32 0, .int .i64 0]) 98) := ⟨_, rfl⟩
      have S1 := bnew S0 (.cells (#[.int .i64 0, .float .f32 0, .int .i16 0, .float .f32 0, .int .i64 0]) 98)
      have N1 := At.new u0 (#[.int .i64 0, .float .f32 0, .int .i16 0, .float .f32 0, .int .i64 0]) 98
      have hle := S0.size
      rw [← hu1] at S1 N1
      rw [← hGA] at N1 hle
      refine op_value (v := .pointer (some ⟨GB, 0, none⟩)) (w' := u1) rfl rfl (by rw [hu1, hGA]; kernel_rfl) ⟨S1, ?_⟩
      clear hu1 hGA
      refine wpAnyH_all (rs := [1]) (by kernel_rfl) (by simp) fun i9 hi9 => ?_
      obtain rfl := one_of hi9
      refine op_call (f := 62) (args := #[.agg (dt c y n f t)]) rfl rfl (by kernel_rfl) ((toDetector_any c y n f t u1).mono ?_)
      rintro e u2 ⟨rfl, hb1⟩
      have S2 := bthen S1 hb1
      have N2 := N1.step hb1
      refine ⟨_, rfl, S2, ?_⟩
      refine wpAnyH_all (rs := [3]) (by kernel_rfl) (by simp) fun i9 hi9 => ?_
      obtain rfl := one_of hi9
      refine op_call (f := 63) (args := #[.agg (rd cs p b l)]) rfl rfl (by kernel_rfl) ((toRoad_any cs p b l hl u2).mono ?_)
      rintro e u3 ⟨rfl, hb2⟩
      have S3 := bthen S2 hb2
      have N3 := N2.step hb2
      refine ⟨_, rfl, S3, ?_⟩
      refine wpAnyH_all (rs := [4]) (by kernel_rfl) (by simp) fun i9 hi9 => ?_
      obtain rfl := one_of hi9
      refine op_call (f := 64) (args := #[.agg (dt c y n f t), .agg (rd cs p b l)]) rfl rfl (by kernel_rfl) ((KI u3).mono ?_)
      rintro e u4 ⟨rfl, hb3⟩
      have S4 := bthen S3 hb3
      have N4 := N3.step hb3
      refine ⟨_, rfl, S4, ?_⟩
      refine wpAnyH_take (i := 5) (v := .tuple #[.agg (dt q1 q2 q3 q4 q5), .int .i64 cd]) rfl (by kernel_rfl) (by kernel_rfl) (by kernel_rfl) (fun _ _ _ h => h) (yif rfl fun w2 hw2 => by kernel_rfl) (by assumption) ?_
      refine wpAnyH_take (i := 6) (v := .agg (dt q1 q2 q3 q4 q5)) rfl (by kernel_rfl) (by kernel_rfl) (by kernel_rfl) (fun _ _ _ h => h) (yif rfl fun w2 hw2 => by kernel_rfl) (by assumption) ?_
      refine wpAnyH_take (i := 7) (v := .int .i64 cd) rfl (by kernel_rfl) (by kernel_rfl) (by kernel_rfl) (fun _ _ _ h => h) (yif rfl fun w2 hw2 => by kernel_rfl) (by assumption) ?_
      refine wpAnyH_all (rs := [9]) (by kernel_rfl) (by simp) fun i9 hi9 => ?_
      obtain rfl := one_of hi9
      obtain ⟨u5, hu5⟩ : ∃ u, u = u4.setRow GB ((dt q1 q2 q3 q4 q5)) := ⟨_, rfl⟩
      have S5 := bset S4 (g := GB) hle ((dt q1 q2 q3 q4 q5))
      have N5 := N4.setRow ((dt q1 q2 q3 q4 q5))
      rw [← hu5] at S5 N5
      refine op_skip (w' := u5) rfl rfl (by rw [hu5]; exact store_fresh rfl 5 (dt_size _ _ _ _ _) rfl (by kernel_rfl) (dt_one _ _ _ _ _) _ _ _ (by kernel_rfl) (by kernel_rfl) N4) ⟨S5, ?_⟩
      clear hu5
      refine wpAnyH_take (i := 10) (v := .int .i64 cd) rfl (by kernel_rfl) (by kernel_rfl) (by kernel_rfl) (fun _ _ _ h => h) (yif rfl fun w2 hw2 => by kernel_rfl) (by assumption) ?_
      refine wpAnyH_done (by kernel_rfl) ?_ _
      go_simp
      exact key GB u5 ⟨N5, S5⟩
  intro GB w3 hh
  obtain ⟨C3, S3⟩ := hh
  have A3 := A2.step S3
  have B3 := Lib.hid (bthen B2.out S3)
  clear KI D2 Q2 B2 S3 A2
  go_wp2_with (((with_reducible refine is_load 98 _ rfl ?_); refine wpList_load_at rfl 98 _ rfl _ rfl ((dt q1 q2 q3 q4 q5)) _ (by with_reducible assumption) 5 (dt_size _ _ _ _ _) _ Try.underlying98 rfl (by kernel_rfl) ?_))
  refine (eqDetector_same q1 q2 q3 q4 q5 GD.1 GD.2 _).mono ?_
  rintro e w4 ⟨rfl, hb4⟩
  go_wp2_with fail
  go_ret
  exact ⟨rfl, bthen B3.out hb4⟩

set_option maxRecDepth 100000 in
theorem lifted (os : Os) (started : os.Started) (H : Type) (enc : TypeId × Value → H) :
    ReturnsInHanded {} Try.checked os 8 .any (Rows.fnExactWatchRoadSpec.pre6 enc Try.prog Try.f8 Rows.fnExactWatchRoadRow.domain false) (Rows.fnExactWatchRoadSpec.post enc Try.prog Try.f8 false true false false) := by
  refine law_lifted enc os started (by kernel_rfl) Try.func8
    (ChangeSpec.witness6 (enc := enc) (C := Try.checked) false ⟨#[], #[.agg #[.int .i64 0, .float .f32 0, .int .i16 0, .float .f32 0, .int .i64 0], .agg (Array.replicate 19 (.float .f32 0))], []⟩ 24 (by kernel_rfl) (by kernel_rfl) (by kernel_rfl) (by kernel_rfl)) rfl (by kernel_rfl) ?_ ?_ ?_
  · rw [Try.params8]
    intro t ht
    have hall : (#[95, 97].toList.all fun u => Try.prog.readableRec u && decide (u < Try.prog.types.size)) = true := by kernel_rfl
    have := List.all_eq_true.1 hall t ht
    simpa using this
  · intro ds h
    rw [Try.params8] at h
    match ds, h with
    | [d0, d1], _ => rfl
  · intro W base args hl hval
    rw [Try.params8] at hl hval
    obtain ⟨v0, v1, rfl⟩ : ∃ v0 v1, args = #[v0, v1] := by
      obtain ⟨l⟩ := args
      match l, hl with
      | [v0, v1], _ => exact ⟨v0, v1, rfl⟩
    obtain ⟨c0, y0, n0, f0, t0, rfl, hc0, hy0, hn0, hf0, ht0⟩ := shape_det (hval 0 _ _ rfl rfl)
    obtain ⟨c1, p1, b1, l1, rfl, hl1, hc1, hp1, hb1, hla1⟩ := shape_road (hval 1 _ _ rfl rfl)
    exact walk c0 y0 n0 f0 t0 hc0 hy0 hn0 hf0 ht0 c1 p1 b1 l1 hl1 hc1 hp1 hb1 hla1 W

/-- THE STATEMENT -/
theorem proved : Rows.FnExactWatchRoadSaid := by
  first
    | (refine OpenClaim.holds_of_wide 8 Try.f8 rfl rfl rfl rfl rfl rfl rfl ⟨rfl, rfl, rfl, rfl, rfl⟩ rfl rfl rfl rfl rfl (by kernel_rfl) Try.func8 (by kernel_rfl) (of_decide_eq_true (by kernel_rfl)) ?_ (fun os started H enc _ => lifted os started H enc))
    | (refine OpenClaim.holds_of_wide_leaving 8 Try.f8 rfl rfl rfl rfl rfl rfl rfl ⟨rfl, rfl, rfl, rfl, rfl⟩ rfl rfl rfl rfl rfl (by kernel_rfl) Try.func8 (by kernel_rfl) (of_decide_eq_true (by kernel_rfl)) ?_ (fun os started H enc _ => leaving_of_handed (lifted os started H enc)))
  unfold Func.isWrapper
  first | (rw [if_pos (by decide +kernel)]; kernel_rfl) | (rw [if_neg (by decide +kernel)]; exact ⟨rfl, rfl⟩)
#print axioms proved
end Go.Proofs.Ytopjikgkoodbmab.lawFnExactWatchRoad
