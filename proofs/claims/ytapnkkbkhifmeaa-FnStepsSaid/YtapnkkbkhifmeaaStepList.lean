/-
  CONTRACTS: steps that are told by lists, the program's.
-/
import Derived.Test.YtapnkkbkhifmeaaListChk
import Derived.Test.YtapnkkbkhifmeaaStepRds
namespace Go.Proofs.Ytapnkkbkhifmeaa
open Go Go.RowKit Go.Shelf
set_option maxRecDepth 100000

theorem StepList_no (cs : List Nat) (p b l : Nat) (hl : cs.length = 16) (hc : ∀ x ∈ cs, x < 4294967296) (hp : p < 4294967296) (hb : b < 4294967296) (hla : l < 4294967296) (xs ys : List Nat) (hx : ∀ x ∈ xs, x < 4294967296) (hy : ∀ x ∈ ys, x < 4294967296) (hnx : xs.length ≤ 1048576) (hny : ys.length ≤ 1048576) (ga gb : Nat) (Ta Tb : TypeId) (h : listC (okB cs p b l) xs ys ≠ 0) (w : World) (X0 : At w ga (fl xs) Ta) (Y0 : At w gb (fl ys) Tb) :
    Calls Try.prog 16 #[.agg (rd cs p b l), .slice (some ⟨ga, 0, none⟩) xs.length xs.length, .slice (some ⟨gb, 0, none⟩) ys.length ys.length] w fun e w' => e = .returned (.tuple #[.agg ((rd (zeros 16) 0 0 0)), .float .f32 0, .float .f32 0, .int .i64 (listC (okB cs p b l) xs ys)]) ∧ Below w.heap.size w w' := by
  have R0 : At ((((w.alloc (.cells (rd cs p b l) 28)).alloc (.cells #[.slice (some ⟨ga, 0, none⟩) xs.length xs.length] 41)).alloc (.cells #[.slice (some ⟨gb, 0, none⟩) ys.length ys.length] 41)).alloc (.cells (rd (zeros 16) 0 0 0) 28)) w.heap.size (rd cs p b l) 28 := (((At.new w _ _).alloc _).alloc _).alloc _
  have A0 : At ((((w.alloc (.cells (rd cs p b l) 28)).alloc (.cells #[.slice (some ⟨ga, 0, none⟩) xs.length xs.length] 41)).alloc (.cells #[.slice (some ⟨gb, 0, none⟩) ys.length ys.length] 41)).alloc (.cells (rd (zeros 16) 0 0 0) 28)) (w.heap.size + 1) #[.slice (some ⟨ga, 0, none⟩) xs.length xs.length] 41 := ((At.last1 w _ _ _).alloc _).alloc _
  have C0 : At ((((w.alloc (.cells (rd cs p b l) 28)).alloc (.cells #[.slice (some ⟨ga, 0, none⟩) xs.length xs.length] 41)).alloc (.cells #[.slice (some ⟨gb, 0, none⟩) ys.length ys.length] 41)).alloc (.cells (rd (zeros 16) 0 0 0) 28)) (w.heap.size + 1 + 1) #[.slice (some ⟨gb, 0, none⟩) ys.length ys.length] 41 := (At.last2 w _ _ _ _).alloc _
  have T0 : At ((((w.alloc (.cells (rd cs p b l) 28)).alloc (.cells #[.slice (some ⟨ga, 0, none⟩) xs.length xs.length] 41)).alloc (.cells #[.slice (some ⟨gb, 0, none⟩) ys.length ys.length] 41)).alloc (.cells (rd (zeros 16) 0 0 0) 28)) (w.heap.size + 1 + 1 + 1) (rd (zeros 16) 0 0 0) 28 := by
    have := At.new (((w.alloc (.cells (rd cs p b l) 28)).alloc (.cells #[.slice (some ⟨ga, 0, none⟩) xs.length xs.length] 41)).alloc (.cells #[.slice (some ⟨gb, 0, none⟩) ys.length ys.length] 41)) (rd (zeros 16) 0 0 0) 28
    rwa [World.size_alloc, World.size_alloc, World.size_alloc] at this
  have X1 : At ((((w.alloc (.cells (rd cs p b l) 28)).alloc (.cells #[.slice (some ⟨ga, 0, none⟩) xs.length xs.length] 41)).alloc (.cells #[.slice (some ⟨gb, 0, none⟩) ys.length ys.length] 41)).alloc (.cells (rd (zeros 16) 0 0 0) 28)) ga (fl xs) Ta := (((X0.alloc _).alloc _).alloc _).alloc _
  have Y1 : At ((((w.alloc (.cells (rd cs p b l) 28)).alloc (.cells #[.slice (some ⟨ga, 0, none⟩) xs.length xs.length] 41)).alloc (.cells #[.slice (some ⟨gb, 0, none⟩) ys.length ys.length] 41)).alloc (.cells (rd (zeros 16) 0 0 0) 28)) gb (fl ys) Tb := (((Y0.alloc _).alloc _).alloc _).alloc _
  have B0 := Lib.hid (bnew (bnew (bnew (b0 w (.cells (rd cs p b l) 28)) (.cells #[.slice (some ⟨ga, 0, none⟩) xs.length xs.length] 41)) (.cells #[.slice (some ⟨gb, 0, none⟩) ys.length ys.length] 41)) (.cells (rd (zeros 16) 0 0 0) 28))
  have hmf : ∀ (fn : Fn) (first cap : Array Value) (w : World), (Instr.makeFunc fn first cap).run Try.prog w = .ok (.func fn first cap) w := fun _ _ _ _ => rfl
  have KR := refusalOf_any 35 #[.pointer (some ⟨w.heap.size, 0, none⟩), .pointer (some ⟨(w.heap.size + 1), 0, none⟩), .pointer (some ⟨(w.heap.size + 1 + 1), 0, none⟩)] _ ((((w.alloc (.cells (rd cs p b l) 28)).alloc (.cells #[.slice (some ⟨ga, 0, none⟩) xs.length xs.length] 41)).alloc (.cells #[.slice (some ⟨gb, 0, none⟩) ys.length ys.length] 41)).alloc (.cells (rd (zeros 16) 0 0 0) 28)) (fun _ => by kernel_rfl) fun w1 h1 => listChk_any _ _ _ cs p b l hl hc hp hb hla xs ys hx hy hnx hny ga gb Ta Tb w1 (R0.step h1) (A0.step h1) (C0.step h1) (X1.step h1) (Y1.step h1)
  generalize listC (okB cs p b l) xs ys = c at KR h ⊢
  have gne : (c == 0) = false := by simp [h]
  go_enter Try.func16, Try.ntmps16
  go_wp2_with fail
  refine KR.mono ?_
  rintro e' w1 ⟨rfl, hb1⟩
  have T1 := T0.step hb1
  have B1 := Lib.hid (bthen B0.out hb1)
  clear KR R0 A0 C0 T0 X0 Y0 X1 Y1 B0 hb1
  have T9 := T1.setRow (rd (zeros 16) 0 0 0)
  have B9 := Lib.hid (bset B1.out (g := w.heap.size + 1 + 1 + 1) (by omega) (rd (zeros 16) 0 0 0))
  go_wp2_with (((with_reducible refine is_store 28 (.tmp 6) (.tmp 15) rfl ?_); refine wpList_store_at rfl 28 (.tmp 6) (.tmp 15) rfl _ rfl (rd (zeros 16) 0 0 0) rfl (rd (zeros 16) 0 0 0) _ T1 19 (rd_size (zeros_len 16) _ _ _) (rd_size (zeros_len 16) _ _ _) (by kernel_rfl) (fl_one _) ?_))
  exact bodyPost_ret (v := .tuple #[.agg ((rd (zeros 16) 0 0 0)), .float .f32 0, .float .f32 0, .int .i64 c]) (results_at3 (p := 6) (ty := 28) rfl _ _ _ ((rd (zeros 16) 0 0 0)) _ _ _ _ (by kernel_rfl) (by kernel_rfl) (by kernel_rfl) (by kernel_rfl) T9 _ Try.underlying28 rfl 19 (rd_size (zeros_len 16) _ _ _) (by kernel_rfl)) (by kernel_rfl) ⟨rfl, B9.out⟩

set_option maxHeartbeats 1000000 in
theorem StepList_yes (cs : List Nat) (p b l : Nat) (hl : cs.length = 16) (hc : ∀ x ∈ cs, x < 4294967296) (hp : p < 4294967296) (hb : b < 4294967296) (hla : l < 4294967296) (xs ys : List Nat) (hx : ∀ x ∈ xs, x < 4294967296) (hy : ∀ x ∈ ys, x < 4294967296) (hnx : xs.length ≤ 1048576) (hny : ys.length ≤ 1048576) (ga gb : Nat) (Ta Tb : TypeId) (h : listC (okB cs p b l) xs ys = 0) (w : World) (X0 : At w ga (fl xs) Ta) (Y0 : At w gb (fl ys) Tb) :
    Calls Try.prog 16 #[.agg (rd cs p b l), .slice (some ⟨ga, 0, none⟩) xs.length xs.length, .slice (some ⟨gb, 0, none⟩) ys.length ys.length] w fun e w' => e = .returned (.tuple #[.agg (rd (itL p b cs (fun k => nth xs k) (fun k => nth ys k) xs.length) p b l), .float .f32 (itS p b cs (fun k => nth xs k) (fun k => nth ys k) 0 xs.length), .float .f32 (itS p b cs (fun k => nth xs k) (fun k => nth ys k) 16 xs.length), .int .i64 0]) ∧ Below w.heap.size w w' := by
  have lz := listC_zero h
  have ok := OkR.of hl lz.1
  have hox := amtC_zero lz.2.2.2.1
  have hoy := amtC_zero lz.2.2.2.2
  have hN : xs.length ≤ 400 := lz.2.2.1
  have hxy := lz.2.1
  have SZN : (rd (itL p b cs (fun k => nth xs k) (fun k => nth ys k) xs.length) p b l).size = 19 := rd_size (itL_ok ok (fun k => nth xs k) (fun k => nth ys k) xs.length).len p b l
  have R0 : At ((((w.alloc (.cells (rd cs p b l) 28)).alloc (.cells #[.slice (some ⟨ga, 0, none⟩) xs.length xs.length] 41)).alloc (.cells #[.slice (some ⟨gb, 0, none⟩) ys.length ys.length] 41)).alloc (.cells (rd (zeros 16) 0 0 0) 28)) w.heap.size (rd cs p b l) 28 := (((At.new w _ _).alloc _).alloc _).alloc _
  have A0 : At ((((w.alloc (.cells (rd cs p b l) 28)).alloc (.cells #[.slice (some ⟨ga, 0, none⟩) xs.length xs.length] 41)).alloc (.cells #[.slice (some ⟨gb, 0, none⟩) ys.length ys.length] 41)).alloc (.cells (rd (zeros 16) 0 0 0) 28)) (w.heap.size + 1) #[.slice (some ⟨ga, 0, none⟩) xs.length xs.length] 41 := ((At.last1 w _ _ _).alloc _).alloc _
  have C0 : At ((((w.alloc (.cells (rd cs p b l) 28)).alloc (.cells #[.slice (some ⟨ga, 0, none⟩) xs.length xs.length] 41)).alloc (.cells #[.slice (some ⟨gb, 0, none⟩) ys.length ys.length] 41)).alloc (.cells (rd (zeros 16) 0 0 0) 28)) (w.heap.size + 1 + 1) #[.slice (some ⟨gb, 0, none⟩) ys.length ys.length] 41 := (At.last2 w _ _ _ _).alloc _
  have T0 : At ((((w.alloc (.cells (rd cs p b l) 28)).alloc (.cells #[.slice (some ⟨ga, 0, none⟩) xs.length xs.length] 41)).alloc (.cells #[.slice (some ⟨gb, 0, none⟩) ys.length ys.length] 41)).alloc (.cells (rd (zeros 16) 0 0 0) 28)) (w.heap.size + 1 + 1 + 1) (rd (zeros 16) 0 0 0) 28 := by
    have := At.new (((w.alloc (.cells (rd cs p b l) 28)).alloc (.cells #[.slice (some ⟨ga, 0, none⟩) xs.length xs.length] 41)).alloc (.cells #[.slice (some ⟨gb, 0, none⟩) ys.length ys.length] 41)) (rd (zeros 16) 0 0 0) 28
    rwa [World.size_alloc, World.size_alloc, World.size_alloc] at this
  have X1 : At ((((w.alloc (.cells (rd cs p b l) 28)).alloc (.cells #[.slice (some ⟨ga, 0, none⟩) xs.length xs.length] 41)).alloc (.cells #[.slice (some ⟨gb, 0, none⟩) ys.length ys.length] 41)).alloc (.cells (rd (zeros 16) 0 0 0) 28)) ga (fl xs) Ta := (((X0.alloc _).alloc _).alloc _).alloc _
  have Y1 : At ((((w.alloc (.cells (rd cs p b l) 28)).alloc (.cells #[.slice (some ⟨ga, 0, none⟩) xs.length xs.length] 41)).alloc (.cells #[.slice (some ⟨gb, 0, none⟩) ys.length ys.length] 41)).alloc (.cells (rd (zeros 16) 0 0 0) 28)) gb (fl ys) Tb := (((Y0.alloc _).alloc _).alloc _).alloc _
  have B0 := Lib.hid (bnew (bnew (bnew (b0 w (.cells (rd cs p b l) 28)) (.cells #[.slice (some ⟨ga, 0, none⟩) xs.length xs.length] 41)) (.cells #[.slice (some ⟨gb, 0, none⟩) ys.length ys.length] 41)) (.cells (rd (zeros 16) 0 0 0) 28))
  have hmf : ∀ (fn : Fn) (first cap : Array Value) (w : World), (Instr.makeFunc fn first cap).run Try.prog w = .ok (.func fn first cap) w := fun _ _ _ _ => rfl
  have KR := refusalOf_any 35 #[.pointer (some ⟨w.heap.size, 0, none⟩), .pointer (some ⟨(w.heap.size + 1), 0, none⟩), .pointer (some ⟨(w.heap.size + 1 + 1), 0, none⟩)] _ ((((w.alloc (.cells (rd cs p b l) 28)).alloc (.cells #[.slice (some ⟨ga, 0, none⟩) xs.length xs.length] 41)).alloc (.cells #[.slice (some ⟨gb, 0, none⟩) ys.length ys.length] 41)).alloc (.cells (rd (zeros 16) 0 0 0) 28)) (fun _ => by kernel_rfl) fun w1 h1 => listChk_any _ _ _ cs p b l hl hc hp hb hla xs ys hx hy hnx hny ga gb Ta Tb w1 (R0.step h1) (A0.step h1) (C0.step h1) (X1.step h1) (Y1.step h1)
  rw [h] at KR
  have HH := Lib.hid (And.intro hox (And.intro (fun k (hk : k < xs.length) => hoy k (by omega)) (And.intro hN hxy)))
  clear lz h hox hoy hN hxy
  go_enter Try.func16, Try.ntmps16
  go_wp2_with fail
  refine KR.mono ?_
  rintro e' w1 ⟨rfl, hb1⟩
  have R1 := R0.step hb1
  have A1 := A0.step hb1
  have C1 := C0.step hb1
  have T1 := T0.step hb1
  have X2 := X1.step hb1
  have Y2 := Y1.step hb1
  have B1 := Lib.hid (bthen B0.out hb1)
  clear KR R0 A0 C0 T0 X0 Y0 X1 Y1 B0 hb1
  go_wp2
  refine wp_region_held (S := fun w' => At w' w.heap.size (rd cs p b l) 28 ∧ At w' (w.heap.size + 1) #[.slice (some ⟨ga, 0, none⟩) xs.length xs.length] 41 ∧ At w' (w.heap.size + 1 + 1) #[.slice (some ⟨gb, 0, none⟩) ys.length ys.length] 41) (by kernel_rfl) ?_
  show wpAnyH _ _ _ _ _ 14 (Array.replicate 14 false) _ _
  have SS : At { w1 with drawn := w1.drawn + 1 } w.heap.size (rd cs p b l) 28 ∧ At { w1 with drawn := w1.drawn + 1 } (w.heap.size + 1) #[.slice (some ⟨ga, 0, none⟩) xs.length xs.length] 41 ∧ At { w1 with drawn := w1.drawn + 1 } (w.heap.size + 1 + 1) #[.slice (some ⟨gb, 0, none⟩) ys.length ys.length] 41 := ⟨R1, A1, C1⟩
  have T2 : At { w1 with drawn := w1.drawn + 1 } (w.heap.size + 1 + 1 + 1) (rd (zeros 16) 0 0 0) 28 := T1
  have X3 : At { w1 with drawn := w1.drawn + 1 } ga (fl xs) Ta := X2
  have Y3 : At { w1 with drawn := w1.drawn + 1 } gb (fl ys) Tb := Y2
  have B2 : Hid (Below w.heap.size w { w1 with drawn := w1.drawn + 1 }) := Lib.hid ⟨B1.out.1, B1.out.2, B1.out.3, B1.out.4, B1.out.5⟩
  generalize ({ w1 with drawn := w1.drawn + 1 } : World) = w2 at SS T2 X3 Y3 B2 ⊢
  clear R1 A1 C1 T1 X2 Y2 B1
  have L0 : ∀ w', At w' w.heap.size (rd cs p b l) 28 → (Instr.loadAt 28 (.pointer (some ⟨w.heap.size, 0, none⟩))).run Try.prog w' = .ok (.agg (rd cs p b l)) w' := fun w' h => run_load_road hl h
  refine wpAnyH_take (i := 0) (v := .agg (rd cs p b l)) rfl (by kernel_rfl) (by kernel_rfl) (by kernel_rfl) (fun _ _ _ h => h) (yif rfl fun w' hw' => x_load 28 (.tmp 3) rfl _ rfl (L0 w' hw'.1)) (by assumption) ?_
  refine wpAnyH_take (i := 1) (v := .agg (rd cs p b l)) rfl (by kernel_rfl) (by kernel_rfl) (by kernel_rfl) (fun _ _ _ h => h) (yif rfl fun w' hw' => x_load 28 (.tmp 3) rfl _ rfl (L0 w' hw'.1)) (by assumption) ?_
  refine wpAnyH_take (i := 2) (v := .slice (some ⟨ga, 0, none⟩) xs.length xs.length) rfl (by kernel_rfl) (by kernel_rfl) (by kernel_rfl) (fun _ _ _ h => h) (yif rfl fun w' hw' => x_load 41 (.tmp 4) rfl _ rfl (run_load_one w' 41 _ Try.underlying41 rfl _ _ (hw'.2.1.cell (k := 0) rfl))) (by assumption) ?_
  refine wpAnyH_take (i := 3) (v := .slice (some ⟨gb, 0, none⟩) ys.length ys.length) rfl (by kernel_rfl) (by kernel_rfl) (by kernel_rfl) (fun _ _ _ h => h) (yif rfl fun w' hw' => x_load 41 (.tmp 5) rfl _ rfl (run_load_one w' 41 _ Try.underlying41 rfl _ _ (hw'.2.2.cell (k := 0) rfl))) (by assumption) ?_
  refine wpAnyH_all (rs := [4]) (by kernel_rfl) (by simp) fun i' hi' => ?_
  obtain rfl := one_of hi'
  refine op_call (f := 36) (args := #[.agg (rd cs p b l), .slice (some ⟨ga, 0, none⟩) xs.length xs.length, .slice (some ⟨gb, 0, none⟩) ys.length ys.length]) rfl rfl (by kernel_rfl) ((stepsOf_any (rd cs p b l) (rd_size hl p b l) _ _ _ _ _ _ w2).mono ?_)
  rintro e w3 ⟨rfl, hw3⟩
  have hb3 : Below w2.heap.size w2 w3 := by rw [hw3]; exact bnew (bnew (b0 w2 _) _) _
  have G1 : At w3 w2.heap.size (rd cs p b l) 28 := by rw [hw3]; exact ((At.new w2 _ _).alloc _).alloc _
  have G2 : At w3 (w2.heap.size + 1) #[.slice (some ⟨ga, 0, none⟩) xs.length xs.length] 41 := by rw [hw3]; exact (At.last1 w2 _ _ _).alloc _
  have G3 : At w3 (w2.heap.size + 1 + 1) #[.slice (some ⟨gb, 0, none⟩) ys.length ys.length] 41 := by rw [hw3]; exact At.last2 w2 _ _ _ _
  clear hw3
  have SS3 := And.intro (SS.1.step hb3) (And.intro (SS.2.1.step hb3) (SS.2.2.step hb3))
  refine ⟨_, rfl, SS3, ?_⟩
  rw [← HH.out.2.2.2] at G3
  have SQ := steps_seq cs p b l ok (fun k => nth xs k) (fun k => nth ys k) xs.length HH.out.2.2.1 HH.out.1 HH.out.2.1 _ _ _ ga gb _ _ _ _ (fun k hk => fl_get hk) (fun k hk => fl_get (by rw [← HH.out.2.2.2]; exact hk)) w3 G1 G2 G3 (X3.step hb3) (Y3.step hb3)
  refine wpAnyH_all (rs := [5]) (by kernel_rfl) (by simp) fun i' hi' => ?_
  obtain rfl := one_of hi'
  refine op_call (f := 33) (args := #[.agg (rd cs p b l), .func (.func 54) #[] #[.pointer (some ⟨w2.heap.size, 0, none⟩), .pointer (some ⟨(w2.heap.size + 1), 0, none⟩), .pointer (some ⟨(w2.heap.size + 1 + 1), 0, none⟩)]]) rfl rfl (by kernel_rfl) ((sumOfSteps_any cs p b l ok (fun k => nth xs k) (fun k => nth ys k) xs.length _ w3 SQ).mono ?_)
  rintro e w4 ⟨rfl, hb4⟩
  have SS4 := And.intro (SS3.1.step hb4) (And.intro (SS3.2.1.step hb4) (SS3.2.2.step hb4))
  have T4 := (T2.step hb3).step hb4
  have B4 := Lib.hid (bthen (bthen B2.out hb3) hb4)
  refine ⟨_, rfl, SS4, ?_⟩
  clear SQ G1 G2 G3 SS SS3 T2 X3 Y3 B2 hb3 hb4
  refine wpAnyH_take (i := 6) (v := .agg (rd (itL p b cs (fun k => nth xs k) (fun k => nth ys k) xs.length) p b l)) rfl (by kernel_rfl) (by kernel_rfl) (by kernel_rfl) (fun _ _ _ h => h) (yif rfl fun w' hw' => by kernel_rfl) (by assumption) ?_
  refine wpAnyH_take (i := 7) (v := .float .f32 (itS p b cs (fun k => nth xs k) (fun k => nth ys k) 0 xs.length)) rfl (by kernel_rfl) (by kernel_rfl) (by kernel_rfl) (fun _ _ _ h => h) (yif rfl fun w' hw' => by kernel_rfl) (by assumption) ?_
  refine wpAnyH_take (i := 8) (v := .float .f32 (itS p b cs (fun k => nth xs k) (fun k => nth ys k) 16 xs.length)) rfl (by kernel_rfl) (by kernel_rfl) (by kernel_rfl) (fun _ _ _ h => h) (yif rfl fun w' hw' => by kernel_rfl) (by assumption) ?_
  refine wpAnyH_take (i := 9) (v := .int .i64 0) rfl (by kernel_rfl) (by kernel_rfl) (by kernel_rfl) (fun _ _ _ h => h) (yif rfl fun w' hw' => by kernel_rfl) (by assumption) ?_
  have T5 := T4.setRow (rd (itL p b cs (fun k => nth xs k) (fun k => nth ys k) xs.length) p b l)
  have SS5 := And.intro (SS4.1.setRow_other (k := w.heap.size + 1 + 1 + 1) (by omega) (rd (itL p b cs (fun k => nth xs k) (fun k => nth ys k) xs.length) p b l)) (And.intro (SS4.2.1.setRow_other (k := w.heap.size + 1 + 1 + 1) (by omega) (rd (itL p b cs (fun k => nth xs k) (fun k => nth ys k) xs.length) p b l)) (SS4.2.2.setRow_other (k := w.heap.size + 1 + 1 + 1) (by omega) (rd (itL p b cs (fun k => nth xs k) (fun k => nth ys k) xs.length) p b l)))
  have B5 := Lib.hid (bset B4.out (g := w.heap.size + 1 + 1 + 1) (by omega) (rd (itL p b cs (fun k => nth xs k) (fun k => nth ys k) xs.length) p b l))
  refine wpAnyH_all (rs := [10]) (by kernel_rfl) (by simp) fun i' hi' => ?_
  obtain rfl := one_of hi'
  refine op_skip rfl rfl (store_fresh (ty := 28) (d := 6) (s := 23) rfl 19 SZN (rd_size (zeros_len 16) _ _ _) (by kernel_rfl) (fl_one _) _ w4 (w.heap.size + 1 + 1 + 1) (by kernel_rfl) (by kernel_rfl) T4) ⟨SS5, ?_⟩
  refine wpAnyH_take (i := 11) (v := .float .f32 (itS p b cs (fun k => nth xs k) (fun k => nth ys k) 0 xs.length)) rfl (by kernel_rfl) (by kernel_rfl) (by kernel_rfl) (fun _ _ _ h => h) (yif rfl fun w' hw' => by kernel_rfl) (by assumption) ?_
  refine wpAnyH_take (i := 12) (v := .float .f32 (itS p b cs (fun k => nth xs k) (fun k => nth ys k) 16 xs.length)) rfl (by kernel_rfl) (by kernel_rfl) (by kernel_rfl) (fun _ _ _ h => h) (yif rfl fun w' hw' => by kernel_rfl) (by assumption) ?_
  refine wpAnyH_take (i := 13) (v := .int .i64 0) rfl (by kernel_rfl) (by kernel_rfl) (by kernel_rfl) (fun _ _ _ h => h) (yif rfl fun w' hw' => by kernel_rfl) (by assumption) ?_
  refine wpAnyH_done (by kernel_rfl) ?_ _
  clear T4 SS4 SS5 B4
  generalize w4.setRow (w.heap.size + 1 + 1 + 1) (rd (itL p b cs (fun k => nth xs k) (fun k => nth ys k) xs.length) p b l) = w5 at T5 B5 ⊢
  generalize hA : Act.put _ _ _ = A
  have HA := Lib.hid hA
  clear hA
  go_wp2
  have hA := HA.out
  subst hA
  exact bodyPost_ret (v := .tuple #[.agg (rd (itL p b cs (fun k => nth xs k) (fun k => nth ys k) xs.length) p b l), .float .f32 (itS p b cs (fun k => nth xs k) (fun k => nth ys k) 0 xs.length), .float .f32 (itS p b cs (fun k => nth xs k) (fun k => nth ys k) 16 xs.length), .int .i64 0]) (results_at3 (p := 6) (ty := 28) rfl _ _ _ (rd (itL p b cs (fun k => nth xs k) (fun k => nth ys k) xs.length) p b l) _ _ _ _ (by kernel_rfl) (by kernel_rfl) (by kernel_rfl) (by kernel_rfl) T5 _ Try.underlying28 rfl 19 (SZN) (by kernel_rfl)) (by kernel_rfl) ⟨rfl, B5.out⟩

def vStepList (cs : List Nat) (p b l : Nat) (xs ys : List Nat) : List Nat × Nat × Nat × Nat × Nat × Nat × Int := if listC (okB cs p b l) xs ys = 0 then (itL p b cs (fun k => nth xs k) (fun k => nth ys k) xs.length, p, b, l, itS p b cs (fun k => nth xs k) (fun k => nth ys k) 0 xs.length, itS p b cs (fun k => nth xs k) (fun k => nth ys k) 16 xs.length, 0) else (zeros 16, 0, 0, 0, 0, 0, listC (okB cs p b l) xs ys)

theorem StepList_any (cs : List Nat) (p b l : Nat) (hl : cs.length = 16) (hc : ∀ x ∈ cs, x < 4294967296) (hp : p < 4294967296) (hb : b < 4294967296) (hla : l < 4294967296) (xs ys : List Nat) (hx : ∀ x ∈ xs, x < 4294967296) (hy : ∀ x ∈ ys, x < 4294967296) (hnx : xs.length ≤ 1048576) (hny : ys.length ≤ 1048576) (ga gb : Nat) (Ta Tb : TypeId) (w : World) (X0 : At w ga (fl xs) Ta) (Y0 : At w gb (fl ys) Tb) :
    Calls Try.prog 16 #[.agg (rd cs p b l), .slice (some ⟨ga, 0, none⟩) xs.length xs.length, .slice (some ⟨gb, 0, none⟩) ys.length ys.length] w fun e w' => e = .returned (.tuple #[.agg (rd (vStepList cs p b l xs ys).1 (vStepList cs p b l xs ys).2.1 (vStepList cs p b l xs ys).2.2.1 (vStepList cs p b l xs ys).2.2.2.1), .float .f32 (vStepList cs p b l xs ys).2.2.2.2.1, .float .f32 (vStepList cs p b l xs ys).2.2.2.2.2.1, .int .i64 (vStepList cs p b l xs ys).2.2.2.2.2.2]) ∧ Below w.heap.size w w' := by
  by_cases h : listC (okB cs p b l) xs ys = 0
  · have e : (vStepList cs p b l xs ys) = (itL p b cs (fun k => nth xs k) (fun k => nth ys k) xs.length, p, b, l, itS p b cs (fun k => nth xs k) (fun k => nth ys k) 0 xs.length, itS p b cs (fun k => nth xs k) (fun k => nth ys k) 16 xs.length, 0) := by unfold vStepList; rw [if_pos h]
    rw [e]
    exact StepList_yes cs p b l hl hc hp hb hla xs ys hx hy hnx hny ga gb Ta Tb h w X0 Y0
  · have e : (vStepList cs p b l xs ys) = (zeros 16, 0, 0, 0, 0, 0, listC (okB cs p b l) xs ys) := by unfold vStepList; rw [if_neg h]
    rw [e]
    exact StepList_no cs p b l hl hc hp hb hla xs ys hx hy hnx hny ga gb Ta Tb h w X0 Y0

end Go.Proofs.Ytapnkkbkhifmeaa
