/-
  CONTRACTS: the steps with the same numbers, as a function.
-/
import Derived.Test.YtchcikfjbpcalaaG8
namespace Go.Proofs.Ytchcikfjbpcalaa
open Go Go.RowKit Go.Shelf
set_option maxRecDepth 100000

theorem run_load_road {w : World} {g : Nat} {cs : List Nat} {p b l : Nat} (hl : cs.length = 16) (h : At w g (rd cs p b l) 28) : (Instr.loadAt 28 (.pointer (some ⟨g, 0, none⟩))).run Try.prog w = .ok (.agg (rd cs p b l)) w := by
  have := run_loadAt_part (P := Try.prog) w g 0 19 28 (rd cs p b l) 28 (0, 0) _ h Try.underlying28 rfl (by kernel_rfl) (by rw [rd_size hl]; omega)
  rwa [Nat.zero_add, ← rd_size hl p b l, Array.extract_size] at this
/-- what the function that is made has at hand -/
def Ready (w : World) (lb : Array Value) (cs : List Nat) (p b l o m n : Nat) : Prop :=
  ∃ g1 g2 g3 go gm : Nat, lb = #[.pointer (some ⟨g1, 0, none⟩), .pointer (some ⟨g2, 0, none⟩), .pointer (some ⟨g3, 0, none⟩)] ∧ At w g1 (rd cs p b l) 28 ∧ At w g2 #[.slice (some ⟨go, 0, none⟩) n n] 76 ∧ At w g3 #[.slice (some ⟨gm, 0, none⟩) n n] 76 ∧ At w go (fl (List.replicate 400 o)) 100 ∧ At w gm (fl (List.replicate 400 m)) 100
theorem steadySteps_any (cs : List Nat) (p b l : Nat) (hl : cs.length = 16) (o m n : Nat) (hn : n ≤ 400) (w : World) :
    Calls Try.prog 59 #[.agg (rd cs p b l), .float .f32 o, .float .f32 m, .int .i64 n] w fun e w' => (∃ lb, e = .returned (.func (.func 72) #[] lb) ∧ Ready w' lb cs p b l o m n) ∧ Below w.heap.size w w' := by
  have A0 := At.new w (rd cs p b l) 28
  have B0 := Lib.hid (b0 w (.cells (rd cs p b l) 28))
  have SZ := rd_size hl p b l
  go_enter Try.func59, Try.ntmps59
  go_wp2
  generalize w.alloc (.cells (rd cs p b l) 28) = w0 at A0 B0 ⊢
  have L0 : ∀ w', At w' w.heap.size (rd cs p b l) 28 → (Instr.loadAt 28 (.pointer (some ⟨w.heap.size, 0, none⟩))).run Try.prog w' = .ok (.agg (rd cs p b l)) w' := fun w' h => run_load_road hl h
  refine wp_region_held (S := fun w' => At w' w.heap.size (rd cs p b l) 28) (by kernel_rfl) ?_
  show wpAnyH _ _ _ _ _ 9 (Array.replicate 9 false) _ _
  have A0' : At { w0 with drawn := w0.drawn + 1 } w.heap.size (rd cs p b l) 28 := A0
  generalize hw1 : ({ w0 with drawn := w0.drawn + 1 } : World) = w1 at A0' ⊢
  have B1 : Hid (Below w.heap.size w w1) := Lib.hid (by rw [← hw1]; exact ⟨B0.out.1, B0.out.2, B0.out.3, B0.out.4, B0.out.5⟩)
  clear hw1 A0 B0
  have A0 := A0'
  clear A0'
  refine wpAnyH_take (i := 0) (v := .agg (rd cs p b l)) rfl (by kernel_rfl) (by kernel_rfl) (by kernel_rfl) (fun _ _ _ h => h) (yif rfl fun w' hw' => x_load 28 (.tmp 4) rfl _ rfl (L0 w' hw')) A0 ?_
  refine wpAnyH_take (i := 1) (v := .float .f32 o) rfl (by kernel_rfl) (by kernel_rfl) (by kernel_rfl) (fun _ _ _ h => h) (yif rfl fun w' hw' => x_move (.tmp 1) rfl) A0 ?_
  refine wpAnyH_take (i := 2) (v := .int .i64 n) rfl (by kernel_rfl) (by kernel_rfl) (by kernel_rfl) (fun _ _ _ h => h) (yif rfl fun w' hw' => x_move (.tmp 3) rfl) A0 ?_
  refine wpAnyH_take (i := 4) (v := .float .f32 m) rfl (by kernel_rfl) (by kernel_rfl) (by kernel_rfl) (fun _ _ _ h => h) (yif rfl fun w' hw' => x_move (.tmp 2) rfl) A0 ?_
  refine wpAnyH_take (i := 5) (v := .int .i64 n) rfl (by kernel_rfl) (by kernel_rfl) (by kernel_rfl) (fun _ _ _ h => h) (yif rfl fun w' hw' => x_move (.tmp 3) rfl) A0 ?_
  refine wpAnyH_all (rs := [3]) (by kernel_rfl) (by simp) fun i hi => ?_
  obtain rfl := one_of hi
  refine op_call (f := 70) (args := #[.float .f32 o, .int .i64 n]) rfl rfl (by kernel_rfl) ((repeated_any o n hn w1).mono ?_)
  rintro e w2 ⟨rfl, hs2, G2, hb2⟩
  refine ⟨_, rfl, A0.step hb2, ?_⟩
  refine wpAnyH_all (rs := [6]) (by kernel_rfl) (by simp) fun i hi => ?_
  obtain rfl := one_of hi
  refine op_call (f := 70) (args := #[.float .f32 m, .int .i64 n]) rfl rfl (by kernel_rfl) ((repeated_any m n hn w2).mono ?_)
  rintro e w3 ⟨rfl, hs3, G3, hb3⟩
  refine ⟨_, rfl, (A0.step hb2).step hb3, ?_⟩
  refine wpAnyH_all (rs := [7]) (by kernel_rfl) (by simp) fun i hi => ?_
  obtain rfl := one_of hi
  refine op_call (f := 69) (args := #[.agg (rd cs p b l), .slice (some ⟨w1.heap.size, 0, none⟩) n n, .slice (some ⟨w2.heap.size, 0, none⟩) n n]) rfl rfl (by kernel_rfl) ((stepsOf_any (rd cs p b l) SZ _ _ _ _ _ _ w3).mono ?_)
  rintro e w4 ⟨rfl, rfl⟩
  have hb4 : Below w3.heap.size w3 (((w3.alloc (.cells (rd cs p b l) 28)).alloc (.cells #[.slice (some ⟨w1.heap.size, 0, none⟩) n n] 76)).alloc (.cells #[.slice (some ⟨w2.heap.size, 0, none⟩) n n] 76)) := bnew (bnew (b0 w3 _) _) _
  refine ⟨_, rfl, ((A0.step hb2).step hb3).step hb4, ?_⟩
  refine wpAnyH_all (rs := [8]) (by kernel_rfl) (by simp) fun i hi => ?_
  obtain rfl := one_of hi
  refine op_value rfl rfl (x_assign (.tmp 16) rfl) ⟨((A0.step hb2).step hb3).step hb4, ?_⟩
  refine wpAnyH_done (by kernel_rfl) ?_ _
  have RDY : Ready (((w3.alloc (.cells (rd cs p b l) 28)).alloc (.cells #[.slice (some ⟨w1.heap.size, 0, none⟩) n n] 76)).alloc (.cells #[.slice (some ⟨w2.heap.size, 0, none⟩) n n] 76)) #[.pointer (some ⟨w3.heap.size, 0, none⟩), .pointer (some ⟨(w3.heap.size + 1), 0, none⟩), .pointer (some ⟨(w3.heap.size + 1 + 1), 0, none⟩)] cs p b l o m n :=
    ⟨_, _, _, w1.heap.size, w2.heap.size, rfl, ((At.new w3 _ _).alloc _).alloc _, (At.last1 w3 _ _ _).alloc _, At.last2 w3 _ _ _ _, (G2.step hb3).step hb4, G3.step hb4⟩
  have BB := Lib.hid (bthen (bthen (bthen B1.out hb2) hb3) hb4)
  have RR := Lib.hid RDY
  clear RDY hb2 hb3 hb4 G2 G3 A0 B1
  clear hs2 hs3
  generalize hA : Act.put _ _ _ = A
  have eA : A = { tmps := #[.agg (rd cs p b l), .float .f32 o, .float .f32 m, .int .i64 n, .pointer (some ⟨w.heap.size, 0, none⟩), undef, undef, undef, .func (.func 72) #[] #[.pointer (some ⟨w3.heap.size, 0, none⟩), .pointer (some ⟨(w3.heap.size + 1), 0, none⟩), .pointer (some ⟨(w3.heap.size + 1 + 1), 0, none⟩)], .agg (rd cs p b l), .float .f32 o, .int .i64 n, .slice (some ⟨w1.heap.size, 0, none⟩) n n, .float .f32 m, .int .i64 n, .slice (some ⟨w2.heap.size, 0, none⟩) n n, .func (.func 72) #[] #[.pointer (some ⟨w3.heap.size, 0, none⟩), .pointer (some ⟨(w3.heap.size + 1), 0, none⟩), .pointer (some ⟨(w3.heap.size + 1 + 1), 0, none⟩)]], defers := [] } := by rw [← hA]; kernel_rfl
  clear hA
  subst eA
  generalize ((w3.alloc (.cells (rd cs p b l) 28)).alloc (.cells #[.slice (some ⟨w1.heap.size, 0, none⟩) n n] 76)).alloc (.cells #[.slice (some ⟨w2.heap.size, 0, none⟩) n n] 76) = w4 at BB RR ⊢
  go_wp2
  go_ret
  exact ⟨⟨_, rfl, RR.out⟩, BB.out⟩
end Go.Proofs.Ytchcikfjbpcalaa
