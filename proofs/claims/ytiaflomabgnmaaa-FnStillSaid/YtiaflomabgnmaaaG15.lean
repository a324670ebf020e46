/-
  SEVERAL TEXTS IN ONE.
-/
import Derived.Test.YtiaflomabgnmaaaG11
import Derived.BigQuiet
import Derived.Test.YtiaflomabgnmaaaG12
import Derived.Test.YtiaflomabgnmaaaRes
import Derived.Test.YtiaflomabgnmaaaIterator
import Derived.Test.YtiaflomabgnmaaaG13

/-
  CONTRACTS: FluxesOf.
-/
namespace Go.Proofs.Ytiaflomabgnmaaa
open Go Go.RowKit
set_option maxRecDepth 100000

def vFluxesOf (cs : List Nat) (p b l o m : Nat) : List Nat × Int := if givenC (okB cs p b l) o m = 0 then (fluxL p b cs o m, 0) else (zeros 17, givenC (okB cs p b l) o m)

theorem given_zero {ok : Bool} {o m : Nat} (h : givenC ok o m = 0) : ok = true ∧ o < 2139095040 ∧ m < 2139095040 := by
  unfold givenC at h
  cases ok
  · simp at h
  · cases c1 : amtB o
    · rw [c1] at h; simp at h
    · cases c2 : amtB m
      · rw [c1, c2] at h; simp at h
      · unfold amtB at c1 c2; simp at c1 c2; exact ⟨rfl, c1, c2⟩

theorem vFluxesOf_good {cs : List Nat} (hl : cs.length = 16) (p b l o m : Nat) : (vFluxesOf cs p b l o m).1.length = 17 ∧ ∀ x ∈ (vFluxesOf cs p b l o m).1, x < 4294967296 ∧ nanB x = false := by
  unfold vFluxesOf
  by_cases h : givenC (okB cs p b l) o m = 0
  · rw [if_pos h]
    have ok := OkR.of hl (given_zero h).1
    exact ⟨fluxL_len _ _ _ _ _, fun x hx => nan_le (fluxL_le ok o m x hx) (by omega)⟩
  · rw [if_neg h]
    exact ⟨zeros_len _, fun x hx => by obtain rfl := List.eq_of_mem_replicate hx; decide⟩

end Go.Proofs.Ytiaflomabgnmaaa

/-
  CONTRACTS: several steps, the model's.
-/
namespace Go.Proofs.Ytiaflomabgnmaaa
open Go Go.RowKit
set_option maxRecDepth 100000


end Go.Proofs.Ytiaflomabgnmaaa

/-
  CONTRACTS: the function that hands the steps on, made; the model's one step.
-/
namespace Go.Proofs.Ytiaflomabgnmaaa
open Go Go.RowKit Go.Shelf
set_option maxRecDepth 100000

theorem stepsOf_any (c : Array Value) (_hz : c.size = 19) (p1 p2 : Option Addr) (n1 c1 n2 c2 : Nat) (w : World) :
    Calls Try.prog 40 #[.agg c, .slice p1 n1 c1, .slice p2 n2 c2] w fun e w' => e = .returned (.func (.func 45) #[] #[.pointer (some ⟨w.heap.size, 0, none⟩), .pointer (some ⟨(w.heap.size + 1), 0, none⟩), .pointer (some ⟨(w.heap.size + 1 + 1), 0, none⟩)]) ∧ w' = (((w.alloc (.cells c 28)).alloc (.cells #[.slice p1 n1 c1] 69)).alloc (.cells #[.slice p2 n2 c2] 69)) := by
  have hmf : ∀ (fn : Fn) (first cap : Array Value) (w : World), (Instr.makeFunc fn first cap).run Try.prog w = .ok (.func fn first cap) w := fun _ _ _ _ => rfl
  go_enter Try.func40, Try.ntmps40
  go_wp2
  go_ret
  exact ⟨rfl, rfl⟩

end Go.Proofs.Ytiaflomabgnmaaa

/-
  CONTRACTS: a number many times.
-/
namespace Go.Proofs.Ytiaflomabgnmaaa
open Go Go.RowKit
set_option maxRecDepth 100000

theorem repeated_any (a n : Nat) (hn : n ≤ 400) (w : World) :
    Calls Try.prog 41 #[.float .f32 a, .int .i64 n] w fun e w' => e = .returned (.slice (some ⟨w.heap.size, 0, none⟩) n n) ∧ w'.heap.size = w.heap.size + 1 ∧ At w' w.heap.size (fl (List.replicate 400 a)) 81 ∧ Below w.heap.size w w' := by
  have A0 : At (w.alloc (.cells (fl (zeros 400)) 81)) w.heap.size (fl (zeros 400)) 81 := At.new w _ _
  have B0 := Lib.hid (b0 w (.cells (fl (zeros 400)) 81))
  have S0 : (w.alloc (.cells (fl (zeros 400)) 81)).heap.size = w.heap.size + 1 := World.size_alloc _ _
  have hz : ∀ w, (zeroValue 81).run Try.prog w = .ok (.agg (fl (zeros 400))) w := fun w => by kernel_rfl
  go_enter Try.func41, Try.ntmps41
  go_wp2
  have BB0 := B0
  go_loopw [7] (fun i wr => ∃ k : Nat, k ≤ 400 ∧ i = .int .i64 k ∧ At wr w.heap.size (fl (mixTo (List.replicate 400 a) (zeros 400) k)) 81 ∧ wr.heap.size = w.heap.size + 1 ∧ Hid (Below w.heap.size w wr)) (fun i _ => 400 - (intOf i).toNat)
  case atStart => exact ⟨0, by omega, rfl, by rw [mixTo_zero]; exact A0, S0, BB0⟩
  case round =>
    obtain ⟨k, hk, rfl, A4, S4, B4⟩ := hrel
    clear A0 S0 B0 BB0
    have hr := List.length_replicate (n := 400) (a := a)
    have hM := mixTo_len hr (zeros_len 400) hk
    by_cases hlt : k < 400
    · have hki : (k : Int) < 400 := by omega
      have s2 : IntKind.i64.wrap ((k : Int) + 1) = (k : Int) + 1 := IntWalk.i64_in _ (by omega)
      have G := run_store_one (P := Try.prog) wr w.heap.size k 81 (fl (mixTo (List.replicate 400 a) (zeros 400) k)) (.float .f32 a) A4 (by rw [fl_size, hM]; omega) rfl
      have ea : nth (List.replicate 400 a) k = a := by unfold nth; rw [List.getD_eq_getElem?_getD, List.getElem?_replicate, if_pos hlt]; rfl
      have e1 : ((mixTo (List.replicate 400 a) (zeros 400) k).set k a) = mixTo (List.replicate 400 a) (zeros 400) (k + 1) := by rw [← mixTo_set hr (zeros_len 400) hlt, ea]
      rw [fl_set, e1] at G
      have A6 := A4.setRow (fl (mixTo (List.replicate 400 a) (zeros 400) (k + 1)))
      have S6 : (wr.setRow w.heap.size (fl (mixTo (List.replicate 400 a) (zeros 400) (k + 1)))).heap.size = w.heap.size + 1 := by simpa using S4
      have B6 := Lib.hid (bset B4.out (g := w.heap.size) (Nat.le_refl _) (fl (mixTo (List.replicate 400 a) (zeros 400) (k + 1))))
      clear A4 S4 B4 hM hr ea e1
      go_wp2
      exact ⟨⟨k + 1, by omega, by go_num, A6, S6, B6⟩, by simp [intOf]; omega⟩
    · obtain rfl : k = 400 := by omega
      rw [mixTo_all hr (zeros_len 400)] at A4
      clear hM hr
      have hn0 : (0 : Int) ≤ (n : Int) := by omega
      have hn4 : (n : Int) ≤ ((Try.prog.arrayLen 81 : Nat) : Int) := by rw [show Try.prog.arrayLen 81 = 400 by kernel_rfl]; omega
      have hsl : ∀ w', (Instr.sliceAt 81 (.pointer (some ⟨w.heap.size, 0, none⟩)) none (some (.int .i64 n)) (some (.int .i64 n))).run Try.prog w' = .ok (.slice (some ⟨w.heap.size, 0, none⟩) n n) w' := fun w' => by
        rw [run_sliceAt_array_hm w' 81 ⟨w.heap.size, 0, none⟩ (by kernel_rfl) .i64 .i64 n n hn0 (Int.le_refl _) hn4]
        rw [show (sizeOf (Try.prog.elem 81)).run Try.prog w' = .ok 1 w' by kernel_rfl]
        simp only [Result.andThen, slicedAt, Int.toNat_natCast, Nat.sub_zero]
        by_cases h0 : n = 0
        · subst h0; rfl
        · rw [if_neg h0]; rfl
      go_wp2
      go_ret
      exact ⟨rfl, S4, A4, B4.out⟩
end Go.Proofs.Ytiaflomabgnmaaa

/-
  CONTRACTS: the steps with the same numbers, as a function.
-/
namespace Go.Proofs.Ytiaflomabgnmaaa
open Go Go.RowKit Go.Shelf
set_option maxRecDepth 100000

theorem run_load_road {w : World} {g : Nat} {cs : List Nat} {p b l : Nat} (hl : cs.length = 16) (h : At w g (rd cs p b l) 28) : (Instr.loadAt 28 (.pointer (some ⟨g, 0, none⟩))).run Try.prog w = .ok (.agg (rd cs p b l)) w := by
  have := run_loadAt_part (P := Try.prog) w g 0 19 28 (rd cs p b l) 28 (0, 0) _ h Try.underlying28 rfl (by kernel_rfl) (by rw [rd_size hl]; omega)
  rwa [Nat.zero_add, ← rd_size hl p b l, Array.extract_size] at this

/-- what the function that is made has at hand -/
def Ready (w : World) (lb : Array Value) (cs : List Nat) (p b l o m n : Nat) : Prop :=
  ∃ g1 g2 g3 go gm : Nat, lb = #[.pointer (some ⟨g1, 0, none⟩), .pointer (some ⟨g2, 0, none⟩), .pointer (some ⟨g3, 0, none⟩)] ∧ At w g1 (rd cs p b l) 28 ∧ At w g2 #[.slice (some ⟨go, 0, none⟩) n n] 69 ∧ At w g3 #[.slice (some ⟨gm, 0, none⟩) n n] 69 ∧ At w go (fl (List.replicate 400 o)) 81 ∧ At w gm (fl (List.replicate 400 m)) 81

theorem steadySteps_any (cs : List Nat) (p b l : Nat) (hl : cs.length = 16) (o m n : Nat) (hn : n ≤ 400) (w : World) :
    Calls Try.prog 24 #[.agg (rd cs p b l), .float .f32 o, .float .f32 m, .int .i64 n] w fun e w' => (∃ lb, e = .returned (.func (.func 45) #[] lb) ∧ Ready w' lb cs p b l o m n) ∧ Below w.heap.size w w' := by
  have A0 := At.new w (rd cs p b l) 28
  have B0 := Lib.hid (b0 w (.cells (rd cs p b l) 28))
  have SZ := rd_size hl p b l
  go_enter Try.func24, Try.ntmps24
  go_wp2
  generalize w.alloc (.cells (rd cs p b l) 28) = w0 at A0 B0 ⊢
  have L0 : ∀ w', At w' w.heap.size (rd cs p b l) 28 → (Instr.loadAt 28 (.pointer (some ⟨w.heap.size, 0, none⟩))).run Try.prog w' = .ok (.agg (rd cs p b l)) w' := fun w' h => run_load_road hl h
  refine wp_region_held (S := fun w' => At w' w.heap.size (rd cs p b l) 28) (by kernel_rfl) ?_
  show wpAnyH _ _ _ _ _ 9 (Array.replicate 9 false) _ _
  have A0' : At { w0 with drawn := w0.drawn + 1 } w.heap.size (rd cs p b l) 28 := A0
  generalize hw1 : ({ w0 with drawn := w0.drawn + 1 } : World) = w1 at A0' ⊢
  have B1 : Hid (Below w.heap.size w w1) := Lib.hid (by rw [← hw1]; exact ⟨B0.out.1, B0.out.2, B0.out.3, B0.out.4, B0.out.5⟩)
  clear hw1 A0 B0
  have A0 := A0'
  clear A0'
  refine wpAnyH_take (i := 0) (v := .agg (rd cs p b l)) rfl (by kernel_rfl) (by kernel_rfl) (by kernel_rfl) (fun _ _ _ h => h) (yif rfl fun w' hw' => x_load 28 (.tmp 4) rfl _ rfl (L0 w' hw')) A0 ?_
  refine wpAnyH_take (i := 1) (v := .float .f32 o) rfl (by kernel_rfl) (by kernel_rfl) (by kernel_rfl) (fun _ _ _ h => h) (yif rfl fun w' hw' => x_move (.tmp 1) rfl) A0 ?_
  refine wpAnyH_take (i := 2) (v := .int .i64 n) rfl (by kernel_rfl) (by kernel_rfl) (by kernel_rfl) (fun _ _ _ h => h) (yif rfl fun w' hw' => x_move (.tmp 3) rfl) A0 ?_
  refine wpAnyH_take (i := 4) (v := .float .f32 m) rfl (by kernel_rfl) (by kernel_rfl) (by kernel_rfl) (fun _ _ _ h => h) (yif rfl fun w' hw' => x_move (.tmp 2) rfl) A0 ?_
  refine wpAnyH_take (i := 5) (v := .int .i64 n) rfl (by kernel_rfl) (by kernel_rfl) (by kernel_rfl) (fun _ _ _ h => h) (yif rfl fun w' hw' => x_move (.tmp 3) rfl) A0 ?_
  refine wpAnyH_all (rs := [3]) (by kernel_rfl) (by simp) fun i hi => ?_
  obtain rfl := one_of hi
  refine op_call (f := 41) (args := #[.float .f32 o, .int .i64 n]) rfl rfl (by kernel_rfl) ((repeated_any o n hn w1).mono ?_)
  rintro e w2 ⟨rfl, hs2, G2, hb2⟩
  refine ⟨_, rfl, A0.step hb2, ?_⟩
  refine wpAnyH_all (rs := [6]) (by kernel_rfl) (by simp) fun i hi => ?_
  obtain rfl := one_of hi
  refine op_call (f := 41) (args := #[.float .f32 m, .int .i64 n]) rfl rfl (by kernel_rfl) ((repeated_any m n hn w2).mono ?_)
  rintro e w3 ⟨rfl, hs3, G3, hb3⟩
  refine ⟨_, rfl, (A0.step hb2).step hb3, ?_⟩
  refine wpAnyH_all (rs := [7]) (by kernel_rfl) (by simp) fun i hi => ?_
  obtain rfl := one_of hi
  refine op_call (f := 40) (args := #[.agg (rd cs p b l), .slice (some ⟨w1.heap.size, 0, none⟩) n n, .slice (some ⟨w2.heap.size, 0, none⟩) n n]) rfl rfl (by kernel_rfl) ((stepsOf_any (rd cs p b l) SZ _ _ _ _ _ _ w3).mono ?_)
  rintro e w4 ⟨rfl, rfl⟩
  have hb4 : Below w3.heap.size w3 (((w3.alloc (.cells (rd cs p b l) 28)).alloc (.cells #[.slice (some ⟨w1.heap.size, 0, none⟩) n n] 69)).alloc (.cells #[.slice (some ⟨w2.heap.size, 0, none⟩) n n] 69)) := bnew (bnew (b0 w3 _) _) _
  refine ⟨_, rfl, ((A0.step hb2).step hb3).step hb4, ?_⟩
  refine wpAnyH_all (rs := [8]) (by kernel_rfl) (by simp) fun i hi => ?_
  obtain rfl := one_of hi
  refine op_value rfl rfl (x_assign (.tmp 16) rfl) ⟨((A0.step hb2).step hb3).step hb4, ?_⟩
  refine wpAnyH_done (by kernel_rfl) ?_ _
  have RDY : Ready (((w3.alloc (.cells (rd cs p b l) 28)).alloc (.cells #[.slice (some ⟨w1.heap.size, 0, none⟩) n n] 69)).alloc (.cells #[.slice (some ⟨w2.heap.size, 0, none⟩) n n] 69)) #[.pointer (some ⟨w3.heap.size, 0, none⟩), .pointer (some ⟨(w3.heap.size + 1), 0, none⟩), .pointer (some ⟨(w3.heap.size + 1 + 1), 0, none⟩)] cs p b l o m n :=
    ⟨_, _, _, w1.heap.size, w2.heap.size, rfl, ((At.new w3 _ _).alloc _).alloc _, (At.last1 w3 _ _ _).alloc _, At.last2 w3 _ _ _ _, (G2.step hb3).step hb4, G3.step hb4⟩
  have BB := Lib.hid (bthen (bthen (bthen B1.out hb2) hb3) hb4)
  have RR := Lib.hid RDY
  clear RDY hb2 hb3 hb4 G2 G3 A0 B1
  clear hs2 hs3
  generalize hA : Act.put _ _ _ = A
  have eA : A = { tmps := #[.agg (rd cs p b l), .float .f32 o, .float .f32 m, .int .i64 n, .pointer (some ⟨w.heap.size, 0, none⟩), undef, undef, undef, .func (.func 45) #[] #[.pointer (some ⟨w3.heap.size, 0, none⟩), .pointer (some ⟨(w3.heap.size + 1), 0, none⟩), .pointer (some ⟨(w3.heap.size + 1 + 1), 0, none⟩)], .agg (rd cs p b l), .float .f32 o, .int .i64 n, .slice (some ⟨w1.heap.size, 0, none⟩) n n, .float .f32 m, .int .i64 n, .slice (some ⟨w2.heap.size, 0, none⟩) n n, .func (.func 45) #[] #[.pointer (some ⟨w3.heap.size, 0, none⟩), .pointer (some ⟨(w3.heap.size + 1), 0, none⟩), .pointer (some ⟨(w3.heap.size + 1 + 1), 0, none⟩)]], defers := [] } := by rw [← hA]; kernel_rfl
  clear hA
  subst eA
  generalize ((w3.alloc (.cells (rd cs p b l) 28)).alloc (.cells #[.slice (some ⟨w1.heap.size, 0, none⟩) n n] 69)).alloc (.cells #[.slice (some ⟨w2.heap.size, 0, none⟩) n n] 69) = w4 at BB RR ⊢
  go_wp2
  go_ret
  exact ⟨⟨_, rfl, RR.out⟩, BB.out⟩
end Go.Proofs.Ytiaflomabgnmaaa
