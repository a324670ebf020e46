/-
  CONTRACTS: a plan with another offset, as the program makes it.
-/
import Derived.Test.YtboahhipobcababCopySl
import Derived.Test.YtboahhipobcababG9
import Derived.Test.YtboahhipobcababG11
import Derived.Test.YtboahhipobcababG12
namespace Go.Proofs.Ytboahhipobcabab
open Go Go.ChangeShapes Go.WideShapes Go.ChangeAt Go.RowKit
set_option maxRecDepth 100000

set_option maxHeartbeats 2000000 in
theorem shifted_any (G : Nat) (xs : Slots) (b o : Int) (hW : SlW xs) (hn : xs.length ≤ 1048576) (T : TypeId) (hok : okP xs b o = true) (k : Int) (hk : -1000000 ≤ k ∧ k ≤ 1000000) (w : World) (A0 : At w G (slC xs) T) :
    Calls Try.prog 60 #[.agg (plC (.slice (some ⟨G, 0, none⟩) xs.length xs.length) b o), .int .i64 k] w fun e w' => (∃ v, e = .returned (.agg (plC v b ((o + k) % cyc xs b))) ∧ OwnSl w' w.heap.size v xs) ∧ Below w.heap.size w w' := by
  obtain ⟨hl, hb, ht, hc, ho⟩ := okP_parts hok
  have P1 : At ((w.alloc (.cells (plC (.slice (some ⟨G, 0, none⟩) xs.length xs.length) b o) 41)).alloc (.cells #[.slice none 0 0, .int .i64 0, .int .i64 0] 41)) w.heap.size (plC (.slice (some ⟨G, 0, none⟩) xs.length xs.length) b o) 41 := (At.new w _ _).alloc _
  have R1 : At ((w.alloc (.cells (plC (.slice (some ⟨G, 0, none⟩) xs.length xs.length) b o) 41)).alloc (.cells #[.slice none 0 0, .int .i64 0, .int .i64 0] 41)) (w.heap.size + 1) (plC (.slice none 0 0) 0 0) 41 := At.last1 w _ _ _
  have A1 := (A0.alloc (.cells (plC (.slice (some ⟨G, 0, none⟩) xs.length xs.length) b o) 41)).alloc (.cells #[.slice none 0 0, .int .i64 0, .int .i64 0] 41)
  have B1 := Lib.hid (bnew (b0 w (.cells (plC (.slice (some ⟨G, 0, none⟩) xs.length xs.length) b o) 41)) (.cells #[.slice none 0 0, .int .i64 0, .int .i64 0] 41))
  have hG := A0.lt
  have hwr : IntKind.i64.wrap (o + k) = o + k := IntWalk.i64_in _ (by omega)
  have KCl := fun w' (h : At w' G (slC xs) T) => Clone_any G xs hW hn T w' h
  have KCy := fun w' (h : At w' G (slC xs) T) => cycleOf_any G xs b o hW T hl.2 hb ht w' h
  have KMo : ∀ w', Calls Try.prog 107 #[.int .i64 (o + k), .int .i64 (cyc xs b)] w' fun e w'' => e = .returned (.int .i64 ((o + k) % cyc xs b)) ∧ Below w'.heap.size w' w'' := fun w' =>
    (modulo_b (o + k) (cyc xs b) (by omega) (by omega) w').mono (by rintro e w'' ⟨rfl, n, rfl⟩; exact ⟨rfl, bdrew (Below.refl _ _) n⟩)
  clear A0 hok hl hb ht hc ho hk
  generalize cyc xs b = cy at KCy KMo ⊢
  obtain ⟨n, hnn⟩ : ∃ n, n = xs.length := ⟨_, rfl⟩
  rw [← hnn] at P1 R1 A1 B1 KCl KCy ⊢
  clear hnn
  go_enter Try.func60, Try.ntmps60
  go_wp2_with fail
  generalize World.alloc _ (.cells #[.slice none 0 0, .int .i64 0, .int .i64 0] 41) = w1 at R1 P1 A1 B1 ⊢
  refine wp_region_held (S := fun w' => At w' w.heap.size (plC (.slice (some ⟨G, 0, none⟩) n n) b o) 41 ∧ At w' G (slC xs) T) (by kernel_rfl) ?_
  show wpAnyH _ _ _ _ _ 14 (Array.replicate 14 false) _ _
  have SS2 : At { w1 with drawn := w1.drawn + 1 } w.heap.size (plC (.slice (some ⟨G, 0, none⟩) n n) b o) 41 ∧ At { w1 with drawn := w1.drawn + 1 } G (slC xs) T := ⟨P1, A1⟩
  have R2 : At { w1 with drawn := w1.drawn + 1 } (w.heap.size + 1) (plC (.slice none 0 0) 0 0) 41 := R1
  have B2 : Hid (Below w.heap.size w { w1 with drawn := w1.drawn + 1 }) := Lib.hid ⟨B1.out.1, B1.out.2, B1.out.3, B1.out.4, B1.out.5⟩
  generalize ({ w1 with drawn := w1.drawn + 1 } : World) = w2 at SS2 B2 R2 ⊢
  clear R1 P1 A1 B1
  have Z2 := Lib.hid (show w.heap.size + 1 < w2.heap.size from R2.lt)
  refine wpAnyH_take (i := 0) (v := .pointer (some ⟨w.heap.size, 0, none⟩)) rfl (by kernel_rfl) (by kernel_rfl) (by kernel_rfl) (fun _ _ _ h => h) (yif rfl fun w' hw' => by kernel_rfl) SS2 ?_
  refine wpAnyH_take (i := 1) (v := .slice (some ⟨G, 0, none⟩) n n) rfl (by kernel_rfl) (by kernel_rfl) (by kernel_rfl) (fun _ _ _ h => h) (yif rfl fun w' hw' => x_cell 39 (.tmp 5) rfl ⟨w.heap.size, 0, none⟩ (by kernel_rfl) _ Try.underlying39 rfl (hw'.1.cell (plC_0 _ _ _))) SS2 ?_
  refine wpAnyH_take (i := 3) (v := .pointer (some ⟨w.heap.size, 1, none⟩)) rfl (by kernel_rfl) (by kernel_rfl) (by kernel_rfl) (fun _ _ _ h => h) (yif rfl fun w' hw' => by kernel_rfl) SS2 ?_
  refine wpAnyH_take (i := 4) (v := .int .i64 b) rfl (by kernel_rfl) (by kernel_rfl) (by kernel_rfl) (fun _ _ _ h => h) (yif rfl fun w' hw' => x_cell 2 (.tmp 8) rfl ⟨w.heap.size, 1, none⟩ (by kernel_rfl) _ Try.underlying2 rfl (hw'.1.cell (plC_1 _ _ _))) SS2 ?_
  refine wpAnyH_take (i := 5) (v := .pointer (some ⟨w.heap.size, 2, none⟩)) rfl (by kernel_rfl) (by kernel_rfl) (by kernel_rfl) (fun _ _ _ h => h) (yif rfl fun w' hw' => by kernel_rfl) SS2 ?_
  refine wpAnyH_take (i := 6) (v := .int .i64 o) rfl (by kernel_rfl) (by kernel_rfl) (by kernel_rfl) (fun _ _ _ h => h) (yif rfl fun w' hw' => x_cell 2 (.tmp 10) rfl ⟨w.heap.size, 2, none⟩ (by kernel_rfl) _ Try.underlying2 rfl (hw'.1.cell (plC_2 _ _ _))) SS2 ?_
  refine wpAnyH_take (i := 7) (v := .int .i64 k) rfl (by kernel_rfl) (by kernel_rfl) (by kernel_rfl) (fun _ _ _ h => h) (yif rfl fun w' hw' => x_moved (.tmp 1) rfl (by kernel_rfl)) SS2 ?_
  refine wpAnyH_take (i := 8) (v := .int .i64 (o + k)) rfl (by kernel_rfl) (by kernel_rfl) (by kernel_rfl) (fun _ _ _ h => h) (yif rfl fun w' hw' => by rw [← hwr]; kernel_rfl) SS2 ?_
  refine wpAnyH_take (i := 9) (v := .agg (plC (.slice (some ⟨G, 0, none⟩) n n) b o)) rfl (by kernel_rfl) (by kernel_rfl) (by kernel_rfl) (fun _ _ _ h => h) (yif rfl fun w' hw' => x_load 41 (.tmp 2) rfl ⟨w.heap.size, 0, none⟩ (by kernel_rfl) (run_plan 41 _ hw'.1 Try.underlying41 (by kernel_rfl))) SS2 ?_
  refine wpAnyH_all (rs := [2]) (by kernel_rfl) (by simp) fun _ hi8 => ?_
  obtain rfl := one_of hi8
  refine op_call (f := 106) (args := #[.slice (some ⟨G, 0, none⟩) n n]) rfl rfl (by kernel_rfl) ((KCl w2 SS2.2).mono ?_)
  rintro e w3 ⟨⟨v, rfl, O3⟩, hb3⟩
  obtain ⟨va, vc, rfl⟩ := O3.any
  have SS3 : At w3 w.heap.size (plC (.slice (some ⟨G, 0, none⟩) n n) b o) 41 ∧ At w3 G (slC xs) T := ⟨SS2.1.step hb3, SS2.2.step hb3⟩
  have R3 := R2.step hb3
  have B3 := Lib.hid (bthen B2.out hb3)
  have hO := O3.low (show w.heap.size + 1 + 1 ≤ w2.heap.size from by have := Z2.out; omega)
  have Z3 := Lib.hid (show w.heap.size + 1 < w3.heap.size from R3.lt)
  refine ⟨_, rfl, SS3, ?_⟩
  clear SS2 R2 B2 Z2 hb3 O3
  refine wpAnyH_all (rs := [10]) (by kernel_rfl) (by simp) fun _ hi8 => ?_
  obtain rfl := one_of hi8
  refine op_call (f := 104) (args := #[.agg (plC (.slice (some ⟨G, 0, none⟩) n n) b o)]) rfl rfl (by kernel_rfl) ((KCy w3 SS3.2).mono ?_)
  rintro e w4 ⟨rfl, hb4⟩
  have SS4 : At w4 w.heap.size (plC (.slice (some ⟨G, 0, none⟩) n n) b o) 41 ∧ At w4 G (slC xs) T := ⟨SS3.1.step hb4, SS3.2.step hb4⟩
  have R4 := R3.step hb4
  have B4 := Lib.hid (bthen B3.out hb4)
  have hO := hO.step hb4
  have Z4 := Lib.hid (show w.heap.size + 1 < w4.heap.size from R4.lt)
  refine ⟨_, rfl, SS4, ?_⟩
  clear SS3 R3 B3 Z3 hb4
  refine wpAnyH_all (rs := [11]) (by kernel_rfl) (by simp) fun _ hi8 => ?_
  obtain rfl := one_of hi8
  refine op_call (f := 107) (args := #[.int .i64 (o + k), .int .i64 cy]) rfl rfl (by kernel_rfl) ((KMo w4).mono ?_)
  rintro e w5 ⟨rfl, hb5⟩
  have SS5 : At w5 w.heap.size (plC (.slice (some ⟨G, 0, none⟩) n n) b o) 41 ∧ At w5 G (slC xs) T := ⟨SS4.1.step hb5, SS4.2.step hb5⟩
  have R5 := R4.step hb5
  have B5 := Lib.hid (bthen B4.out hb5)
  have hO := hO.step hb5
  have Z5 := Lib.hid (show w.heap.size + 1 < w5.heap.size from R5.lt)
  refine ⟨_, rfl, SS5, ?_⟩
  clear SS4 R4 B4 Z4 hb5
  refine wpAnyH_all (rs := [12]) (by kernel_rfl) (by simp) fun _ hi8 => ?_
  obtain rfl := one_of hi8
  refine op_value (v := .agg (plC (.slice va xs.length vc) b ((o + k) % cy))) rfl rfl (by kernel_rfl) ⟨SS5, ?_⟩
  have R9 := R5.setRow (plC (.slice va xs.length vc) b ((o + k) % cy))
  have B9 := Lib.hid (bset B5.out (g := w.heap.size + 1) (by omega) (plC (.slice va xs.length vc) b ((o + k) % cy)))
  have O9 := hO.setRow_other (g := w.heap.size + 1) (fun q hq => by have := (hO.block q hq).1; omega) (plC (.slice va xs.length vc) b ((o + k) % cy))
  refine wpAnyH_all (rs := [13]) (by kernel_rfl) (by simp) fun _ hi8 => ?_
  obtain rfl := one_of hi8
  refine op_skip rfl rfl (store_fresh (d := 4) (s := 17) (ZR := plC (.slice none 0 0) 0 0) (RV := plC (.slice va xs.length vc) b ((o + k) % cy)) rfl 3 (plC_size _ _ _) (plC_size _ _ _) (by kernel_rfl) (pl_one _ (sl_one _ _ _) _ _) _ _ (w.heap.size + 1) (by kernel_rfl) (by kernel_rfl) R5) ⟨⟨SS5.1.setRow_other (k := w.heap.size + 1) (by omega) _, SS5.2.setRow_other (k := w.heap.size + 1) (by omega) _⟩, ?_⟩
  refine wpAnyH_done (by kernel_rfl) ?_ _
  clear SS5 B5
  go_simp
  go_wp2_with fail
  exact bodyPost_ret (v := .agg (plC (.slice va xs.length vc) b ((o + k) % cy))) (results_at (p := 4) (ty := 41) rfl _ _ _ (plC (.slice va xs.length vc) b ((o + k) % cy)) _ rfl R9 _ Try.underlying41 rfl 3 (plC_size _ _ _) (by kernel_rfl)) rfl ⟨⟨_, rfl, O9.low (by omega)⟩, B9.out⟩

end Go.Proofs.Ytboahhipobcabab
