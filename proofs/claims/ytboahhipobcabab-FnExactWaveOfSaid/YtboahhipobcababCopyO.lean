/-
  CONTRACTS: l04Copy, at plans wherever they lie.
-/
import Derived.Test.YtboahhipobcababCopySl
import Derived.Test.YtboahhipobcababG20
namespace Go.Proofs.Ytboahhipobcabab
open Go Go.ChangeShapes Go.WideShapes Go.ChangeAt Go.RowKit
set_option maxRecDepth 100000

theorem PlAt.setRow_other {w : World} {g off k : Nat} {s : Value} {b o : Int} (h : PlAt w g off s b o) (hne : g ≠ k) (c : Array Value) : PlAt (w.setRow k c) g off s b o := by
  have e : ∀ j, (w.setRow k c).cell? ⟨g, j, none⟩ = w.cell? ⟨g, j, none⟩ := fun j => by
    unfold World.cell?
    rw [heap_setRow_other _ _ _ _ hne]
  exact ⟨(e _).trans h.c0, (e _).trans h.c1, (e _).trans h.c2, by have := h.lt; simpa [World.setRow] using this⟩


set_option maxHeartbeats 1000000 in
theorem l04CopyO_any (gp off : Nat) (G : Nat) (xs : Slots) (hW : SlW xs) (hn : xs.length ≤ 1048576) (b o o' : Int) (T : TypeId) (w : World) (P0 : PlAt w gp off (.slice (some ⟨G, 0, none⟩) xs.length xs.length) b o) (A0 : At w G (slC xs) T) :
    Calls Try.prog 56 #[.pointer (some ⟨gp, off, none⟩), .int .i64 o'] w fun e w' => (∃ v, e = .returned (.agg (plC v b o')) ∧ OwnSl w' w.heap.size v xs) ∧ Below w.heap.size w w' := by
  have hl := slL_length hW
  obtain ⟨i0, hi, hz0, hz1, hz2⟩ := info_slot
  have R0 : At (w.alloc (.cells #[.slice none 0 0, .int .i64 0, .int .i64 0] 41)) w.heap.size (plC (.slice none 0 0) 0 0) 41 := At.new w _ _
  have P1 := P0.step (b0 w (.cells #[.slice none 0 0, .int .i64 0, .int .i64 0] 41))
  have A1 := A0.alloc (.cells #[.slice none 0 0, .int .i64 0, .int .i64 0] 41)
  have B1 := Lib.hid (b0 w (.cells #[.slice none 0 0, .int .i64 0, .int .i64 0] 41))
  have hgp := P0.lt
  have hG := A0.lt
  clear P0 A0
  obtain ⟨n, hnn⟩ : ∃ n, n = xs.length := ⟨_, rfl⟩
  rw [← hnn] at hn hl P1
  have HN := Lib.hid hnn
  clear hnn
  go_enter Try.func56, Try.ntmps56
  go_wp2_with fail
  generalize w.alloc (.cells #[.slice none 0 0, .int .i64 0, .int .i64 0] 41) = w1 at R0 P1 A1 B1 ⊢
  refine wp_region_held (S := fun w' => PlAt w' gp off (.slice (some ⟨G, 0, none⟩) n n) b o ∧ At w' G (slC xs) T) (by kernel_rfl) ?_
  show wpAnyH _ _ _ _ _ 13 (Array.replicate 13 false) _ _
  have SS : PlAt { w1 with drawn := w1.drawn + 1 } gp off (.slice (some ⟨G, 0, none⟩) n n) b o ∧ At { w1 with drawn := w1.drawn + 1 } G (slC xs) T := ⟨P1.drewN 1, A1⟩
  have R2 : At { w1 with drawn := w1.drawn + 1 } w.heap.size (plC (.slice none 0 0) 0 0) 41 := R0
  have B2 : Hid (Below w.heap.size w { w1 with drawn := w1.drawn + 1 }) := Lib.hid ⟨B1.out.1, B1.out.2, B1.out.3, B1.out.4, B1.out.5⟩
  generalize ({ w1 with drawn := w1.drawn + 1 } : World) = w2 at SS B2 R2 ⊢
  clear R0 P1 A1 B1
  refine wpAnyH_take (i := 1) (v := .pointer (some ⟨gp, off, none⟩)) rfl (by kernel_rfl) (by kernel_rfl) (by kernel_rfl) (fun _ _ _ h => h) (yif rfl fun w' hw' => x_moved (.tmp 0) rfl (by kernel_rfl)) SS ?_
  refine wpAnyH_take (i := 2) (v := .pointer (some ⟨gp, off, none⟩)) rfl (by kernel_rfl) (by kernel_rfl) (by kernel_rfl) (fun _ _ _ h => h) (yif rfl fun w' hw' => by kernel_rfl) SS ?_
  refine wpAnyH_take (i := 3) (v := .pointer (some ⟨gp, off, none⟩)) rfl (by kernel_rfl) (by kernel_rfl) (by kernel_rfl) (fun _ _ _ h => h) (yif rfl fun w' hw' => by kernel_rfl) SS ?_
  refine wpAnyH_take (i := 4) (v := (.slice (some ⟨G, 0, none⟩) n n)) rfl (by kernel_rfl) (by kernel_rfl) (by kernel_rfl) (fun _ _ _ h => h) (yif rfl fun w' hw' => x_cell 39 (.tmp 8) rfl ⟨gp, off, none⟩ (by kernel_rfl) _ Try.underlying39 rfl hw'.1.c0) SS ?_
  refine wpAnyH_take (i := 6) (v := .pointer (some ⟨gp, off, none⟩)) rfl (by kernel_rfl) (by kernel_rfl) (by kernel_rfl) (fun _ _ _ h => h) (yif rfl fun w' hw' => x_moved (.tmp 0) rfl (by kernel_rfl)) SS ?_
  refine wpAnyH_take (i := 7) (v := .pointer (some ⟨gp, off, none⟩)) rfl (by kernel_rfl) (by kernel_rfl) (by kernel_rfl) (fun _ _ _ h => h) (yif rfl fun w' hw' => by kernel_rfl) SS ?_
  refine wpAnyH_take (i := 8) (v := .pointer (some ⟨gp, off + 1, none⟩)) rfl (by kernel_rfl) (by kernel_rfl) (by kernel_rfl) (fun _ _ _ h => h) (yif rfl fun w' hw' => by kernel_rfl) SS ?_
  refine wpAnyH_take (i := 9) (v := .int .i64 b) rfl (by kernel_rfl) (by kernel_rfl) (by kernel_rfl) (fun _ _ _ h => h) (yif rfl fun w' hw' => x_cell 2 (.tmp 13) rfl ⟨gp, off + 1, none⟩ (by kernel_rfl) _ Try.underlying2 rfl hw'.1.c1) SS ?_
  refine wpAnyH_take (i := 10) (v := (.int .i64 o')) rfl (by kernel_rfl) (by kernel_rfl) (by kernel_rfl) (fun _ _ _ h => h) (yif rfl fun w' hw' => x_moved (.tmp 1) rfl (by kernel_rfl)) SS ?_
  refine wpAnyH_all (rs := [0]) (by kernel_rfl) (by simp) fun _ hi8 => ?_
  obtain rfl := one_of hi8
  refine op_value rfl rfl (x_bslice 39 0 _ rfl #[] (by kernel_rfl) (run_noSl _)) ⟨⟨SS.1.step (b0 _ _), SS.2.alloc _⟩, ?_⟩
  refine wpAnyH_all (rs := [5]) (by kernel_rfl) (by simp) fun _ hi8 => ?_
  obtain rfl := one_of hi8
  refine op_wp rfl rfl fun Q' => wp_append_own _ (.tmp 5) (.tmp 9) 39 rfl w2.heap.size 107 i0 (.agg #[.bool false, .bool false, .bool false, .bool false, .bool false, .bool false, .bool false, .bool false, .int .i64 0]) 9 16 Try.underlying39 hi hz0 hz1 hz2 rfl (by decide) _ 0 _ (by kernel_rfl) (OwnSl.empty w2 (Nat.le_refl _)) ⟨G, 0, none⟩ n n (slL xs) (by kernel_rfl) hl (sl_cells (SS.2.alloc _)) (slL_one xs) (by unfold maxLen; omega) (by omega) (by rw [World.size_alloc]; omega) ?_
  intro v' w4 hown hgrow _
  rw [HN.out] at hown
  have O1 : OwnSl w4 w2.heap.size v' xs := OwnSl.grown0 hown
  have hR2 := R2.lt
  have hb4 : Below w2.heap.size w2 w4 := (b0 w2 (.cells #[] 107)).trans (BelowSl.grownBy hgrow (by rw [World.size_alloc]; omega) (fun k hk => Nat.le_of_eq (own_eq hk)))
  have SS4 : PlAt w4 gp off (.slice (some ⟨G, 0, none⟩) n n) b o ∧ At w4 G (slC xs) T := ⟨SS.1.step hb4, SS.2.step hb4⟩
  have R4 := R2.step hb4
  have B4 := Lib.hid (bthen B2.out hb4)
  have hw2 := B2.out.size
  refine ⟨SS4, ?_⟩
  clear hown hgrow hb4 SS B2 R2
  refine wpAnyH_all (rs := [11]) (by kernel_rfl) (by simp) fun _ hi8 => ?_
  obtain rfl := one_of hi8
  obtain ⟨va, vc, rfl⟩ := O1.any
  refine op_value (v := .agg (plC (.slice va xs.length vc) b o')) rfl rfl (by kernel_rfl) ⟨SS4, ?_⟩
  have R9 := R4.setRow (plC (.slice va xs.length vc) b o')
  have B9 := Lib.hid (bset B4.out (g := w.heap.size) (Nat.le_refl _) (plC (.slice va xs.length vc) b o'))
  have O9 := O1.setRow_other (g := w.heap.size) (fun k hk => by have := (O1.block k hk).1; omega) (plC (.slice va xs.length vc) b o')
  refine wpAnyH_all (rs := [12]) (by kernel_rfl) (by simp) fun _ hi8 => ?_
  obtain rfl := one_of hi8
  refine op_skip rfl rfl (store_fresh (d := 4) (s := 16) (ZR := plC (.slice none 0 0) 0 0) (RV := plC (.slice va xs.length vc) b o') rfl 3 (plC_size _ _ _) (plC_size _ _ _) (by kernel_rfl) (pl_one _ (sl_one _ _ _) _ _) _ _ w.heap.size (by kernel_rfl) (by kernel_rfl) R4) ⟨⟨SS4.1.setRow_other (k := w.heap.size) (by omega) _, SS4.2.setRow_other (k := w.heap.size) (by omega) _⟩, ?_⟩
  refine wpAnyH_done (by kernel_rfl) ?_ _
  clear SS4 B4
  go_simp
  go_wp2_with fail
  exact bodyPost_ret (v := .agg (plC (.slice va xs.length vc) b o')) (results_at (p := 4) (ty := 41) rfl _ _ _ (plC (.slice va xs.length vc) b o') _ rfl R9 _ Try.underlying41 rfl 3 (plC_size _ _ _) (by kernel_rfl)) rfl ⟨⟨_, rfl, O9.low hw2⟩, B9.out⟩

end Go.Proofs.Ytboahhipobcabab
