/-
  CONTRACTS: a law's road made the program's.
-/
import Derived.Test.YtboahhipobcabaaRoadS
import Derived.Deep.RegionWith
namespace Go.Proofs.Ytboahhipobcabaa
open Go Go.RowKit

/-- what a copy has after k places -/
def cur (ys : List Nat) (k : Nat) : List Nat := ys.take k ++ List.replicate (16 - k) 0
theorem cur_len {ys : List Nat} (h : ys.length = 16) (k : Nat) (hk : k ≤ 16) : (cur ys k).length = 16 := by simp [cur, h]; omega
theorem cur_set {ys : List Nat} (h : ys.length = 16) {k : Nat} (hk : k < 16) : (cur ys k).set k (nth ys k) = cur ys (k + 1) := by
  unfold cur nth
  rw [List.set_append_right _ _ (by simp; omega), List.take_succ_eq_append_getElem (by omega), List.getD_eq_getElem?_getD, List.getElem?_eq_getElem (by omega)]
  rw [show k - (List.take k ys).length = 0 from by simp; omega, show 16 - k = (16 - (k + 1)) + 1 from by omega, List.replicate_succ, List.append_assoc]
  rfl
theorem cur_all {ys : List Nat} (h : ys.length = 16) : cur ys 16 = ys := by simp [cur, ← h]

theorem below_alloc {B : Nat} {a w : World} (h : Below B a w) (hB : B ≤ w.heap.size) (c : Array Value) (t : TypeId) : Below B a (w.alloc (.cells c t)) := h.alloc hB _
theorem below3 (w : World) (A B C : Obj) : Below w.heap.size w (((w.alloc A).alloc B).alloc C) :=
  (((Below.refl _ _).alloc (Nat.le_refl _) _).alloc (by simp) _).alloc (by simp; omega) _

theorem toCars_any (ys : List Nat) (hl : ys.length = 16) (w : World) :
    Calls Try.prog 103 #[.agg (fl ys)] w fun e w' => e = .returned (.agg (fl ys)) ∧ Below w.heap.size w w' := by
  go_enter Try.func103, Try.ntmps103
  go_wp2
  go_loopw [4] (fun i wr => ∃ k : Nat, k ≤ 16 ∧ i = .int .i64 k ∧ wr = (((w.alloc (.cells (fl ys) 59)).alloc (.cells (fl (zeros 16)) 60)).alloc (.cells (fl (cur ys k)) 60))) (fun i _ => 16 - (intOf i).toNat)
  case atStart => exact ⟨0, by omega, rfl, rfl⟩
  case round =>
    obtain ⟨k, hk, rfl, rfl⟩ := hrel
    by_cases hlt : k < 16
    · have g1 := fl_get (xs := ys) (k := k) (by omega)
      have g2 := run_store_last (P := Try.prog) ((w.alloc (.cells (fl ys) 59)).alloc (.cells (fl (zeros 16)) 60)) (fl (cur ys k)) 60 k (.float .f32 (nth ys k)) rfl (by rw [fl_size, cur_len hl k hk]; exact hlt) (w.heap.size + 1 + 1) (by simp)
      rw [fl_set, cur_set hl hlt] at g2
      go_wp2
      exact ⟨⟨k + 1, by omega, by go_num, rfl⟩, by simp [intOf]; omega⟩
    · obtain rfl : k = 16 := by omega
      rw [cur_all hl]
      have HL := Lib.hid (run_loadAt_part (P := Try.prog) (((w.alloc (.cells (fl ys) 59)).alloc (.cells (fl (zeros 16)) 60)).alloc (.cells (fl ys) 60)) (w.heap.size + 1 + 1) 0 16 60 (fl ys) 60 (0, 0) _ (by have := heap_last ((w.alloc (.cells (fl ys) 59)).alloc (.cells (fl (zeros 16)) 60)) (.cells (fl ys) 60); simpa using this) Try.underlying60 rfl (by kernel_rfl) (by rw [fl_size, hl]; omega))
      rw [Nat.zero_add, fl_extract, ← hl, List.take_length, List.drop_zero, hl] at HL
      have HS := Lib.hid (run_storeAt_part (P := Try.prog) (((w.alloc (.cells (fl ys) 59)).alloc (.cells (fl (zeros 16)) 60)).alloc (.cells (fl ys) 60)) (w.heap.size + 1) 0 60 60 (fl (zeros 16)) (fl ys) (heap_old (by have := heap_last (w.alloc (.cells (fl ys) 59)) (.cells (fl (zeros 16)) 60); simpa using this) _) (by rw [fl_size, hl]; kernel_rfl) (by rw [fl_size, fl_size, hl, zeros_len]; omega) (fl_one _))
      rw [splice_all (by rw [fl_size, fl_size, hl, zeros_len]), setRow_alloc_old _ _ _ _ (by simp), show w.heap.size + 1 = (w.alloc (.cells (fl ys) 59)).heap.size from by simp, World.setRow_alloc_new] at HS
      rw [World.size_alloc] at HS
      go_wp2_with (first | ((with_reducible refine is_load 60 _ rfl ?_); refine wpList_load_of rfl 60 _ rfl _ rfl _ HL.out ?_) | ((with_reducible refine is_store 60 _ _ rfl ?_); refine wpList_store_of rfl 60 _ _ rfl _ rfl _ rfl _ HS.out ?_))
      refine bodyPost_ret (v := .agg (fl ys)) (results_cell_row (p := 2) (ty := 60) rfl _ _ (w.heap.size + 1) 60 (fl ys) (0, 0) _ rfl ?_ Try.underlying60 rfl ?_) rfl ⟨rfl, below3 _ _ _ _⟩
      · have := heap_old (heap_last (w.alloc (.cells (fl ys) 59)) (.cells (fl ys) 60)) (.cells (fl ys) 60)
        simpa using this
      · rw [fl_size, hl]; kernel_rfl

/-- a road in the making -/
def mk3 (cs : List Nat) (p b l : Nat) : Array Value := fl (cs ++ [p, b, l])
theorem mk3_p {cs : List Nat} (h : cs.length = 16) (p b l x : Nat) : (mk3 cs p b l).setIfInBounds 16 (.float .f32 x) = mk3 cs x b l := by
  unfold mk3; rw [fl_set, List.set_append_right _ _ (by omega), h]; rfl
theorem mk3_b {cs : List Nat} (h : cs.length = 16) (p b l x : Nat) : (mk3 cs p b l).setIfInBounds 17 (.float .f32 x) = mk3 cs p x l := by
  unfold mk3; rw [fl_set, List.set_append_right _ _ (by omega), h]; rfl
theorem mk3_l {cs : List Nat} (h : cs.length = 16) (p b l x : Nat) : (mk3 cs p b l).setIfInBounds 18 (.float .f32 x) = mk3 cs p b x := by
  unfold mk3; rw [fl_set, List.set_append_right _ _ (by omega), h]; rfl
theorem mk3_size {cs : List Nat} (h : cs.length = 16) (p b l : Nat) : (mk3 cs p b l).size = 19 := by simp [mk3, fl_size, h]

theorem cell_setRow_other (w : World) (g k j : Nat) (c : Array Value) (h : k ≠ g) : (w.setRow g c).cell? ⟨k, j, none⟩ = w.cell? ⟨k, j, none⟩ := by
  simp only [World.cell?]; rw [heap_setRow_other w g k c h]

theorem three (w : World) (A B C : Obj) : (((w.alloc A).alloc B).alloc C).heap[w.heap.size]? = some A ∧ (((w.alloc A).alloc B).alloc C).heap[w.heap.size + 1]? = some B ∧ (((w.alloc A).alloc B).alloc C).heap[w.heap.size + 1 + 1]? = some C := by
  refine ⟨heap_old (heap_old (heap_last _ _) _) _, heap_old (by have := heap_last (w.alloc A) B; rwa [World.size_alloc] at this) _, by have := heap_last ((w.alloc A).alloc B) C; rwa [World.size_alloc, World.size_alloc] at this⟩

set_option maxHeartbeats 400000 in
theorem toRoad_any (cs : List Nat) (p b l : Nat) (hl : cs.length = 16) (w : World) :
    Calls Try.prog 65 #[.agg (rd cs p b l)] w fun e w' => e = .returned (.agg (rd cs p b l)) ∧ Below w.heap.size w w' := by
  have HL := Lib.hid (run_loadAt_part (P := Try.prog) (((w.alloc (.cells (rd cs p b l) 127)).alloc (.cells (fl (zeros 19)) 62)).alloc (.cells (fl (zeros 19)) 62)) w.heap.size 0 16 59 (rd cs p b l) 127 (0, 0) _ (heap_old (heap_old (heap_last _ _) _) _) Try.underlying59 rfl (by kernel_rfl) (by rw [rd_size hl]; omega))
  rw [Nat.zero_add, rd_cars hl] at HL
  have hz : fl (zeros 19) = #[.float .f32 0, .float .f32 0, .float .f32 0, .float .f32 0, .float .f32 0, .float .f32 0, .float .f32 0, .float .f32 0, .float .f32 0, .float .f32 0, .float .f32 0, .float .f32 0, .float .f32 0, .float .f32 0, .float .f32 0, .float .f32 0, .float .f32 0, .float .f32 0, .float .f32 0] := rfl
  rw [hz] at HL
  go_enter Try.func65, Try.ntmps65
  clear hz
  go_wp2_with (first | ((with_reducible refine is_load 59 _ rfl ?_); refine wpList_load_of rfl 59 _ rfl _ rfl _ HL.out ?_) | fail)
  refine (toCars_any cs hl _).mono ?_
  rintro e w1 ⟨rfl, hb⟩
  clear HL
  have T := three w (.cells (rd cs p b l) 127) (.cells (fl (zeros 19)) 62) (.cells (fl (zeros 19)) 62)
  have B0 : w1.heap[w.heap.size]? = some (.cells (rd cs p b l) 127 (0, 0)) := (hb.block _ (by simp; omega)).trans T.1
  have B1 : w1.heap[w.heap.size + 1]? = some (.cells (fl (zeros 19)) 62 (0, 0)) := (hb.block _ (by simp)).trans T.2.1
  have B2 : w1.heap[w.heap.size + 1 + 1]? = some (.cells (fl (zeros 19)) 62 (0, 0)) := (hb.block _ (by simp)).trans T.2.2
  clear T
  have hB : Hid (Below w.heap.size w w1) := ((below3 _ _ _ _).trans (hb.mono (by simp; omega)))
  clear hb
  have c16 : ∀ c, (w1.setRow (w.heap.size + 1 + 1) c).cell? ⟨w.heap.size, 16, none⟩ = some (.float .f32 p) := fun c => by
    rw [cell_setRow_other _ _ _ _ _ (by omega), cell_of_row _ _ _ _ _ _ B0]; exact rd_pace hl p b l
  have c17 : ∀ c, (w1.setRow (w.heap.size + 1 + 1) c).cell? ⟨w.heap.size, 17, none⟩ = some (.float .f32 b) := fun c => by
    rw [cell_setRow_other _ _ _ _ _ (by omega), cell_of_row _ _ _ _ _ _ B0]; exact rd_back hl p b l
  have c18 : ∀ c, (w1.setRow (w.heap.size + 1 + 1) c).cell? ⟨w.heap.size, 18, none⟩ = some (.float .f32 l) := fun c => by
    rw [cell_setRow_other _ _ _ _ _ (by omega), cell_of_row _ _ _ _ _ _ B0]; exact rd_lanes hl p b l
  have S1 := Lib.hid (run_storeAt_part (P := Try.prog) w1 (w.heap.size + 1 + 1) 0 62 60 (fl (zeros 19)) (fl cs) B2 (by rw [fl_size, hl]; kernel_rfl) (by rw [fl_size, fl_size, hl, zeros_len]; omega) (fl_one _))
  rw [splice_fl, hl, show (List.take 0 (zeros 19) ++ cs ++ List.drop (0 + 16) (zeros 19)) = cs ++ [0, 0, 0] from by simp [zeros], show fl (cs ++ [0, 0, 0]) = mk3 cs 0 0 0 from rfl] at S1
  have S2 := run_store_one (P := Try.prog) _ (w.heap.size + 1 + 1) 16 62 (mk3 cs 0 0 0) (.float .f32 p) (heap_setRow w1 _ _ (mk3 cs 0 0 0) _ _ B2) (by rw [mk3_size hl]; omega) rfl
  rw [setRow_setRow, mk3_p hl] at S2
  have S3 := run_store_one (P := Try.prog) _ (w.heap.size + 1 + 1) 17 62 (mk3 cs p 0 0) (.float .f32 b) (heap_setRow w1 _ _ (mk3 cs p 0 0) _ _ B2) (by rw [mk3_size hl]; omega) rfl
  rw [setRow_setRow, mk3_b hl] at S3
  have S4 := run_store_one (P := Try.prog) _ (w.heap.size + 1 + 1) 18 62 (mk3 cs p b 0) (.float .f32 l) (heap_setRow w1 _ _ (mk3 cs p b 0) _ _ B2) (by rw [mk3_size hl]; omega) rfl
  rw [setRow_setRow, mk3_l hl] at S4
  have L5 := Lib.hid (run_loadAt_part (P := Try.prog) (w1.setRow (w.heap.size + 1 + 1) (mk3 cs p b l)) (w.heap.size + 1 + 1) 0 19 62 (mk3 cs p b l) 62 (0, 0) _ (heap_setRow w1 _ _ (mk3 cs p b l) _ _ B2) Try.underlying62 rfl (by kernel_rfl) (by rw [mk3_size hl]; omega))
  rw [Nat.zero_add, show (mk3 cs p b l).extract 0 19 = mk3 cs p b l from by rw [← mk3_size hl p b l, Array.extract_size]] at L5
  have S5 := Lib.hid (run_storeAt_part (P := Try.prog) (w1.setRow (w.heap.size + 1 + 1) (mk3 cs p b l)) (w.heap.size + 1) 0 62 62 (fl (zeros 19)) (mk3 cs p b l) (by rw [heap_setRow_other _ _ _ _ (by omega)]; exact B1) (by rw [mk3_size hl]; kernel_rfl) (by rw [mk3_size hl, fl_size, zeros_len]; omega) (fl_one _))
  rw [splice_all (by rw [mk3_size hl, fl_size, zeros_len])] at S5
  have hres : Hid (((w1.setRow (w.heap.size + 1 + 1) (mk3 cs p b l)).setRow (w.heap.size + 1) (mk3 cs p b l)).heap[w.heap.size + 1]? = some (.cells (mk3 cs p b l) 62 (0, 0))) := heap_setRow _ _ _ _ _ _ (by rw [heap_setRow_other _ _ _ _ (by omega)]; exact B1)
  clear B0 B1 B2
  go_wp2_with (first | ((with_reducible refine is_load 62 _ rfl ?_); refine wpList_load_of rfl 62 _ rfl _ rfl _ L5.out ?_) | ((with_reducible refine is_store 60 _ _ rfl ?_); refine wpList_store_of rfl 60 _ _ rfl _ rfl _ rfl _ S1.out ?_) | ((with_reducible refine is_store 62 _ _ rfl ?_); refine wpList_store_of rfl 62 _ _ rfl _ rfl _ rfl _ S5.out ?_))
  refine bodyPost_ret (v := .agg (rd cs p b l)) (results_cell_row (p := 2) (ty := 62) rfl _ _ (w.heap.size + 1) 62 (mk3 cs p b l) (0, 0) _ rfl hres.out Try.underlying62 rfl ?_) rfl ⟨rfl, ?_⟩
  · rw [mk3_size hl]; kernel_rfl
  · exact Below.setRow (Below.setRow hB.out (by omega) _) (by omega) _
end Go.Proofs.Ytboahhipobcabaa
