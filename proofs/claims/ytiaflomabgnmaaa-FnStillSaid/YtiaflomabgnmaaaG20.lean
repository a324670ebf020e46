/-
  SEVERAL TEXTS IN ONE.
-/
import Derived.Test.YtiaflomabgnmaaaG7
import Derived.Deep.LoopGhost
import Derived.Test.YtiaflomabgnmaaaStepRds
import Derived.Test.YtiaflomabgnmaaaG15

/-
  CONTRACTS: FillRoad.
-/
namespace Go.Proofs.Ytiaflomabgnmaaa
open Go Go.RowKit

/-- a road of which the first k cells are filled -/
def fillL (cs : List Nat) (x k : Nat) : List Nat := List.replicate k x ++ cs.drop k

theorem fillL_len {cs : List Nat} (h : cs.length = 16) (x : Nat) {k : Nat} (hk : k ≤ 16) : (fillL cs x k).length = 16 := by simp [fillL, h]; omega

theorem fillL_set {cs : List Nat} (h : cs.length = 16) (x : Nat) {k : Nat} (hk : k < 16) : (fillL cs x k).set k x = fillL cs x (k + 1) := by
  unfold fillL
  rw [List.set_append_right _ _ (by simp), List.length_replicate, Nat.sub_self, List.drop_eq_getElem_cons (by omega), List.set_cons_zero, List.replicate_succ', List.append_assoc]
  rfl

theorem fillL_all {cs : List Nat} (h : cs.length = 16) (x : Nat) : fillL cs x 16 = List.replicate 16 x := by
  unfold fillL
  rw [List.drop_eq_nil_of_le (by omega), List.append_nil]

theorem rd_set' {cs : List Nat} (h : cs.length = 16) (p b l : Nat) {n : Nat} (hn : n < 16) (x : Nat) : (rd cs p b l).setIfInBounds n (.float .f32 x) = rd (cs.set n x) p b l := by
  unfold rd
  rw [fl_set, List.set_append_left _ _ (by omega)]

theorem FillRoad_no (cs : List Nat) (p b l : Nat) (hl : cs.length = 16) (hc : ∀ x ∈ cs, x < 4294967296) (hp : p < 4294967296) (hb : b < 4294967296) (hla : l < 4294967296) (x : Nat) (_hx : x < 4294967296) (h : okB cs p b l = false) (w : World) :
    Calls Try.prog 10 #[.agg (rd cs p b l), .float .f32 x] w fun e w' => e = .returned (.tuple #[.agg (rd (zeros 16) 0 0 0), .int .i64 1]) ∧ Below w.heap.size w w' := by
  have A0 : At ((w.alloc (.cells (rd cs p b l) 28)).alloc (.cells (rd (zeros 16) 0 0 0) 28)) w.heap.size (rd cs p b l) 28 := (At.new w _ _).alloc _
  have R0 : At ((w.alloc (.cells (rd cs p b l) 28)).alloc (.cells (rd (zeros 16) 0 0 0) 28)) (w.heap.size + 1) (rd (zeros 16) 0 0 0) 28 := At.new1 w _ _ _
  have B0 := Lib.hid (bnew (b0 w (.cells (rd cs p b l) 28)) (.cells (rd (zeros 16) 0 0 0) 28))
  go_enter Try.func10, Try.ntmps10
  go_wp2_with (((with_reducible refine is_load 28 _ rfl ?_); refine wpList_load_at rfl 28 _ rfl _ rfl (rd cs p b l) _ (by assumption) 19 (rd_size hl p b l) _ Try.underlying28 rfl (by kernel_rfl) ?_))
  refine (ValidRoad_any cs p b l hl hc hp hb hla _).mono ?_
  rintro e w1 ⟨rfl, hb1⟩
  have A1 := A0.step hb1
  have R1 := R0.step hb1
  have B1 := Lib.hid (bthen B0.out hb1)
  clear A0 R0 B0 hb1
  have SZ : (rd (zeros 16) 0 0 0).size = 19 := rd_size (zeros_len 16) _ _ _
  have R9 := R1.setRow (rd (zeros 16) 0 0 0)
  have B9 := Lib.hid (bset B1.out (g := w.heap.size + 1) (by omega) (rd (zeros 16) 0 0 0))
  go_wp2_with (((with_reducible refine is_store 28 (.tmp 4) (.tmp 10) rfl ?_); refine wpList_store_at rfl 28 (.tmp 4) (.tmp 10) rfl _ rfl (rd (zeros 16) 0 0 0) rfl (rd (zeros 16) 0 0 0) _ (by assumption) 19 SZ (rd_size (zeros_len 16) _ _ _) (by kernel_rfl) (fl_one _) ?_))
  exact bodyPost_ret (v := .tuple #[.agg (rd (zeros 16) 0 0 0), .int .i64 1]) (results_at_tmp (p := 4) (ty := 28) rfl _ _ _ (rd (zeros 16) 0 0 0) _ (.int .i64 1) rfl rfl R9 _ Try.underlying28 rfl 19 (rd_size (zeros_len 16) _ _ _) (by kernel_rfl)) rfl ⟨rfl, B9.out⟩

theorem FillRoad_bad (cs : List Nat) (p b l : Nat) (hl : cs.length = 16) (hc : ∀ x ∈ cs, x < 4294967296) (hp : p < 4294967296) (hb : b < 4294967296) (hla : l < 4294967296) (x : Nat) (hx : x < 4294967296) (h : okB cs p b l = true) (hs : shrB x = false) (w : World) :
    Calls Try.prog 10 #[.agg (rd cs p b l), .float .f32 x] w fun e w' => e = .returned (.tuple #[.agg (rd (zeros 16) 0 0 0), .int .i64 2]) ∧ Below w.heap.size w w' := by
  have A0 : At ((w.alloc (.cells (rd cs p b l) 28)).alloc (.cells (rd (zeros 16) 0 0 0) 28)) w.heap.size (rd cs p b l) 28 := (At.new w _ _).alloc _
  have R0 : At ((w.alloc (.cells (rd cs p b l) 28)).alloc (.cells (rd (zeros 16) 0 0 0) 28)) (w.heap.size + 1) (rd (zeros 16) 0 0 0) 28 := At.new1 w _ _ _
  have B0 := Lib.hid (bnew (b0 w (.cells (rd cs p b l) 28)) (.cells (rd (zeros 16) 0 0 0) 28))
  go_enter Try.func10, Try.ntmps10
  go_wp2_with (((with_reducible refine is_load 28 _ rfl ?_); refine wpList_load_at rfl 28 _ rfl _ rfl (rd cs p b l) _ (by assumption) 19 (rd_size hl p b l) _ Try.underlying28 rfl (by kernel_rfl) ?_))
  refine (ValidRoad_any cs p b l hl hc hp hb hla _).mono ?_
  rintro e w1 ⟨rfl, hb1⟩
  have A1 := A0.step hb1
  have R1 := R0.step hb1
  have B1 := Lib.hid (bthen B0.out hb1)
  clear A0 R0 B0 hb1
  go_wp2_with fail
  refine (IsShare_any x hx _).mono ?_
  rintro e w3 ⟨rfl, n3, rfl⟩
  have A3 := A1.drewN n3
  have R3 := R1.drewN n3
  have B3 := Lib.hid (bdrew B1.out n3)
  generalize w1.drewN n3 = w3 at A3 R3 B3 ⊢
  clear A1 R1 B1
  have SZ : (rd (zeros 16) 0 0 0).size = 19 := rd_size (zeros_len 16) _ _ _
  have R9 := R3.setRow (rd (zeros 16) 0 0 0)
  have B9 := Lib.hid (bset B3.out (g := w.heap.size + 1) (by omega) (rd (zeros 16) 0 0 0))
  go_wp2_with (((with_reducible refine is_store 28 (.tmp 4) (.tmp 14) rfl ?_); refine wpList_store_at rfl 28 (.tmp 4) (.tmp 14) rfl _ rfl (rd (zeros 16) 0 0 0) rfl (rd (zeros 16) 0 0 0) _ (by assumption) 19 SZ (rd_size (zeros_len 16) _ _ _) (by kernel_rfl) (fl_one _) ?_))
  exact bodyPost_ret (v := .tuple #[.agg (rd (zeros 16) 0 0 0), .int .i64 2]) (results_at_tmp (p := 4) (ty := 28) rfl _ _ _ (rd (zeros 16) 0 0 0) _ (.int .i64 2) rfl rfl R9 _ Try.underlying28 rfl 19 (rd_size (zeros_len 16) _ _ _) (by kernel_rfl)) rfl ⟨rfl, B9.out⟩

theorem FillRoad_yes (cs : List Nat) (p b l : Nat) (hl : cs.length = 16) (hc : ∀ x ∈ cs, x < 4294967296) (hp : p < 4294967296) (hb : b < 4294967296) (hla : l < 4294967296) (x : Nat) (hx : x < 4294967296) (h : okB cs p b l = true) (hs : shrB x = true) (w : World) :
    Calls Try.prog 10 #[.agg (rd cs p b l), .float .f32 x] w fun e w' => e = .returned (.tuple #[.agg (rd (List.replicate 16 x) p b l), .int .i64 0]) ∧ Below w.heap.size w w' := by
  have A0 : At ((w.alloc (.cells (rd cs p b l) 28)).alloc (.cells (rd (zeros 16) 0 0 0) 28)) w.heap.size (rd cs p b l) 28 := (At.new w _ _).alloc _
  have R0 : At ((w.alloc (.cells (rd cs p b l) 28)).alloc (.cells (rd (zeros 16) 0 0 0) 28)) (w.heap.size + 1) (rd (zeros 16) 0 0 0) 28 := At.new1 w _ _ _
  have B0 := Lib.hid (bnew (b0 w (.cells (rd cs p b l) 28)) (.cells (rd (zeros 16) 0 0 0) 28))
  go_enter Try.func10, Try.ntmps10
  go_wp2_with (((with_reducible refine is_load 28 _ rfl ?_); refine wpList_load_at rfl 28 _ rfl _ rfl (rd cs p b l) _ (by assumption) 19 (rd_size hl p b l) _ Try.underlying28 rfl (by kernel_rfl) ?_))
  refine (ValidRoad_any cs p b l hl hc hp hb hla _).mono ?_
  rintro e w1 ⟨rfl, hb1⟩
  have A1 := A0.step hb1
  have R1 := R0.step hb1
  have B1 := Lib.hid (bthen B0.out hb1)
  clear A0 R0 B0 hb1
  go_wp2_with fail
  refine (IsShare_any x hx _).mono ?_
  rintro e w3 ⟨rfl, n3, rfl⟩
  have A3 := A1.drewN n3
  have R3 := R1.drewN n3
  have B3 := Lib.hid (bdrew B1.out n3)
  generalize w1.drewN n3 = w3 at A3 R3 B3 ⊢
  clear A1 R1 B1
  have BB3 := B3
  go_wp2
  go_loopw [15] (fun i wr => ∃ k : Nat, k ≤ 16 ∧ i = .int .i64 k ∧ At wr w.heap.size (rd (fillL cs x k) p b l) 28 ∧ At wr (w.heap.size + 1) (rd (zeros 16) 0 0 0) 28 ∧ Hid (Below w.heap.size w wr)) (fun i _ => 16 - (intOf i).toNat)
  case atStart => exact ⟨0, by omega, rfl, A3, R3, BB3⟩
  case round =>
    obtain ⟨k, hk, rfl, A4, R4, B4⟩ := hrel
    clear A3 R3 B3 BB3
    by_cases hlt : k < 16
    · have G := run_store_one (P := Try.prog) wr w.heap.size k 28 (rd (fillL cs x k) p b l) (.float .f32 x) A4 (by rw [rd_size (fillL_len hl x hk)]; omega) rfl
      rw [rd_set' (fillL_len hl x hk) p b l hlt, fillL_set hl x hlt] at G
      have A5 := A4.setRow (rd (fillL cs x (k + 1)) p b l)
      have R5 := R4.setRow_other (k := w.heap.size) (by omega) (rd (fillL cs x (k + 1)) p b l)
      have B5 := Lib.hid (bset B4.out (g := w.heap.size) (Nat.le_refl _) (rd (fillL cs x (k + 1)) p b l))
      clear A4 R4 B4
      go_wp2
      exact ⟨⟨k + 1, by omega, by go_num, A5, R5, B5⟩, by simp [intOf]; omega⟩
    · obtain rfl : k = 16 := by omega
      rw [fillL_all hl x] at A4
      have SZ : (rd (List.replicate 16 x) p b l).size = 19 := rd_size (by simp) p b l
      have R9 := R4.setRow (rd (List.replicate 16 x) p b l)
      have B9 := Lib.hid (bset B4.out (g := w.heap.size + 1) (by omega) (rd (List.replicate 16 x) p b l))
      go_wp2_with (first | ((with_reducible refine is_load 28 _ rfl ?_); refine wpList_load_at rfl 28 _ rfl _ rfl (rd (List.replicate 16 x) p b l) _ (by assumption) 19 (SZ) _ Try.underlying28 rfl (by kernel_rfl) ?_) | ((with_reducible refine is_store 28 (.tmp 4) (.tmp 23) rfl ?_); refine wpList_store_at rfl 28 (.tmp 4) (.tmp 23) rfl _ rfl (rd (List.replicate 16 x) p b l) rfl (rd (zeros 16) 0 0 0) _ (by assumption) 19 SZ (rd_size (zeros_len 16) _ _ _) (by kernel_rfl) (fl_one _) ?_))
      exact bodyPost_ret (v := .tuple #[.agg (rd (List.replicate 16 x) p b l), .int .i64 0]) (results_at_tmp (p := 4) (ty := 28) rfl _ _ _ (rd (List.replicate 16 x) p b l) _ (.int .i64 0) rfl rfl R9 _ Try.underlying28 rfl 19 (SZ) (by kernel_rfl)) rfl ⟨rfl, B9.out⟩

def vFillRoad (cs : List Nat) (p b l : Nat) (x : Nat) : List Nat × Nat × Nat × Nat × Int := if okB cs p b l then (if shrB x then (List.replicate 16 x, p, b, l, 0) else (zeros 16, 0, 0, 0, 2)) else (zeros 16, 0, 0, 0, 1)

theorem vFillRoad_no {cs : List Nat} {p b l : Nat} {x : Nat} (h : okB cs p b l = false) : vFillRoad cs p b l x = (zeros 16, 0, 0, 0, 1) := by unfold vFillRoad; rw [h]; rfl

theorem vFillRoad_bad {cs : List Nat} {p b l : Nat} {x : Nat} (h : okB cs p b l = true) (hs : shrB x = false) : vFillRoad cs p b l x = (zeros 16, 0, 0, 0, 2) := by unfold vFillRoad; rw [if_pos h, hs]; rfl

theorem vFillRoad_yes {cs : List Nat} {p b l x : Nat} (h : okB cs p b l = true) (hs : shrB x = true) : vFillRoad cs p b l x = (List.replicate 16 x, p, b, l, 0) := by unfold vFillRoad; rw [if_pos h, hs, if_pos rfl]

theorem vFillRoad_good {cs : List Nat} (hl : cs.length = 16) (p b l : Nat) (x : Nat) : goodL (vFillRoad cs p b l x).1 (vFillRoad cs p b l x).2.1 (vFillRoad cs p b l x).2.2.1 (vFillRoad cs p b l x).2.2.2.1 := by
  cases h : okB cs p b l
  · rw [vFillRoad_no h]; exact zero_good
  · cases hs : shrB x
    · rw [vFillRoad_bad h hs]; exact zero_good
    · rw [vFillRoad_yes h hs]
      obtain ⟨g1, g2, g3⟩ := okB_good hl h
      refine ⟨by simp, fun y hy => ?_, g3⟩
      obtain rfl := List.eq_of_mem_replicate hy
      exact nan_le (c := 1065353216) (by unfold shrB at hs; simpa using hs) (by omega)

theorem FillRoad_any (cs : List Nat) (p b l : Nat) (hl : cs.length = 16) (hc : ∀ x ∈ cs, x < 4294967296) (hp : p < 4294967296) (hb : b < 4294967296) (hla : l < 4294967296) (x : Nat) (hx : x < 4294967296) (w : World) :
    Calls Try.prog 10 #[.agg (rd cs p b l), .float .f32 x] w fun e w' => e = .returned (.tuple #[.agg (rd (vFillRoad cs p b l x).1 (vFillRoad cs p b l x).2.1 (vFillRoad cs p b l x).2.2.1 (vFillRoad cs p b l x).2.2.2.1), .int .i64 (vFillRoad cs p b l x).2.2.2.2]) ∧ Below w.heap.size w w' := by
  cases h : okB cs p b l
  · rw [vFillRoad_no h]; exact FillRoad_no cs p b l hl hc hp hb hla x hx h w
  · cases hs : shrB x
    · rw [vFillRoad_bad h hs]; exact FillRoad_bad cs p b l hl hc hp hb hla x hx h hs w
    · rw [vFillRoad_yes h hs]; exact FillRoad_yes cs p b l hl hc hp hb hla x hx h hs w

end Go.Proofs.Ytiaflomabgnmaaa

/-
  CONTRACTS: StepRoads, at all arguments.
-/
namespace Go.Proofs.Ytiaflomabgnmaaa
open Go Go.RowKit
set_option maxRecDepth 100000

def vStepRoads (cs : List Nat) (p b l o m : Nat) (n : Int) : List Nat × Nat × Nat × Nat × Nat × Nat × Int :=
  if stepsC (okB cs p b l) o m n = 0 then (itL p b cs (fun _ => o) (fun _ => m) n.toNat, p, b, l, itS p b cs (fun _ => o) (fun _ => m) 0 n.toNat, itS p b cs (fun _ => o) (fun _ => m) 16 n.toNat, 0) else (zeros 16, 0, 0, 0, 0, 0, stepsC (okB cs p b l) o m n)
theorem stepsC_zeroR {ok : Bool} {o m : Nat} {n : Int} (h : stepsC ok o m n = 0) : givenC ok o m = 0 ∧ 0 ≤ n ∧ n ≤ 400 := by
  unfold stepsC at h
  by_cases g : givenC ok o m = 0
  · rw [if_pos g] at h
    by_cases c : 0 ≤ n ∧ n ≤ 400
    · exact ⟨g, c⟩
    · rw [if_neg c] at h; cases h
  · rw [if_neg g] at h; exact absurd h g
theorem vStepRoads_good {cs : List Nat} (hl : cs.length = 16) (p b l o m : Nat) (n : Int) : goodL (vStepRoads cs p b l o m n).1 (vStepRoads cs p b l o m n).2.1 (vStepRoads cs p b l o m n).2.2.1 (vStepRoads cs p b l o m n).2.2.2.1 ∧ ((vStepRoads cs p b l o m n).2.2.2.2.1 < 4294967296 ∧ nanB (vStepRoads cs p b l o m n).2.2.2.2.1 = false) ∧ ((vStepRoads cs p b l o m n).2.2.2.2.2.1 < 4294967296 ∧ nanB (vStepRoads cs p b l o m n).2.2.2.2.2.1 = false) := by
  unfold vStepRoads
  by_cases h : stepsC (okB cs p b l) o m n = 0
  · rw [if_pos h]
    obtain ⟨hg, -⟩ := stepsC_zeroR h
    have hok := (given_zero hg).1
    have ok := OkR.of hl hok
    obtain ⟨g1, g2, g3, g4, g5⟩ := okB_good hl hok
    have ok2 := itL_ok ok (fun _ => o) (fun _ => m) n.toNat
    exact ⟨⟨ok2.len, fun y hy => nan_le (ok2.cars y hy) (by omega), g3, g4, g5⟩, nan_le (itS_facts ok (fun _ => o) (fun _ => m) 0 n.toNat) (by omega), nan_le (itS_facts ok (fun _ => o) (fun _ => m) 16 n.toNat) (by omega)⟩
  · rw [if_neg h]
    exact ⟨zero_good, ⟨show 0 < 4294967296 by decide, show nanB 0 = false by decide⟩, ⟨show 0 < 4294967296 by decide, show nanB 0 = false by decide⟩⟩

theorem StepRoads_any (cs : List Nat) (p b l : Nat) (hl : cs.length = 16) (hc : ∀ x ∈ cs, x < 4294967296) (hp : p < 4294967296) (hb : b < 4294967296) (hla : l < 4294967296) (o : Nat) (ho : o < 4294967296) (m : Nat) (hm : m < 4294967296) (n : Int) (w : World) :
    Calls Try.prog 11 #[.agg (rd cs p b l), .float .f32 o, .float .f32 m, .int .i64 n] w fun e w' => e = .returned (.tuple #[.agg (rd (vStepRoads cs p b l o m n).1 (vStepRoads cs p b l o m n).2.1 (vStepRoads cs p b l o m n).2.2.1 (vStepRoads cs p b l o m n).2.2.2.1), .float .f32 (vStepRoads cs p b l o m n).2.2.2.2.1, .float .f32 (vStepRoads cs p b l o m n).2.2.2.2.2.1, .int .i64 (vStepRoads cs p b l o m n).2.2.2.2.2.2]) ∧ Below w.heap.size w w' := by
  by_cases h : stepsC (okB cs p b l) o m n = 0
  · have e : (vStepRoads cs p b l o m n) = (itL p b cs (fun _ => o) (fun _ => m) n.toNat, p, b, l, itS p b cs (fun _ => o) (fun _ => m) 0 n.toNat, itS p b cs (fun _ => o) (fun _ => m) 16 n.toNat, 0) := by unfold vStepRoads; rw [if_pos h]
    rw [e]
    obtain ⟨hg, h0, h4⟩ := stepsC_zeroR h
    obtain ⟨k, rfl⟩ := Int.eq_ofNat_of_zero_le h0
    rw [Int.toNat_natCast]
    exact StepRoads_yes cs p b l hl hc hp hb hla o m ho hm k (by omega) hg w
  · have e : (vStepRoads cs p b l o m n) = (zeros 16, 0, 0, 0, 0, 0, stepsC (okB cs p b l) o m n) := by unfold vStepRoads; rw [if_neg h]
    rw [e]
    exact StepRoads_no cs p b l hl hc hp hb hla o m ho hm n h w

end Go.Proofs.Ytiaflomabgnmaaa
