/-
  CONTRACTS: MixRoads.
-/
import Derived.Test.YtldgacihegibmaaSpeedAt
import Derived.Test.YtldgacihegibmaaTail
import Derived.Test.YtldgacihegibmaaMix
import Derived.Deep.LoopGhost
namespace Go.Proofs.Ytldgacihegibmaa
open Go Go.RowKit
set_option maxRecDepth 100000

/-- a cell of the mix -/
def mixC (x a e : Nat) : Nat := min (addB (mulB a (subB 1065353216 x)) (mulB e x)) 1065353216
def mixL (cs es : List Nat) (x : Nat) : List Nat := rowOf 16 fun k => mixC x (nth cs k) (nth es k)
theorem mixL_len (cs es : List Nat) (x : Nat) : (mixL cs es x).length = 16 := rowOf_len _ _
theorem mixL_nth (cs es : List Nat) (x : Nat) {k : Nat} (hk : k < 16) : nth (mixL cs es x) k = mixC x (nth cs k) (nth es k) := rowOf_nth 16 (fun k => mixC x (nth cs k) (nth es k)) hk

theorem MixRoads_no (cs : List Nat) (p b l : Nat) (hl : cs.length = 16) (hc : ∀ x ∈ cs, x < 4294967296) (hp : p < 4294967296) (hb : b < 4294967296) (hla : l < 4294967296) (es : List Nat) (q c m : Nat) (hl' : es.length = 16) (hc' : ∀ x ∈ es, x < 4294967296) (hq' : q < 4294967296) (hb' : c < 4294967296) (hm' : m < 4294967296) (x : Nat) (_hx : x < 4294967296) (h : okB cs p b l = false) (w : World) :
    Calls Try.prog 57 #[.agg (rd cs p b l), .agg (rd es q c m), .float .f32 x] w fun e w' => e = .returned (.tuple #[.agg (rd (zeros 16) 0 0 0), .int .i64 1]) ∧ Below w.heap.size w w' := by
  have A0 : At (((w.alloc (.cells (rd cs p b l) 31)).alloc (.cells (rd es q c m) 31)).alloc (.cells (rd (zeros 16) 0 0 0) 31)) w.heap.size (rd cs p b l) 31 := ((At.new w _ _).alloc _).alloc _
  have E0 : At (((w.alloc (.cells (rd cs p b l) 31)).alloc (.cells (rd es q c m) 31)).alloc (.cells (rd (zeros 16) 0 0 0) 31)) (w.heap.size + 1) (rd es q c m) 31 := (At.last1 w _ _ _).alloc _
  have R0 : At (((w.alloc (.cells (rd cs p b l) 31)).alloc (.cells (rd es q c m) 31)).alloc (.cells (rd (zeros 16) 0 0 0) 31)) (w.heap.size + 1 + 1) (rd (zeros 16) 0 0 0) 31 := by
    have := At.new ((w.alloc (.cells (rd cs p b l) 31)).alloc (.cells (rd es q c m) 31)) (rd (zeros 16) 0 0 0) 31
    rwa [World.size_alloc, World.size_alloc] at this
  have B0 := Lib.hid (bnew (bnew (b0 w (.cells (rd cs p b l) 31)) (.cells (rd es q c m) 31)) (.cells (rd (zeros 16) 0 0 0) 31))
  go_enter Try.func57, Try.ntmps57
  go_wp2_with (((with_reducible refine is_load 31 _ rfl ?_); refine wpList_load_at rfl 31 _ rfl _ rfl (rd cs p b l) _ (by assumption) 19 (rd_size hl p b l) _ Try.underlying31 rfl (by kernel_rfl) ?_))
  refine (ValidRoad_any cs p b l hl hc hp hb hla _).mono ?_
  rintro e w1 ⟨rfl, hb1⟩
  have A1 := A0.step hb1
  have E1 := E0.step hb1
  have R1 := R0.step hb1
  have B1 := Lib.hid (bthen B0.out hb1)
  clear A0 E0 R0 B0 hb1
  have SZ : (rd (zeros 16) 0 0 0).size = 19 := rd_size (zeros_len 16) _ _ _
  have R9 := R1.setRow (rd (zeros 16) 0 0 0)
  have B9 := Lib.hid (bset B1.out (g := w.heap.size + 1 + 1) (by omega) (rd (zeros 16) 0 0 0))
  go_wp2_with (((with_reducible refine is_store 31 (.tmp 6) (.tmp 18) rfl ?_); refine wpList_store_at rfl 31 (.tmp 6) (.tmp 18) rfl _ rfl (rd (zeros 16) 0 0 0) rfl (rd (zeros 16) 0 0 0) _ (by assumption) 19 SZ (rd_size (zeros_len 16) _ _ _) (by kernel_rfl) (fl_one _) ?_))
  exact bodyPost_ret (v := .tuple #[.agg (rd (zeros 16) 0 0 0), .int .i64 1]) (results_at_tmp (p := 6) (ty := 31) rfl _ _ _ (rd (zeros 16) 0 0 0) _ (.int .i64 1) rfl rfl R9 _ Try.underlying31 rfl 19 (rd_size (zeros_len 16) _ _ _) (by kernel_rfl)) rfl ⟨rfl, B9.out⟩

theorem MixRoads_no2 (cs : List Nat) (p b l : Nat) (hl : cs.length = 16) (hc : ∀ x ∈ cs, x < 4294967296) (hp : p < 4294967296) (hb : b < 4294967296) (hla : l < 4294967296) (es : List Nat) (q c m : Nat) (hl' : es.length = 16) (hc' : ∀ x ∈ es, x < 4294967296) (hq' : q < 4294967296) (hb' : c < 4294967296) (hm' : m < 4294967296) (x : Nat) (_hx : x < 4294967296) (h : okB cs p b l = true) (h' : okB es q c m = false) (w : World) :
    Calls Try.prog 57 #[.agg (rd cs p b l), .agg (rd es q c m), .float .f32 x] w fun e w' => e = .returned (.tuple #[.agg (rd (zeros 16) 0 0 0), .int .i64 1]) ∧ Below w.heap.size w w' := by
  have A0 : At (((w.alloc (.cells (rd cs p b l) 31)).alloc (.cells (rd es q c m) 31)).alloc (.cells (rd (zeros 16) 0 0 0) 31)) w.heap.size (rd cs p b l) 31 := ((At.new w _ _).alloc _).alloc _
  have E0 : At (((w.alloc (.cells (rd cs p b l) 31)).alloc (.cells (rd es q c m) 31)).alloc (.cells (rd (zeros 16) 0 0 0) 31)) (w.heap.size + 1) (rd es q c m) 31 := (At.last1 w _ _ _).alloc _
  have R0 : At (((w.alloc (.cells (rd cs p b l) 31)).alloc (.cells (rd es q c m) 31)).alloc (.cells (rd (zeros 16) 0 0 0) 31)) (w.heap.size + 1 + 1) (rd (zeros 16) 0 0 0) 31 := by
    have := At.new ((w.alloc (.cells (rd cs p b l) 31)).alloc (.cells (rd es q c m) 31)) (rd (zeros 16) 0 0 0) 31
    rwa [World.size_alloc, World.size_alloc] at this
  have B0 := Lib.hid (bnew (bnew (b0 w (.cells (rd cs p b l) 31)) (.cells (rd es q c m) 31)) (.cells (rd (zeros 16) 0 0 0) 31))
  go_enter Try.func57, Try.ntmps57
  go_wp2_with (((with_reducible refine is_load 31 _ rfl ?_); refine wpList_load_at rfl 31 _ rfl _ rfl (rd cs p b l) _ (by assumption) 19 (rd_size hl p b l) _ Try.underlying31 rfl (by kernel_rfl) ?_))
  refine (ValidRoad_any cs p b l hl hc hp hb hla _).mono ?_
  rintro e w1 ⟨rfl, hb1⟩
  have A1 := A0.step hb1
  have E1 := E0.step hb1
  have R1 := R0.step hb1
  have B1 := Lib.hid (bthen B0.out hb1)
  clear A0 E0 R0 B0 hb1
  go_wp2_with ((with_reducible refine is_load 31 _ rfl ?_); refine wpList_load_g rfl 31 _ rfl _ rfl (rd es q c m) _ (by assumption) 19 (rd_size hl' q c m) _ Try.underlying31 rfl (by kernel_rfl) ?_)
  refine (ValidRoad_any es q c m hl' hc' hq' hb' hm' _).mono ?_
  rintro e w2 ⟨rfl, hb2⟩
  have A2 := A1.step hb2
  have E2 := E1.step hb2
  have R2 := R1.step hb2
  have B2 := Lib.hid (bthen B1.out hb2)
  clear A1 E1 R1 B1 hb2
  have SZ : (rd (zeros 16) 0 0 0).size = 19 := rd_size (zeros_len 16) _ _ _
  have R9 := R2.setRow (rd (zeros 16) 0 0 0)
  have B9 := Lib.hid (bset B2.out (g := w.heap.size + 1 + 1) (by omega) (rd (zeros 16) 0 0 0))
  go_wp2_with (((with_reducible refine is_store 31 (.tmp 6) (.tmp 18) rfl ?_); refine wpList_store_at rfl 31 (.tmp 6) (.tmp 18) rfl _ rfl (rd (zeros 16) 0 0 0) rfl (rd (zeros 16) 0 0 0) _ (by assumption) 19 SZ (rd_size (zeros_len 16) _ _ _) (by kernel_rfl) (fl_one _) ?_))
  exact bodyPost_ret (v := .tuple #[.agg (rd (zeros 16) 0 0 0), .int .i64 1]) (results_at_tmp (p := 6) (ty := 31) rfl _ _ _ (rd (zeros 16) 0 0 0) _ (.int .i64 1) rfl rfl R9 _ Try.underlying31 rfl 19 (rd_size (zeros_len 16) _ _ _) (by kernel_rfl)) rfl ⟨rfl, B9.out⟩

theorem MixRoads_bad (cs : List Nat) (p b l : Nat) (hl : cs.length = 16) (hc : ∀ x ∈ cs, x < 4294967296) (hp : p < 4294967296) (hb : b < 4294967296) (hla : l < 4294967296) (es : List Nat) (q c m : Nat) (hl' : es.length = 16) (hc' : ∀ x ∈ es, x < 4294967296) (hq' : q < 4294967296) (hb' : c < 4294967296) (hm' : m < 4294967296) (x : Nat) (hx : x < 4294967296) (h : okB cs p b l = true) (h' : okB es q c m = true) (hs : shrB x = false) (w : World) :
    Calls Try.prog 57 #[.agg (rd cs p b l), .agg (rd es q c m), .float .f32 x] w fun e w' => e = .returned (.tuple #[.agg (rd (zeros 16) 0 0 0), .int .i64 2]) ∧ Below w.heap.size w w' := by
  have A0 : At (((w.alloc (.cells (rd cs p b l) 31)).alloc (.cells (rd es q c m) 31)).alloc (.cells (rd (zeros 16) 0 0 0) 31)) w.heap.size (rd cs p b l) 31 := ((At.new w _ _).alloc _).alloc _
  have E0 : At (((w.alloc (.cells (rd cs p b l) 31)).alloc (.cells (rd es q c m) 31)).alloc (.cells (rd (zeros 16) 0 0 0) 31)) (w.heap.size + 1) (rd es q c m) 31 := (At.last1 w _ _ _).alloc _
  have R0 : At (((w.alloc (.cells (rd cs p b l) 31)).alloc (.cells (rd es q c m) 31)).alloc (.cells (rd (zeros 16) 0 0 0) 31)) (w.heap.size + 1 + 1) (rd (zeros 16) 0 0 0) 31 := by
    have := At.new ((w.alloc (.cells (rd cs p b l) 31)).alloc (.cells (rd es q c m) 31)) (rd (zeros 16) 0 0 0) 31
    rwa [World.size_alloc, World.size_alloc] at this
  have B0 := Lib.hid (bnew (bnew (b0 w (.cells (rd cs p b l) 31)) (.cells (rd es q c m) 31)) (.cells (rd (zeros 16) 0 0 0) 31))
  go_enter Try.func57, Try.ntmps57
  go_wp2_with (((with_reducible refine is_load 31 _ rfl ?_); refine wpList_load_at rfl 31 _ rfl _ rfl (rd cs p b l) _ (by assumption) 19 (rd_size hl p b l) _ Try.underlying31 rfl (by kernel_rfl) ?_))
  refine (ValidRoad_any cs p b l hl hc hp hb hla _).mono ?_
  rintro e w1 ⟨rfl, hb1⟩
  have A1 := A0.step hb1
  have E1 := E0.step hb1
  have R1 := R0.step hb1
  have B1 := Lib.hid (bthen B0.out hb1)
  clear A0 E0 R0 B0 hb1
  go_wp2_with ((with_reducible refine is_load 31 _ rfl ?_); refine wpList_load_g rfl 31 _ rfl _ rfl (rd es q c m) _ (by assumption) 19 (rd_size hl' q c m) _ Try.underlying31 rfl (by kernel_rfl) ?_)
  refine (ValidRoad_any es q c m hl' hc' hq' hb' hm' _).mono ?_
  rintro e w2 ⟨rfl, hb2⟩
  have A2 := A1.step hb2
  have E2 := E1.step hb2
  have R2 := R1.step hb2
  have B2 := Lib.hid (bthen B1.out hb2)
  clear A1 E1 R1 B1 hb2
  go_wp2_with fail
  refine (IsShare_any x hx _).mono ?_
  rintro e w3 ⟨rfl, n3, rfl⟩
  have A3 := A2.drewN n3
  have E3 := E2.drewN n3
  have R3 := R2.drewN n3
  have B3 := Lib.hid (bdrew B2.out n3)
  generalize w2.drewN n3 = w3 at A3 E3 R3 B3 ⊢
  clear A2 E2 R2 B2
  have SZ : (rd (zeros 16) 0 0 0).size = 19 := rd_size (zeros_len 16) _ _ _
  have R9 := R3.setRow (rd (zeros 16) 0 0 0)
  have B9 := Lib.hid (bset B3.out (g := w.heap.size + 1 + 1) (by omega) (rd (zeros 16) 0 0 0))
  go_wp2_with (((with_reducible refine is_store 31 (.tmp 6) (.tmp 22) rfl ?_); refine wpList_store_at rfl 31 (.tmp 6) (.tmp 22) rfl _ rfl (rd (zeros 16) 0 0 0) rfl (rd (zeros 16) 0 0 0) _ (by assumption) 19 SZ (rd_size (zeros_len 16) _ _ _) (by kernel_rfl) (fl_one _) ?_))
  exact bodyPost_ret (v := .tuple #[.agg (rd (zeros 16) 0 0 0), .int .i64 2]) (results_at_tmp (p := 6) (ty := 31) rfl _ _ _ (rd (zeros 16) 0 0 0) _ (.int .i64 2) rfl rfl R9 _ Try.underlying31 rfl 19 (rd_size (zeros_len 16) _ _ _) (by kernel_rfl)) rfl ⟨rfl, B9.out⟩

theorem MixRoads_yes (cs : List Nat) (p b l : Nat) (hl : cs.length = 16) (hc : ∀ x ∈ cs, x < 4294967296) (hp : p < 4294967296) (hb : b < 4294967296) (hla : l < 4294967296) (es : List Nat) (q c m : Nat) (hl' : es.length = 16) (hc' : ∀ x ∈ es, x < 4294967296) (hq' : q < 4294967296) (hb' : c < 4294967296) (hm' : m < 4294967296) (x : Nat) (hx : x < 4294967296) (h : okB cs p b l = true) (h' : okB es q c m = true) (hs : shrB x = true) (w : World) :
    Calls Try.prog 57 #[.agg (rd cs p b l), .agg (rd es q c m), .float .f32 x] w fun e w' => e = .returned (.tuple #[.agg (rd (mixL cs es x) p b l), .int .i64 0]) ∧ Below w.heap.size w w' := by
  have A0 : At (((w.alloc (.cells (rd cs p b l) 31)).alloc (.cells (rd es q c m) 31)).alloc (.cells (rd (zeros 16) 0 0 0) 31)) w.heap.size (rd cs p b l) 31 := ((At.new w _ _).alloc _).alloc _
  have E0 : At (((w.alloc (.cells (rd cs p b l) 31)).alloc (.cells (rd es q c m) 31)).alloc (.cells (rd (zeros 16) 0 0 0) 31)) (w.heap.size + 1) (rd es q c m) 31 := (At.last1 w _ _ _).alloc _
  have R0 : At (((w.alloc (.cells (rd cs p b l) 31)).alloc (.cells (rd es q c m) 31)).alloc (.cells (rd (zeros 16) 0 0 0) 31)) (w.heap.size + 1 + 1) (rd (zeros 16) 0 0 0) 31 := by
    have := At.new ((w.alloc (.cells (rd cs p b l) 31)).alloc (.cells (rd es q c m) 31)) (rd (zeros 16) 0 0 0) 31
    rwa [World.size_alloc, World.size_alloc] at this
  have B0 := Lib.hid (bnew (bnew (b0 w (.cells (rd cs p b l) 31)) (.cells (rd es q c m) 31)) (.cells (rd (zeros 16) 0 0 0) 31))
  go_enter Try.func57, Try.ntmps57
  go_wp2_with (((with_reducible refine is_load 31 _ rfl ?_); refine wpList_load_at rfl 31 _ rfl _ rfl (rd cs p b l) _ (by assumption) 19 (rd_size hl p b l) _ Try.underlying31 rfl (by kernel_rfl) ?_))
  refine (ValidRoad_any cs p b l hl hc hp hb hla _).mono ?_
  rintro e w1 ⟨rfl, hb1⟩
  have A1 := A0.step hb1
  have E1 := E0.step hb1
  have R1 := R0.step hb1
  have B1 := Lib.hid (bthen B0.out hb1)
  clear A0 E0 R0 B0 hb1
  go_wp2_with ((with_reducible refine is_load 31 _ rfl ?_); refine wpList_load_g rfl 31 _ rfl _ rfl (rd es q c m) _ (by assumption) 19 (rd_size hl' q c m) _ Try.underlying31 rfl (by kernel_rfl) ?_)
  refine (ValidRoad_any es q c m hl' hc' hq' hb' hm' _).mono ?_
  rintro e w2 ⟨rfl, hb2⟩
  have A2 := A1.step hb2
  have E2 := E1.step hb2
  have R2 := R1.step hb2
  have B2 := Lib.hid (bthen B1.out hb2)
  clear A1 E1 R1 B1 hb2
  go_wp2_with fail
  refine (IsShare_any x hx _).mono ?_
  rintro e w3 ⟨rfl, n3, rfl⟩
  have A3 := A2.drewN n3
  have E3 := E2.drewN n3
  have R3 := R2.drewN n3
  have B3 := Lib.hid (bdrew B2.out n3)
  generalize w2.drewN n3 = w3 at A3 E3 R3 B3 ⊢
  clear A2 E2 R2 B2
  have x1 : x ≤ 1065353216 := by unfold shrB at hs; simpa using hs
  have hr := one_sub x1
  have r0 : ∀ t w, (binOp .sub t (.float .f32 1065353216) (.float .f32 x)).run Try.prog w = .ok (.float .f32 (subB 1065353216 x)) w := fun t w => run_float_arith w .sub t .f32 _ _ _ hr.1
  have ok := OkR.of hl h
  have ok' := OkR.of hl' h'
  have X := Lib.hid (And.intro x1 hr)
  have OK := Lib.hid (And.intro ok ok')
  clear x1 hr ok ok'
  have BB3 := B3
  go_wp2
  go_loopw [25] (fun i wr => ∃ k : Nat, k ≤ 16 ∧ i = .int .i64 k ∧ At wr w.heap.size (rd (mixTo (mixL cs es x) cs k) p b l) 31 ∧ At wr (w.heap.size + 1) (rd es q c m) 31 ∧ At wr (w.heap.size + 1 + 1) (rd (zeros 16) 0 0 0) 31 ∧ Hid (Below w.heap.size w wr)) (fun i _ => 16 - (intOf i).toNat)
  case atStart => exact ⟨0, by omega, rfl, by rw [mixTo_zero]; exact A3, E3, R3, BB3⟩
  case round =>
    obtain ⟨k, hk, rfl, A4, E4, R4, B4⟩ := hrel
    clear A3 E3 R3 B3 BB3
    have hL := mixTo_len (mixL_len cs es x) hl hk
    by_cases hlt : k < 16
    · have d1 := rd_cell hL p b l hlt
      rw [mixTo_nth (mixL_len cs es x) hl hlt] at d1
      have d2 := rd_cell hl' q c m hlt
      have g1 := mul_one_le (OK.out.1.car k) X.out.2.2
      have g2 := mul_one_le (OK.out.2.car k) X.out.1
      have g3 := add_any (Nat.le_trans g1.2 (by omega)) (Nat.le_trans g2.2 (by omega))
      have f1 : ∀ t w, (binOp .mul t (.float .f32 (nth cs k)) (.float .f32 (subB 1065353216 x))).run Try.prog w = .ok (.float .f32 (mulB (nth cs k) (subB 1065353216 x))) w := fun t w => run_float_arith w .mul t .f32 _ _ _ g1.1
      have f2 : ∀ t w, (binOp .mul t (.float .f32 (nth es k)) (.float .f32 x)).run Try.prog w = .ok (.float .f32 (mulB (nth es k) x)) w := fun t w => run_float_arith w .mul t .f32 _ _ _ g2.1
      have f3 : ∀ t w, (binOp .add t (.float .f32 (mulB (nth cs k) (subB 1065353216 x))) (.float .f32 (mulB (nth es k) x))).run Try.prog w = .ok (.float .f32 (addB (mulB (nth cs k) (subB 1065353216 x)) (mulB (nth es k) x))) w := fun t w => run_float_arith w .add t .f32 _ _ _ g3.1
      have hs9 := g3.2
      have hm : ∀ ts t w, (Builtin.min_ ts t #[.float .f32 (addB (mulB (nth cs k) (subB 1065353216 x)) (mulB (nth es k) x)), .float .f32 1065353216]).run Try.prog w = .ok (.float .f32 (mixC x (nth cs k) (nth es k))) w := fun ts t w => run_min_amt w ts t hs9 (by omega)
      have hC := Cb.const wr
      clear g1 g2 g3
      go_wp2
      refine wp_region_cb_tail 17 (by kernel_rfl) (by kernel_rfl) ?_
      simp only [List.take, List.drop]
      repeat (first
        | go_big_quiet_skip
        | (go_big_quiet_want; first
          | (refine q_cell 22 _ rfl _ Try.underlying22 _ rfl A4 _ (by assumption) ?_; go_simp; go_big_quiet_on)
          | (refine q_cell 22 _ rfl _ Try.underlying22 _ rfl E4 _ (by assumption) ?_; go_simp; go_big_quiet_on)
          | (go_big_quiet_op; go_big_quiet_on)))
      refine wpQuiet_nil ?_
      intro w9 hw9
      have A5 := A4.step hw9
      have E5 := E4.step hw9
      have R5 := R4.step hw9
      have B5 := Lib.hid (bthen B4.out hw9)
      clear A4 E4 R4 B4 hw9 hC d1 d2 f1 f2 f3 hm hs9
      have G := run_store_one (P := Try.prog) w9 w.heap.size k 31 (rd (mixTo (mixL cs es x) cs k) p b l) (.float .f32 (mixC x (nth cs k) (nth es k))) A5 (by rw [rd_size hL]; omega) rfl
      rw [rd_put hL p b l hlt, show mixC x (nth cs k) (nth es k) = nth (mixL cs es x) k from (mixL_nth cs es x hlt).symm, mixTo_set (mixL_len cs es x) hl hlt, mixL_nth cs es x hlt] at G
      have A6 := A5.setRow (rd (mixTo (mixL cs es x) cs (k + 1)) p b l)
      have E6 := E5.setRow_other (k := w.heap.size) (by omega) (rd (mixTo (mixL cs es x) cs (k + 1)) p b l)
      have R6 := R5.setRow_other (k := w.heap.size) (by omega) (rd (mixTo (mixL cs es x) cs (k + 1)) p b l)
      have B6 := Lib.hid (bset B5.out (g := w.heap.size) (Nat.le_refl _) (rd (mixTo (mixL cs es x) cs (k + 1)) p b l))
      clear A5 E5 R5 B5 hL
      go_wp2
      exact ⟨⟨k + 1, by omega, by go_num, A6, E6, R6, B6⟩, by simp [intOf]; omega⟩
    · obtain rfl : k = 16 := by omega
      rw [mixTo_all (mixL_len cs es x) hl] at A4
      have SZ : (rd (mixL cs es x) p b l).size = 19 := rd_size (mixL_len cs es x) p b l
      have R9 := R4.setRow (rd (mixL cs es x) p b l)
      have B9 := Lib.hid (bset B4.out (g := w.heap.size + 1 + 1) (by omega) (rd (mixL cs es x) p b l))
      go_wp2_with (first | ((with_reducible refine is_load 31 _ rfl ?_); refine wpList_load_at rfl 31 _ rfl _ rfl (rd (mixL cs es x) p b l) _ (by assumption) 19 (SZ) _ Try.underlying31 rfl (by kernel_rfl) ?_) | ((with_reducible refine is_store 31 (.tmp 6) (.tmp 46) rfl ?_); refine wpList_store_at rfl 31 (.tmp 6) (.tmp 46) rfl _ rfl (rd (mixL cs es x) p b l) rfl (rd (zeros 16) 0 0 0) _ (by assumption) 19 SZ (rd_size (zeros_len 16) _ _ _) (by kernel_rfl) (fl_one _) ?_))
      exact bodyPost_ret (v := .tuple #[.agg (rd (mixL cs es x) p b l), .int .i64 0]) (results_at_tmp (p := 6) (ty := 31) rfl _ _ _ (rd (mixL cs es x) p b l) _ (.int .i64 0) rfl rfl R9 _ Try.underlying31 rfl 19 (SZ) (by kernel_rfl)) rfl ⟨rfl, B9.out⟩

theorem sMixRoads_no (cs : List Nat) (p b l : Nat) (hl : cs.length = 16) (hc : ∀ x ∈ cs, x < 4294967296) (hp : p < 4294967296) (hb : b < 4294967296) (hla : l < 4294967296) (es : List Nat) (q c m : Nat) (hl' : es.length = 16) (hc' : ∀ x ∈ es, x < 4294967296) (hq' : q < 4294967296) (hb' : c < 4294967296) (hm' : m < 4294967296) (x : Nat) (_hx : x < 4294967296) (h : okB cs p b l = false) (w : World) :
    Calls Try.prog 56 #[.agg (rd cs p b l), .agg (rd es q c m), .float .f32 x] w fun e w' => e = .returned (.tuple #[.agg (rd (zeros 16) 0 0 0), .int .i64 1]) ∧ Below w.heap.size w w' := by
  have A0 : At (((w.alloc (.cells (rd cs p b l) 31)).alloc (.cells (rd es q c m) 31)).alloc (.cells (rd (zeros 16) 0 0 0) 31)) w.heap.size (rd cs p b l) 31 := ((At.new w _ _).alloc _).alloc _
  have E0 : At (((w.alloc (.cells (rd cs p b l) 31)).alloc (.cells (rd es q c m) 31)).alloc (.cells (rd (zeros 16) 0 0 0) 31)) (w.heap.size + 1) (rd es q c m) 31 := (At.last1 w _ _ _).alloc _
  have R0 : At (((w.alloc (.cells (rd cs p b l) 31)).alloc (.cells (rd es q c m) 31)).alloc (.cells (rd (zeros 16) 0 0 0) 31)) (w.heap.size + 1 + 1) (rd (zeros 16) 0 0 0) 31 := by
    have := At.new ((w.alloc (.cells (rd cs p b l) 31)).alloc (.cells (rd es q c m) 31)) (rd (zeros 16) 0 0 0) 31
    rwa [World.size_alloc, World.size_alloc] at this
  have B0 := Lib.hid (bnew (bnew (b0 w (.cells (rd cs p b l) 31)) (.cells (rd es q c m) 31)) (.cells (rd (zeros 16) 0 0 0) 31))
  go_enter Try.func56, Try.ntmps56
  go_wp2_with fail
  refine (l01Ok_any _ cs p b l hl hc hp hb hla _ ⟨_, _, A0⟩).mono ?_
  rintro e w1 ⟨rfl, n1, rfl⟩
  have A1 := A0.drewN n1
  have E1 := E0.drewN n1
  have R1 := R0.drewN n1
  have B1 := Lib.hid (bdrew B0.out n1)
  generalize (((w.alloc (.cells (rd cs p b l) 31)).alloc (.cells (rd es q c m) 31)).alloc (.cells (rd (zeros 16) 0 0 0) 31)).drewN n1 = w1 at A1 E1 R1 B1 ⊢
  clear A0 E0 R0 B0
  have SZ : (rd (zeros 16) 0 0 0).size = 19 := rd_size (zeros_len 16) _ _ _
  have R9 := R1.setRow (rd (zeros 16) 0 0 0)
  have B9 := Lib.hid (bset B1.out (g := w.heap.size + 1 + 1) (by omega) (rd (zeros 16) 0 0 0))
  go_wp2_with (((with_reducible refine is_store 31 (.tmp 6) (.tmp 15) rfl ?_); refine wpList_store_at rfl 31 (.tmp 6) (.tmp 15) rfl _ rfl (rd (zeros 16) 0 0 0) rfl (rd (zeros 16) 0 0 0) _ (by assumption) 19 SZ (rd_size (zeros_len 16) _ _ _) (by kernel_rfl) (fl_one _) ?_))
  exact bodyPost_ret (v := .tuple #[.agg (rd (zeros 16) 0 0 0), .int .i64 1]) (results_at_tmp (p := 6) (ty := 31) rfl _ _ _ (rd (zeros 16) 0 0 0) _ (.int .i64 1) rfl rfl R9 _ Try.underlying31 rfl 19 (rd_size (zeros_len 16) _ _ _) (by kernel_rfl)) rfl ⟨rfl, B9.out⟩

theorem sMixRoads_no2 (cs : List Nat) (p b l : Nat) (hl : cs.length = 16) (hc : ∀ x ∈ cs, x < 4294967296) (hp : p < 4294967296) (hb : b < 4294967296) (hla : l < 4294967296) (es : List Nat) (q c m : Nat) (hl' : es.length = 16) (hc' : ∀ x ∈ es, x < 4294967296) (hq' : q < 4294967296) (hb' : c < 4294967296) (hm' : m < 4294967296) (x : Nat) (_hx : x < 4294967296) (h : okB cs p b l = true) (h' : okB es q c m = false) (w : World) :
    Calls Try.prog 56 #[.agg (rd cs p b l), .agg (rd es q c m), .float .f32 x] w fun e w' => e = .returned (.tuple #[.agg (rd (zeros 16) 0 0 0), .int .i64 1]) ∧ Below w.heap.size w w' := by
  have A0 : At (((w.alloc (.cells (rd cs p b l) 31)).alloc (.cells (rd es q c m) 31)).alloc (.cells (rd (zeros 16) 0 0 0) 31)) w.heap.size (rd cs p b l) 31 := ((At.new w _ _).alloc _).alloc _
  have E0 : At (((w.alloc (.cells (rd cs p b l) 31)).alloc (.cells (rd es q c m) 31)).alloc (.cells (rd (zeros 16) 0 0 0) 31)) (w.heap.size + 1) (rd es q c m) 31 := (At.last1 w _ _ _).alloc _
  have R0 : At (((w.alloc (.cells (rd cs p b l) 31)).alloc (.cells (rd es q c m) 31)).alloc (.cells (rd (zeros 16) 0 0 0) 31)) (w.heap.size + 1 + 1) (rd (zeros 16) 0 0 0) 31 := by
    have := At.new ((w.alloc (.cells (rd cs p b l) 31)).alloc (.cells (rd es q c m) 31)) (rd (zeros 16) 0 0 0) 31
    rwa [World.size_alloc, World.size_alloc] at this
  have B0 := Lib.hid (bnew (bnew (b0 w (.cells (rd cs p b l) 31)) (.cells (rd es q c m) 31)) (.cells (rd (zeros 16) 0 0 0) 31))
  go_enter Try.func56, Try.ntmps56
  go_wp2_with fail
  refine (l01Ok_any _ cs p b l hl hc hp hb hla _ ⟨_, _, A0⟩).mono ?_
  rintro e w1 ⟨rfl, n1, rfl⟩
  have A1 := A0.drewN n1
  have E1 := E0.drewN n1
  have R1 := R0.drewN n1
  have B1 := Lib.hid (bdrew B0.out n1)
  generalize (((w.alloc (.cells (rd cs p b l) 31)).alloc (.cells (rd es q c m) 31)).alloc (.cells (rd (zeros 16) 0 0 0) 31)).drewN n1 = w1 at A1 E1 R1 B1 ⊢
  clear A0 E0 R0 B0
  go_wp2_with fail
  refine (l01Ok_any _ es q c m hl' hc' hq' hb' hm' _ ⟨_, _, E1⟩).mono ?_
  rintro e w2 ⟨rfl, n2, rfl⟩
  have A2 := A1.drewN n2
  have E2 := E1.drewN n2
  have R2 := R1.drewN n2
  have B2 := Lib.hid (bdrew B1.out n2)
  generalize w1.drewN n2 = w2 at A2 E2 R2 B2 ⊢
  clear A1 E1 R1 B1
  have SZ : (rd (zeros 16) 0 0 0).size = 19 := rd_size (zeros_len 16) _ _ _
  have R9 := R2.setRow (rd (zeros 16) 0 0 0)
  have B9 := Lib.hid (bset B2.out (g := w.heap.size + 1 + 1) (by omega) (rd (zeros 16) 0 0 0))
  go_wp2_with (((with_reducible refine is_store 31 (.tmp 6) (.tmp 15) rfl ?_); refine wpList_store_at rfl 31 (.tmp 6) (.tmp 15) rfl _ rfl (rd (zeros 16) 0 0 0) rfl (rd (zeros 16) 0 0 0) _ (by assumption) 19 SZ (rd_size (zeros_len 16) _ _ _) (by kernel_rfl) (fl_one _) ?_))
  exact bodyPost_ret (v := .tuple #[.agg (rd (zeros 16) 0 0 0), .int .i64 1]) (results_at_tmp (p := 6) (ty := 31) rfl _ _ _ (rd (zeros 16) 0 0 0) _ (.int .i64 1) rfl rfl R9 _ Try.underlying31 rfl 19 (rd_size (zeros_len 16) _ _ _) (by kernel_rfl)) rfl ⟨rfl, B9.out⟩

theorem sMixRoads_bad (cs : List Nat) (p b l : Nat) (hl : cs.length = 16) (hc : ∀ x ∈ cs, x < 4294967296) (hp : p < 4294967296) (hb : b < 4294967296) (hla : l < 4294967296) (es : List Nat) (q c m : Nat) (hl' : es.length = 16) (hc' : ∀ x ∈ es, x < 4294967296) (hq' : q < 4294967296) (hb' : c < 4294967296) (hm' : m < 4294967296) (x : Nat) (hx : x < 4294967296) (h : okB cs p b l = true) (h' : okB es q c m = true) (hs : shrB x = false) (w : World) :
    Calls Try.prog 56 #[.agg (rd cs p b l), .agg (rd es q c m), .float .f32 x] w fun e w' => e = .returned (.tuple #[.agg (rd (zeros 16) 0 0 0), .int .i64 2]) ∧ Below w.heap.size w w' := by
  have A0 : At (((w.alloc (.cells (rd cs p b l) 31)).alloc (.cells (rd es q c m) 31)).alloc (.cells (rd (zeros 16) 0 0 0) 31)) w.heap.size (rd cs p b l) 31 := ((At.new w _ _).alloc _).alloc _
  have E0 : At (((w.alloc (.cells (rd cs p b l) 31)).alloc (.cells (rd es q c m) 31)).alloc (.cells (rd (zeros 16) 0 0 0) 31)) (w.heap.size + 1) (rd es q c m) 31 := (At.last1 w _ _ _).alloc _
  have R0 : At (((w.alloc (.cells (rd cs p b l) 31)).alloc (.cells (rd es q c m) 31)).alloc (.cells (rd (zeros 16) 0 0 0) 31)) (w.heap.size + 1 + 1) (rd (zeros 16) 0 0 0) 31 := by
    have := At.new ((w.alloc (.cells (rd cs p b l) 31)).alloc (.cells (rd es q c m) 31)) (rd (zeros 16) 0 0 0) 31
    rwa [World.size_alloc, World.size_alloc] at this
  have B0 := Lib.hid (bnew (bnew (b0 w (.cells (rd cs p b l) 31)) (.cells (rd es q c m) 31)) (.cells (rd (zeros 16) 0 0 0) 31))
  go_enter Try.func56, Try.ntmps56
  go_wp2_with fail
  refine (l01Ok_any _ cs p b l hl hc hp hb hla _ ⟨_, _, A0⟩).mono ?_
  rintro e w1 ⟨rfl, n1, rfl⟩
  have A1 := A0.drewN n1
  have E1 := E0.drewN n1
  have R1 := R0.drewN n1
  have B1 := Lib.hid (bdrew B0.out n1)
  generalize (((w.alloc (.cells (rd cs p b l) 31)).alloc (.cells (rd es q c m) 31)).alloc (.cells (rd (zeros 16) 0 0 0) 31)).drewN n1 = w1 at A1 E1 R1 B1 ⊢
  clear A0 E0 R0 B0
  go_wp2_with fail
  refine (l01Ok_any _ es q c m hl' hc' hq' hb' hm' _ ⟨_, _, E1⟩).mono ?_
  rintro e w2 ⟨rfl, n2, rfl⟩
  have A2 := A1.drewN n2
  have E2 := E1.drewN n2
  have R2 := R1.drewN n2
  have B2 := Lib.hid (bdrew B1.out n2)
  generalize w1.drewN n2 = w2 at A2 E2 R2 B2 ⊢
  clear A1 E1 R1 B1
  go_wp2_with fail
  refine (l01Share_any x hx _).mono ?_
  rintro e w3 ⟨rfl, n3, rfl⟩
  have A3 := A2.drewN n3
  have E3 := E2.drewN n3
  have R3 := R2.drewN n3
  have B3 := Lib.hid (bdrew B2.out n3)
  generalize w2.drewN n3 = w3 at A3 E3 R3 B3 ⊢
  clear A2 E2 R2 B2
  have SZ : (rd (zeros 16) 0 0 0).size = 19 := rd_size (zeros_len 16) _ _ _
  have R9 := R3.setRow (rd (zeros 16) 0 0 0)
  have B9 := Lib.hid (bset B3.out (g := w.heap.size + 1 + 1) (by omega) (rd (zeros 16) 0 0 0))
  go_wp2_with (((with_reducible refine is_store 31 (.tmp 6) (.tmp 19) rfl ?_); refine wpList_store_at rfl 31 (.tmp 6) (.tmp 19) rfl _ rfl (rd (zeros 16) 0 0 0) rfl (rd (zeros 16) 0 0 0) _ (by assumption) 19 SZ (rd_size (zeros_len 16) _ _ _) (by kernel_rfl) (fl_one _) ?_))
  exact bodyPost_ret (v := .tuple #[.agg (rd (zeros 16) 0 0 0), .int .i64 2]) (results_at_tmp (p := 6) (ty := 31) rfl _ _ _ (rd (zeros 16) 0 0 0) _ (.int .i64 2) rfl rfl R9 _ Try.underlying31 rfl 19 (rd_size (zeros_len 16) _ _ _) (by kernel_rfl)) rfl ⟨rfl, B9.out⟩

theorem sMixRoads_yes (cs : List Nat) (p b l : Nat) (hl : cs.length = 16) (hc : ∀ x ∈ cs, x < 4294967296) (hp : p < 4294967296) (hb : b < 4294967296) (hla : l < 4294967296) (es : List Nat) (q c m : Nat) (hl' : es.length = 16) (hc' : ∀ x ∈ es, x < 4294967296) (hq' : q < 4294967296) (hb' : c < 4294967296) (hm' : m < 4294967296) (x : Nat) (hx : x < 4294967296) (h : okB cs p b l = true) (h' : okB es q c m = true) (hs : shrB x = true) (w : World) :
    Calls Try.prog 56 #[.agg (rd cs p b l), .agg (rd es q c m), .float .f32 x] w fun e w' => e = .returned (.tuple #[.agg (rd (mixL cs es x) p b l), .int .i64 0]) ∧ Below w.heap.size w w' := by
  have A0 : At (((w.alloc (.cells (rd cs p b l) 31)).alloc (.cells (rd es q c m) 31)).alloc (.cells (rd (zeros 16) 0 0 0) 31)) w.heap.size (rd cs p b l) 31 := ((At.new w _ _).alloc _).alloc _
  have E0 : At (((w.alloc (.cells (rd cs p b l) 31)).alloc (.cells (rd es q c m) 31)).alloc (.cells (rd (zeros 16) 0 0 0) 31)) (w.heap.size + 1) (rd es q c m) 31 := (At.last1 w _ _ _).alloc _
  have R0 : At (((w.alloc (.cells (rd cs p b l) 31)).alloc (.cells (rd es q c m) 31)).alloc (.cells (rd (zeros 16) 0 0 0) 31)) (w.heap.size + 1 + 1) (rd (zeros 16) 0 0 0) 31 := by
    have := At.new ((w.alloc (.cells (rd cs p b l) 31)).alloc (.cells (rd es q c m) 31)) (rd (zeros 16) 0 0 0) 31
    rwa [World.size_alloc, World.size_alloc] at this
  have B0 := Lib.hid (bnew (bnew (b0 w (.cells (rd cs p b l) 31)) (.cells (rd es q c m) 31)) (.cells (rd (zeros 16) 0 0 0) 31))
  go_enter Try.func56, Try.ntmps56
  go_wp2_with fail
  refine (l01Ok_any _ cs p b l hl hc hp hb hla _ ⟨_, _, A0⟩).mono ?_
  rintro e w1 ⟨rfl, n1, rfl⟩
  have A1 := A0.drewN n1
  have E1 := E0.drewN n1
  have R1 := R0.drewN n1
  have B1 := Lib.hid (bdrew B0.out n1)
  generalize (((w.alloc (.cells (rd cs p b l) 31)).alloc (.cells (rd es q c m) 31)).alloc (.cells (rd (zeros 16) 0 0 0) 31)).drewN n1 = w1 at A1 E1 R1 B1 ⊢
  clear A0 E0 R0 B0
  go_wp2_with fail
  refine (l01Ok_any _ es q c m hl' hc' hq' hb' hm' _ ⟨_, _, E1⟩).mono ?_
  rintro e w2 ⟨rfl, n2, rfl⟩
  have A2 := A1.drewN n2
  have E2 := E1.drewN n2
  have R2 := R1.drewN n2
  have B2 := Lib.hid (bdrew B1.out n2)
  generalize w1.drewN n2 = w2 at A2 E2 R2 B2 ⊢
  clear A1 E1 R1 B1
  go_wp2_with fail
  refine (l01Share_any x hx _).mono ?_
  rintro e w3 ⟨rfl, n3, rfl⟩
  have A3 := A2.drewN n3
  have E3 := E2.drewN n3
  have R3 := R2.drewN n3
  have B3 := Lib.hid (bdrew B2.out n3)
  generalize w2.drewN n3 = w3 at A3 E3 R3 B3 ⊢
  clear A2 E2 R2 B2
  have x1 : x ≤ 1065353216 := by unfold shrB at hs; simpa using hs
  have hr := one_sub x1
  have r0 : ∀ t w, (binOp .sub t (.float .f32 1065353216) (.float .f32 x)).run Try.prog w = .ok (.float .f32 (subB 1065353216 x)) w := fun t w => run_float_arith w .sub t .f32 _ _ _ hr.1
  have ok := OkR.of hl h
  have ok' := OkR.of hl' h'
  have X := Lib.hid (And.intro x1 hr)
  have OK := Lib.hid (And.intro ok ok')
  clear x1 hr ok ok'
  have BB3 := B3
  go_wp2
  go_loopw [8] (fun i wr => ∃ k : Nat, k ≤ 16 ∧ i = .int .i64 k ∧ At wr w.heap.size (rd (mixTo (mixL cs es x) cs k) p b l) 31 ∧ At wr (w.heap.size + 1) (rd es q c m) 31 ∧ At wr (w.heap.size + 1 + 1) (rd (zeros 16) 0 0 0) 31 ∧ Hid (Below w.heap.size w wr)) (fun i _ => 16 - (intOf i).toNat)
  case atStart => exact ⟨0, by omega, rfl, by rw [mixTo_zero]; exact A3, E3, R3, BB3⟩
  case round =>
    obtain ⟨k, hk, rfl, A4, E4, R4, B4⟩ := hrel
    clear A3 E3 R3 B3 BB3
    have hL := mixTo_len (mixL_len cs es x) hl hk
    by_cases hlt : k < 16
    · have d1 := rd_cell hL p b l hlt
      rw [mixTo_nth (mixL_len cs es x) hl hlt] at d1
      have d2 := rd_cell hl' q c m hlt
      have g1 := mul_one_le (OK.out.1.car k) X.out.2.2
      have g2 := mul_one_le (OK.out.2.car k) X.out.1
      have g3 := add_any (Nat.le_trans g1.2 (by omega)) (Nat.le_trans g2.2 (by omega))
      have f1 : ∀ t w, (binOp .mul t (.float .f32 (nth cs k)) (.float .f32 (subB 1065353216 x))).run Try.prog w = .ok (.float .f32 (mulB (nth cs k) (subB 1065353216 x))) w := fun t w => run_float_arith w .mul t .f32 _ _ _ g1.1
      have f2 : ∀ t w, (binOp .mul t (.float .f32 (nth es k)) (.float .f32 x)).run Try.prog w = .ok (.float .f32 (mulB (nth es k) x)) w := fun t w => run_float_arith w .mul t .f32 _ _ _ g2.1
      have f3 : ∀ t w, (binOp .add t (.float .f32 (mulB (nth cs k) (subB 1065353216 x))) (.float .f32 (mulB (nth es k) x))).run Try.prog w = .ok (.float .f32 (addB (mulB (nth cs k) (subB 1065353216 x)) (mulB (nth es k) x))) w := fun t w => run_float_arith w .add t .f32 _ _ _ g3.1
      have hs9 := g3.2
      have hm : ∀ ts t w, (Builtin.min_ ts t #[.float .f32 (addB (mulB (nth cs k) (subB 1065353216 x)) (mulB (nth es k) x)), .float .f32 1065353216]).run Try.prog w = .ok (.float .f32 (mixC x (nth cs k) (nth es k))) w := fun ts t w => run_min_amt w ts t hs9 (by omega)
      have hC := Cb.const wr
      clear g1 g2 g3
      go_wp2
      refine wp_region_cb_tail 18 (by kernel_rfl) (by kernel_rfl) ?_
      simp only [List.take, List.drop]
      repeat (first
        | go_big_quiet_skip
        | (go_big_quiet_want; first
          | (refine q_cell 22 _ rfl _ Try.underlying22 _ rfl A4 _ (by assumption) ?_; go_simp; go_big_quiet_on)
          | (refine q_cell 22 _ rfl _ Try.underlying22 _ rfl E4 _ (by assumption) ?_; go_simp; go_big_quiet_on)
          | (go_big_quiet_op; go_big_quiet_on)
          | (go_big_quiet_op; apply Exists.intro; refine ⟨fun w' hw' => ?_, ?_⟩; (go_at_call 82; exact (l01Less_b _ _ hs9 (by omega) _).mono fun _ _ h => ⟨h.1, hw'.step h.2⟩); go_big_quiet_on)))
      refine wpQuiet_nil ?_
      intro w9 hw9
      have A5 := A4.step hw9
      have E5 := E4.step hw9
      have R5 := R4.step hw9
      have B5 := Lib.hid (bthen B4.out hw9)
      clear A4 E4 R4 B4 hw9 hC d1 d2 f1 f2 f3 hm hs9
      have G := run_store_one (P := Try.prog) w9 w.heap.size k 31 (rd (mixTo (mixL cs es x) cs k) p b l) (.float .f32 (mixC x (nth cs k) (nth es k))) A5 (by rw [rd_size hL]; omega) rfl
      rw [rd_put hL p b l hlt, show mixC x (nth cs k) (nth es k) = nth (mixL cs es x) k from (mixL_nth cs es x hlt).symm, mixTo_set (mixL_len cs es x) hl hlt, mixL_nth cs es x hlt, mixC] at G
      have A6 := A5.setRow (rd (mixTo (mixL cs es x) cs (k + 1)) p b l)
      have E6 := E5.setRow_other (k := w.heap.size) (by omega) (rd (mixTo (mixL cs es x) cs (k + 1)) p b l)
      have R6 := R5.setRow_other (k := w.heap.size) (by omega) (rd (mixTo (mixL cs es x) cs (k + 1)) p b l)
      have B6 := Lib.hid (bset B5.out (g := w.heap.size) (Nat.le_refl _) (rd (mixTo (mixL cs es x) cs (k + 1)) p b l))
      clear A5 E5 R5 B5 hL
      go_wp2
      exact ⟨⟨k + 1, by omega, by go_num, A6, E6, R6, B6⟩, by simp [intOf]; omega⟩
    · obtain rfl : k = 16 := by omega
      rw [mixTo_all (mixL_len cs es x) hl] at A4
      have SZ : (rd (mixL cs es x) p b l).size = 19 := rd_size (mixL_len cs es x) p b l
      have R9 := R4.setRow (rd (mixL cs es x) p b l)
      have B9 := Lib.hid (bset B4.out (g := w.heap.size + 1 + 1) (by omega) (rd (mixL cs es x) p b l))
      go_wp2_with (first | ((with_reducible refine is_load 31 _ rfl ?_); refine wpList_load_at rfl 31 _ rfl _ rfl (rd (mixL cs es x) p b l) _ (by assumption) 19 (SZ) _ Try.underlying31 rfl (by kernel_rfl) ?_) | ((with_reducible refine is_store 31 (.tmp 6) (.tmp 42) rfl ?_); refine wpList_store_at rfl 31 (.tmp 6) (.tmp 42) rfl _ rfl (rd (mixL cs es x) p b l) rfl (rd (zeros 16) 0 0 0) _ (by assumption) 19 SZ (rd_size (zeros_len 16) _ _ _) (by kernel_rfl) (fl_one _) ?_))
      exact bodyPost_ret (v := .tuple #[.agg (rd (mixL cs es x) p b l), .int .i64 0]) (results_at_tmp (p := 6) (ty := 31) rfl _ _ _ (rd (mixL cs es x) p b l) _ (.int .i64 0) rfl rfl R9 _ Try.underlying31 rfl 19 (SZ) (by kernel_rfl)) rfl ⟨rfl, B9.out⟩

def vMixRoads (cs : List Nat) (p b l : Nat) (es : List Nat) (q c m : Nat) (x : Nat) : List Nat × Nat × Nat × Nat × Int := if okB cs p b l && okB es q c m then (if shrB x then (mixL cs es x, p, b, l, 0) else (zeros 16, 0, 0, 0, 2)) else (zeros 16, 0, 0, 0, 1)
theorem vMixRoads_good {cs : List Nat} (hl : cs.length = 16) (p b l : Nat) (es : List Nat) (q c m x : Nat) : goodL (vMixRoads cs p b l es q c m x).1 (vMixRoads cs p b l es q c m x).2.1 (vMixRoads cs p b l es q c m x).2.2.1 (vMixRoads cs p b l es q c m x).2.2.2.1 := by
  unfold vMixRoads
  by_cases h : (okB cs p b l && okB es q c m) = true
  · rw [if_pos h]
    by_cases hs : shrB x = true
    · rw [if_pos hs]
      obtain ⟨g1, g2, g3, g4, g5⟩ := okB_good hl (by rw [Bool.and_eq_true] at h; exact h.1)
      refine ⟨mixL_len _ _ _, fun y hy => ?_, g3, g4, g5⟩
      obtain ⟨k, -, rfl⟩ := rowOf_mem hy
      exact nan_le (Nat.min_le_right _ _) (by omega)
    · rw [if_neg hs]; exact zero_good
  · rw [if_neg h]; exact zero_good

theorem MixRoads_any (cs : List Nat) (p b l : Nat) (hl : cs.length = 16) (hc : ∀ x ∈ cs, x < 4294967296) (hp : p < 4294967296) (hb : b < 4294967296) (hla : l < 4294967296) (es : List Nat) (q c m : Nat) (hl' : es.length = 16) (hc' : ∀ x ∈ es, x < 4294967296) (hq' : q < 4294967296) (hb' : c < 4294967296) (hm' : m < 4294967296) (x : Nat) (hx : x < 4294967296) (w : World) :
    Calls Try.prog 57 #[.agg (rd cs p b l), .agg (rd es q c m), .float .f32 x] w fun e w' => e = .returned (.tuple #[.agg (rd (vMixRoads cs p b l es q c m x).1 (vMixRoads cs p b l es q c m x).2.1 (vMixRoads cs p b l es q c m x).2.2.1 (vMixRoads cs p b l es q c m x).2.2.2.1), .int .i64 (vMixRoads cs p b l es q c m x).2.2.2.2]) ∧ Below w.heap.size w w' := by
  cases h : okB cs p b l
  · have e : (vMixRoads cs p b l es q c m x) = (zeros 16, 0, 0, 0, 1) := by unfold vMixRoads; rw [h]; rfl
    rw [e]; exact MixRoads_no cs p b l hl hc hp hb hla es q c m hl' hc' hq' hb' hm' x hx h w
  · cases h' : okB es q c m
    · have e : (vMixRoads cs p b l es q c m x) = (zeros 16, 0, 0, 0, 1) := by unfold vMixRoads; rw [h, h']; rfl
      rw [e]; exact MixRoads_no2 cs p b l hl hc hp hb hla es q c m hl' hc' hq' hb' hm' x hx h h' w
    · cases hs : shrB x
      · have e : (vMixRoads cs p b l es q c m x) = (zeros 16, 0, 0, 0, 2) := by unfold vMixRoads; rw [h, h', hs]; rfl
        rw [e]; exact MixRoads_bad cs p b l hl hc hp hb hla es q c m hl' hc' hq' hb' hm' x hx h h' hs w
      · have e : (vMixRoads cs p b l es q c m x) = (mixL cs es x, p, b, l, 0) := by unfold vMixRoads; rw [h, h', hs]; rfl
        rw [e]; exact MixRoads_yes cs p b l hl hc hp hb hla es q c m hl' hc' hq' hb' hm' x hx h h' hs w

theorem sMixRoads_any (cs : List Nat) (p b l : Nat) (hl : cs.length = 16) (hc : ∀ x ∈ cs, x < 4294967296) (hp : p < 4294967296) (hb : b < 4294967296) (hla : l < 4294967296) (es : List Nat) (q c m : Nat) (hl' : es.length = 16) (hc' : ∀ x ∈ es, x < 4294967296) (hq' : q < 4294967296) (hb' : c < 4294967296) (hm' : m < 4294967296) (x : Nat) (hx : x < 4294967296) (w : World) :
    Calls Try.prog 56 #[.agg (rd cs p b l), .agg (rd es q c m), .float .f32 x] w fun e w' => e = .returned (.tuple #[.agg (rd (vMixRoads cs p b l es q c m x).1 (vMixRoads cs p b l es q c m x).2.1 (vMixRoads cs p b l es q c m x).2.2.1 (vMixRoads cs p b l es q c m x).2.2.2.1), .int .i64 (vMixRoads cs p b l es q c m x).2.2.2.2]) ∧ Below w.heap.size w w' := by
  cases h : okB cs p b l
  · have e : (vMixRoads cs p b l es q c m x) = (zeros 16, 0, 0, 0, 1) := by unfold vMixRoads; rw [h]; rfl
    rw [e]; exact sMixRoads_no cs p b l hl hc hp hb hla es q c m hl' hc' hq' hb' hm' x hx h w
  · cases h' : okB es q c m
    · have e : (vMixRoads cs p b l es q c m x) = (zeros 16, 0, 0, 0, 1) := by unfold vMixRoads; rw [h, h']; rfl
      rw [e]; exact sMixRoads_no2 cs p b l hl hc hp hb hla es q c m hl' hc' hq' hb' hm' x hx h h' w
    · cases hs : shrB x
      · have e : (vMixRoads cs p b l es q c m x) = (zeros 16, 0, 0, 0, 2) := by unfold vMixRoads; rw [h, h', hs]; rfl
        rw [e]; exact sMixRoads_bad cs p b l hl hc hp hb hla es q c m hl' hc' hq' hb' hm' x hx h h' hs w
      · have e : (vMixRoads cs p b l es q c m x) = (mixL cs es x, p, b, l, 0) := by unfold vMixRoads; rw [h, h', hs]; rfl
        rw [e]; exact sMixRoads_yes cs p b l hl hc hp hb hla es q c m hl' hc' hq' hb' hm' x hx h h' hs w
end Go.Proofs.Ytldgacihegibmaa
