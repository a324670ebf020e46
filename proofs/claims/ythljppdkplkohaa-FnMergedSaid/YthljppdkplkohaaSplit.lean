/-
  CONTRACTS: SplitOne.
-/
import Derived.Test.YthljppdkplkohaaArms
import Derived.Test.YthljppdkplkohaaOneCell
import Derived.Test.YthljppdkplkohaaFlow
namespace Go.Proofs.Ythljppdkplkohaa
open Go Go.RowKit
set_option maxRecDepth 100000

/-- what goes of one stream, k ways looked at -/
def splW (xs ys : List Nat) (s : Nat) : Nat → Nat
  | 0 => s
  | k + 1 => if 0 < nth ys k then min (splW xs ys s k) (divB (nth xs k) (nth ys k)) else splW xs ys s k
def okSplit (s : Nat) (xs ys : List Nat) : Bool := amtB s && amtTo 4 xs 4 && shrTo ys 4
def vSplit (s : Nat) (xs ys : List Nat) : Nat × Int := if okSplit s xs ys then (splW xs ys s 4, 0) else (0, 2)
theorem splW_le (xs ys : List Nat) (s : Nat) : ∀ k, splW xs ys s k ≤ s
  | 0 => Nat.le_refl _
  | k + 1 => by
    unfold splW
    have := splW_le xs ys s k
    split <;> omega
/-- the model's check of the first k ways -/
def sokTo (s : Nat) (xs ys : List Nat) (k : Nat) : Bool := amtB s && (List.range k).all fun j => amtB (nth xs j) && shrB (nth ys j)
theorem sokTo_succ (s : Nat) (xs ys : List Nat) (k : Nat) : sokTo s xs ys (k + 1) = (sokTo s xs ys k && (amtB (nth xs k) && shrB (nth ys k))) := by
  unfold sokTo; rw [List.range_succ, List.all_append, Bool.and_assoc]; simp
theorem sokTo_ok (s : Nat) (xs ys : List Nat) : sokTo s xs ys 4 = okSplit s xs ys := by
  unfold okSplit sokTo
  rw [Bool.and_assoc]
  congr 1
  rw [Bool.eq_iff_iff]
  constructor
  · intro h
    rw [Bool.and_eq_true]
    refine ⟨List.all_eq_true.2 fun n hn => ?_, List.all_eq_true.2 fun n hn => ?_⟩ <;> have := List.all_eq_true.1 h n hn <;> rw [Bool.and_eq_true] at this
    · exact amtA_in this.1 (by have := List.mem_range.1 hn; omega)
    · exact this.2
  · intro h
    rw [Bool.and_eq_true] at h
    refine List.all_eq_true.2 fun n hn => ?_
    have h1 := List.all_eq_true.1 h.1 n hn
    have h2 := List.all_eq_true.1 h.2 n hn
    simp only [amtA, Bool.and_eq_true] at h1
    rw [Bool.and_eq_true]
    exact ⟨h1.1, h2⟩
theorem okSplit_amt {s : Nat} {xs ys : List Nat} (h : okSplit s xs ys = true) : s < 2139095040 ∧ (∀ k, k < 4 → nth xs k < 2139095040) ∧ ∀ k, k < 4 → nth ys k ≤ 1065353216 := by
  unfold okSplit at h
  simp only [Bool.and_eq_true] at h
  refine ⟨by have := h.1.1; unfold amtB at this; simpa using this, fun k hk => ?_, fun k hk => shrTo_at hk h.2⟩
  have := amtTo_at hk h.1.2
  unfold amtA amtB at this
  simp at this
  exact this.1
theorem vSplit_good (s : Nat) (xs ys : List Nat) : (vSplit s xs ys).1 < 4294967296 ∧ nanB (vSplit s xs ys).1 = false := by
  unfold vSplit
  split
  · rename_i h
    have := (okSplit_amt h).1
    exact nan_le (Nat.le_trans (splW_le xs ys s 4) (Nat.le_of_lt this)) (by omega)
  · exact ⟨by decide, by decide⟩

set_option maxHeartbeats 400000 in
theorem SplitOne_b (s : Nat) (hs : s < 4294967296) (xs : List Nat) (hl : xs.length = 4) (hc : ∀ x ∈ xs, x < 4294967296) (ys : List Nat) (hl' : ys.length = 4) (hc' : ∀ x ∈ ys, x < 4294967296) (w : World) :
    Calls Try.prog 11 #[.float .f32 s, .agg (fl xs), .agg (fl ys)] w fun e w' => e = .returned (.tuple #[.float .f32 (vSplit s xs ys).1, .int .i64 (vSplit s xs ys).2]) ∧ Below w.heap.size w w' := by
  have X0 : At ((w.alloc (.cells (fl xs) 32)).alloc (.cells (fl ys) 32)) w.heap.size (fl xs) 32 := (At.new w _ _).alloc _
  have Y0 : At ((w.alloc (.cells (fl xs) 32)).alloc (.cells (fl ys) 32)) (w.heap.size + 1) (fl ys) 32 := At.last1 w _ _ _
  have B0 := Lib.hid (bnew (b0 w (.cells (fl xs) 32)) (.cells (fl ys) 32))
  have SX : (fl xs).size = 4 := by rw [fl_size, hl]
  have SY : (fl ys).size = 4 := by rw [fl_size, hl']
  cases h1 : amtB s
  · skip
    have ev : (vSplit s xs ys) = (0, 2) := by unfold vSplit okSplit; rw [h1]; simp
    rw [ev]
    clear ev
    go_enter Try.func11, Try.ntmps11
    go_wp2_with fail
    refine (IsAmount_any s hs _).mono ?_
    rw [h1]
    rintro e w1 ⟨rfl, n1, rfl⟩
    go_wp2_with fail
    go_ret2
    exact ⟨rfl, bdrew B0.out _⟩
  cases h2 : amtTo 4 xs 4
  · skip
    have ev : (vSplit s xs ys) = (0, 2) := by unfold vSplit okSplit; rw [h2]; simp
    rw [ev]
    clear ev
    go_enter Try.func11, Try.ntmps11
    go_wp2_with fail
    refine (IsAmount_any s hs _).mono ?_
    rw [h1]
    rintro e w1 ⟨rfl, n1, rfl⟩
    have X1 := X0.drewN n1
    have Y1 := Y0.drewN n1
    have B1 := Lib.hid (bdrew B0.out n1)
    generalize hw1 : World.drewN _ _ = w1 at X1 Y1 B1 ⊢
    clear X0 Y0 B0 hw1
    go_wp2_with (((with_reducible refine is_load 32 _ rfl ?_); refine wpList_load_g rfl 32 _ rfl _ rfl (fl xs) _ X1 4 (SX) _ Try.underlying32 rfl (by kernel_rfl) ?_))
    refine (areAmountsOf_b 4 xs hl hc _).mono ?_
    rw [h2]
    rintro e w2 ⟨rfl, hb2⟩
    go_wp2_with fail
    go_ret2
    exact ⟨rfl, bthen B1.out hb2⟩
  cases h3 : shrTo ys 4
  · skip
    have ev : (vSplit s xs ys) = (0, 2) := by unfold vSplit okSplit; rw [h3]; simp
    rw [ev]
    clear ev
    go_enter Try.func11, Try.ntmps11
    go_wp2_with fail
    refine (IsAmount_any s hs _).mono ?_
    rw [h1]
    rintro e w1 ⟨rfl, n1, rfl⟩
    have X1 := X0.drewN n1
    have Y1 := Y0.drewN n1
    have B1 := Lib.hid (bdrew B0.out n1)
    generalize hw1 : World.drewN _ _ = w1 at X1 Y1 B1 ⊢
    clear X0 Y0 B0 hw1
    go_wp2_with (((with_reducible refine is_load 32 _ rfl ?_); refine wpList_load_g rfl 32 _ rfl _ rfl (fl xs) _ X1 4 (SX) _ Try.underlying32 rfl (by kernel_rfl) ?_))
    refine (areAmountsOf_b 4 xs hl hc _).mono ?_
    rw [h2]
    rintro e w2 ⟨rfl, hb2⟩
    have X2 := X1.step hb2
    have Y2 := Y1.step hb2
    have B2 := Lib.hid (bthen B1.out hb2)
    clear X1 Y1 B1 hb2
    go_wp2_with (((with_reducible refine is_load 32 _ rfl ?_); refine wpList_load_g rfl 32 _ rfl _ rfl (fl ys) _ Y2 4 (SY) _ Try.underlying32 rfl (by kernel_rfl) ?_))
    refine (areShares_b ys hl' hc' _).mono ?_
    rw [h3]
    rintro e w3 ⟨rfl, hb3⟩
    go_wp2_with fail
    go_ret2
    exact ⟨rfl, bthen B2.out hb3⟩
  have hok : okSplit s xs ys = true := by unfold okSplit; rw [h1, h2, h3]; rfl
  have ev : (vSplit s xs ys) = (splW xs ys s 4, 0) := by unfold vSplit; rw [hok]; rfl
  rw [ev]
  obtain ⟨ha, hx, hy⟩ := okSplit_amt hok
  clear ev hok
  go_enter Try.func11, Try.ntmps11
  go_wp2_with fail
  refine (IsAmount_any s hs _).mono ?_
  rw [h1]
  rintro e w1 ⟨rfl, n1, rfl⟩
  have X1 := X0.drewN n1
  have Y1 := Y0.drewN n1
  have B1 := Lib.hid (bdrew B0.out n1)
  generalize hw1 : World.drewN _ _ = w1 at X1 Y1 B1 ⊢
  clear X0 Y0 B0 hw1
  go_wp2_with (((with_reducible refine is_load 32 _ rfl ?_); refine wpList_load_g rfl 32 _ rfl _ rfl (fl xs) _ X1 4 (SX) _ Try.underlying32 rfl (by kernel_rfl) ?_))
  refine (areAmountsOf_b 4 xs hl hc _).mono ?_
  rw [h2]
  rintro e w2 ⟨rfl, hb2⟩
  have X2 := X1.step hb2
  have Y2 := Y1.step hb2
  have B2 := Lib.hid (bthen B1.out hb2)
  clear X1 Y1 B1 hb2
  go_wp2_with (((with_reducible refine is_load 32 _ rfl ?_); refine wpList_load_g rfl 32 _ rfl _ rfl (fl ys) _ Y2 4 (SY) _ Try.underlying32 rfl (by kernel_rfl) ?_))
  refine (areShares_b ys hl' hc' _).mono ?_
  rw [h3]
  rintro e w3 ⟨rfl, hb3⟩
  have X3 := X2.step hb3
  have Y3 := Y2.step hb3
  have B3 := Lib.hid (bthen B2.out hb3)
  clear X2 Y2 B2 hb3 h1 h2 h3
  go_wp2_with (((with_reducible refine is_load 32 _ rfl ?_); refine wpList_load_at rfl 32 _ rfl _ rfl (fl ys) _ Y3 4 (SY) _ Try.underlying32 rfl (by kernel_rfl) ?_))
  go_loopw [24, 0] (fun i' v wr => ∃ k : Nat, k ≤ 4 ∧ i' = .int .i64 k ∧ v = .float .f32 (splW xs ys s k) ∧ At wr w.heap.size (fl xs) 32 ∧ Hid (Below w.heap.size w wr)) (fun i' _ _ => 4 - (intOf i').toNat)
  case atStart => exact ⟨0, by omega, rfl, rfl, X3, B3⟩
  case round =>
    clear X3 Y3 B3
    obtain ⟨k, hk, rfl, rfl, X4, B4⟩ := hrel
    by_cases hlt : k < 4
    · have hi : ∀ W, (Instr.index 32 (.agg (fl ys)) (.int .i64 k)).run Try.prog W = .ok (.float .f32 (nth ys k)) W := fun W =>
        run_index_fl W 32 24 4 ys k Try.underlying32 Try.underlying24 (by kernel_rfl) hlt hl'.symm
      have s2 : IntKind.i64.wrap ((k : Int) + 1) = (k : Int) + 1 := IntWalk.i64_in _ (by omega)
      have hyk := hy k hlt
      have hxk := hx k hlt
      have hg := gt_amt (x := nth ys k) (y := 0) (by omega) (by omega)
      by_cases hz : 0 < nth ys k
      · have hst : Hid (splW xs ys s (k + 1) = min (splW xs ys s k) (divB (nth xs k) (nth ys k))) := Lib.hid (by rw [splW]; exact if_pos hz)
        have hd := div_some hxk (show nth ys k < 2139095040 by omega) hz
        have hq : ∀ t W, (binOp .quo t (.float .f32 (nth xs k)) (.float .f32 (nth ys k))).run Try.prog W = .ok (.float .f32 (divB (nth xs k) (nth ys k))) W := fun t W => run_float_arith W .quo t .f32 _ _ _ hd.1
        have hm : ∀ ts t W, (Builtin.min_ ts t #[.float .f32 (splW xs ys s k), .float .f32 (divB (nth xs k) (nth ys k))]).run Try.prog W = .ok (.float .f32 (splW xs ys s (k + 1))) W := fun ts t W => by
          rw [hst.out]; exact run_min_amt W ts t (Nat.le_trans (splW_le xs ys s k) (Nat.le_of_lt ha)) hd.2
        have c1 := X4.cell (fl_get (xs := xs) (k := k) (by omega))
        rw [decide_eq_true hz] at hg
        clear hz hd hyk hxk
        go_wp2
        exact ⟨⟨k + 1, by omega, by go_num, rfl, X4, B4⟩, by simp [intOf]; omega⟩
      · have hst : Hid (splW xs ys s (k + 1) = splW xs ys s k) := Lib.hid (by rw [splW]; exact if_neg hz)
        rw [decide_eq_false hz] at hg
        clear hz hyk hxk
        go_wp2
        exact ⟨⟨k + 1, by omega, by go_num, by rw [hst.out], X4, B4⟩, by simp [intOf]; omega⟩
    · obtain rfl : k = 4 := by omega
      go_wp2
      go_ret2
      exact ⟨rfl, B4.out⟩

set_option maxHeartbeats 1000000 in
theorem sSplitOne_b (s : Nat) (hs : s < 4294967296) (xs : List Nat) (hl : xs.length = 4) (hc : ∀ x ∈ xs, x < 4294967296) (ys : List Nat) (hl' : ys.length = 4) (hc' : ∀ x ∈ ys, x < 4294967296) (w : World) :
    Calls Try.prog 12 #[.float .f32 s, .agg (fl xs), .agg (fl ys)] w fun e w' => e = .returned (.tuple #[.float .f32 (vSplit s xs ys).1, .int .i64 (vSplit s xs ys).2]) ∧ Below w.heap.size w w' := by
  have X0 : At ((w.alloc (.cells (fl xs) 32)).alloc (.cells (fl ys) 32)) w.heap.size (fl xs) 32 := (At.new w _ _).alloc _
  have Y0 : At ((w.alloc (.cells (fl xs) 32)).alloc (.cells (fl ys) 32)) (w.heap.size + 1) (fl ys) 32 := At.last1 w _ _ _
  have B0 := Lib.hid (bnew (b0 w (.cells (fl xs) 32)) (.cells (fl ys) 32))
  have SX : (fl xs).size = 4 := by rw [fl_size, hl]
  have SY : (fl ys).size = 4 := by rw [fl_size, hl']
  have X4 : ∀ n, At (((w.alloc (.cells (fl xs) 32)).alloc (.cells (fl ys) 32)).drewN n) w.heap.size (fl xs) 32 := fun n => X0.drewN n
  have Y4 : ∀ n, At (((w.alloc (.cells (fl xs) 32)).alloc (.cells (fl ys) 32)).drewN n) (w.heap.size + 1) (fl ys) 32 := fun n => Y0.drewN n
  have B4 : Hid (∀ n, Below w.heap.size w (((w.alloc (.cells (fl xs) 32)).alloc (.cells (fl ys) 32)).drewN n)) := Lib.hid fun n => bdrew B0.out n
  clear B0
  go_enter Try.func12, Try.ntmps12
  go_wp2_with fail
  refine (l01Amount_any s hs _).mono ?_
  rintro e w1 ⟨rfl, n1, rfl⟩
  generalize hWW : ((w.alloc (.cells (fl xs) 32)).alloc (.cells (fl ys) 32)) = WW at X0 Y0 X4 Y4 B4 ⊢
  clear hWW X0 Y0
  go_wp2_with fail
  go_loopw [9, 8] (fun i' v wr => ∃ k n : Nat, k ≤ 4 ∧ i' = .int .i64 k ∧ v = .bool (sokTo s xs ys k) ∧ wr = WW.drewN n) (fun i' _ _ => 4 - (intOf i').toNat)
  case atStart => exact ⟨0, _, by omega, rfl, by unfold sokTo; simp, rfl⟩
  case round =>
    obtain ⟨k, n, hk, rfl, rfl, rfl⟩ := hrel
    by_cases hlt : k < 4
    · have s2 : IntKind.i64.wrap ((k : Int) + 1) = (k : Int) + 1 := IntWalk.i64_in _ (by omega)
      have hxk := u32_lt hc k
      have hyk := u32_lt hc' k
      cases hpre : sokTo s xs ys k
      · skip
        have hst : Hid (sokTo s xs ys (k + 1) = false) := Lib.hid (by rw [sokTo_succ, hpre]; simp)
        go_wp2_with (first | ((with_reducible refine is_load 24 _ rfl ?_); refine wpList_load_cell_g rfl 24 _ rfl _ _ rfl (fl xs) _ (X4 _) _ Try.underlying24 rfl (.float .f32 (nth xs k)) (fl_get (by omega)) ?_) | ((with_reducible refine is_load 24 _ rfl ?_); refine wpList_load_cell_g rfl 24 _ rfl _ _ rfl (fl ys) _ (Y4 _) _ Try.underlying24 rfl (.float .f32 (nth ys k)) (fl_get (by omega)) ?_) | (go_at_call 21; refine (l01Amount_any _ hxk _).mono ?_; rw [ham]; rintro e w' ⟨rfl, n', rfl⟩) | (go_at_call 22; refine (l01Share_any _ hyk _).mono ?_; rw [hsh]; rintro e w'' ⟨rfl, n'', rfl⟩))
        exact ⟨⟨k + 1, _, by omega, by go_num, by rw [hst.out], rfl⟩, by simp [intOf]; omega⟩
      · cases ham : amtB (nth xs k)
        · skip
          have hst : Hid (sokTo s xs ys (k + 1) = false) := Lib.hid (by rw [sokTo_succ, hpre, ham]; simp)
          go_wp2_with (first | ((with_reducible refine is_load 24 _ rfl ?_); refine wpList_load_cell_g rfl 24 _ rfl _ _ rfl (fl xs) _ (X4 _) _ Try.underlying24 rfl (.float .f32 (nth xs k)) (fl_get (by omega)) ?_) | ((with_reducible refine is_load 24 _ rfl ?_); refine wpList_load_cell_g rfl 24 _ rfl _ _ rfl (fl ys) _ (Y4 _) _ Try.underlying24 rfl (.float .f32 (nth ys k)) (fl_get (by omega)) ?_) | (go_at_call 21; refine (l01Amount_any _ hxk _).mono ?_; rw [ham]; rintro e w' ⟨rfl, n', rfl⟩) | (go_at_call 22; refine (l01Share_any _ hyk _).mono ?_; rw [hsh]; rintro e w'' ⟨rfl, n'', rfl⟩))
          exact ⟨⟨k + 1, _, by omega, by go_num, by rw [hst.out], rfl⟩, by simp [intOf]; omega⟩
        · cases hsh : shrB (nth ys k)
          · skip
            have hst : Hid (sokTo s xs ys (k + 1) = false) := Lib.hid (by rw [sokTo_succ, hpre, ham, hsh]; simp)
            go_wp2_with (first | ((with_reducible refine is_load 24 _ rfl ?_); refine wpList_load_cell_g rfl 24 _ rfl _ _ rfl (fl xs) _ (X4 _) _ Try.underlying24 rfl (.float .f32 (nth xs k)) (fl_get (by omega)) ?_) | ((with_reducible refine is_load 24 _ rfl ?_); refine wpList_load_cell_g rfl 24 _ rfl _ _ rfl (fl ys) _ (Y4 _) _ Try.underlying24 rfl (.float .f32 (nth ys k)) (fl_get (by omega)) ?_) | (go_at_call 21; refine (l01Amount_any _ hxk _).mono ?_; rw [ham]; rintro e w' ⟨rfl, n', rfl⟩) | (go_at_call 22; refine (l01Share_any _ hyk _).mono ?_; rw [hsh]; rintro e w'' ⟨rfl, n'', rfl⟩))
            exact ⟨⟨k + 1, _, by omega, by go_num, by rw [hst.out], rfl⟩, by simp [intOf]; omega⟩
          · skip
            have hst : Hid (sokTo s xs ys (k + 1) = true) := Lib.hid (by rw [sokTo_succ, hpre, ham, hsh]; simp)
            go_wp2_with (first | ((with_reducible refine is_load 24 _ rfl ?_); refine wpList_load_cell_g rfl 24 _ rfl _ _ rfl (fl xs) _ (X4 _) _ Try.underlying24 rfl (.float .f32 (nth xs k)) (fl_get (by omega)) ?_) | ((with_reducible refine is_load 24 _ rfl ?_); refine wpList_load_cell_g rfl 24 _ rfl _ _ rfl (fl ys) _ (Y4 _) _ Try.underlying24 rfl (.float .f32 (nth ys k)) (fl_get (by omega)) ?_) | (go_at_call 21; refine (l01Amount_any _ hxk _).mono ?_; rw [ham]; rintro e w' ⟨rfl, n', rfl⟩) | (go_at_call 22; refine (l01Share_any _ hyk _).mono ?_; rw [hsh]; rintro e w'' ⟨rfl, n'', rfl⟩))
            exact ⟨⟨k + 1, _, by omega, by go_num, by rw [hst.out], rfl⟩, by simp [intOf]; omega⟩
    · obtain rfl : k = 4 := by omega
      rw [sokTo_ok, show ((4 : Nat) : Int) = 4 from rfl]
      cases hok : okSplit s xs ys
      · have ev : Hid ((vSplit s xs ys) = (0, 2)) := Lib.hid (by unfold vSplit; rw [hok]; rfl)
        go_wp2
        go_ret2
        exact ⟨by rw [ev.out]; rfl, B4.out _⟩
      · have ev : Hid ((vSplit s xs ys) = (splW xs ys s 4, 0)) := Lib.hid (by unfold vSplit; rw [hok]; rfl)
        obtain ⟨ha, hx, hy⟩ := okSplit_amt hok
        clear hok
        go_wp2
        go_loopw [10, 0] (fun i' v wr => ∃ k : Nat, k ≤ 4 ∧ i' = .int .i64 k ∧ v = .float .f32 (splW xs ys s k) ∧ At wr w.heap.size (fl xs) 32 ∧ At wr (w.heap.size + 1) (fl ys) 32 ∧ Hid (Below w.heap.size w wr)) (fun i' _ _ => 4 - (intOf i').toNat)
        case atStart => exact ⟨0, by omega, rfl, rfl, X4 _, Y4 _, Lib.hid (B4.out _)⟩
        case round =>
          clear X4 Y4 B4
          obtain ⟨k, hk', rfl, rfl, X5, Y5, B5⟩ := hrel
          by_cases hlt : k < 4
          · have s2 : IntKind.i64.wrap ((k : Int) + 1) = (k : Int) + 1 := IntWalk.i64_in _ (by omega)
            have hyk := hy k hlt
            have hxk := hx k hlt
            have hg := gt_amt (x := nth ys k) (y := 0) (by omega) (by omega)
            have dx := fl_get (xs := xs) (k := k) (by omega)
            have dy := fl_get (xs := ys) (k := k) (by omega)
            have cy := Y5.cell dy
            by_cases hz : 0 < nth ys k
            · have hst : Hid (splW xs ys s (k + 1) = min (splW xs ys s k) (divB (nth xs k) (nth ys k))) := Lib.hid (by rw [splW]; exact if_pos hz)
              have hd := div_some hxk (show nth ys k < 2139095040 by omega) hz
              have hq : ∀ t W, (binOp .quo t (.float .f32 (nth xs k)) (.float .f32 (nth ys k))).run Try.prog W = .ok (.float .f32 (divB (nth xs k) (nth ys k))) W := fun t W => run_float_arith W .quo t .f32 _ _ _ hd.1
              have hsl := Nat.le_trans (splW_le xs ys s k) (Nat.le_of_lt ha)
              have KL := fun w => (l01Less_any (splW xs ys s k) (divB (nth xs k) (nth ys k)) hsl hd.2 w).mono fun e w' (h : Rd _ w e w') => (⟨h.1, by obtain ⟨-, n, rfl⟩ := h; exact bdrew (Below.refl _ _) n⟩ : e = .returned (.float .f32 (min (splW xs ys s k) (divB (nth xs k) (nth ys k)))) ∧ Below w.heap.size w w')
              rw [decide_eq_true hz] at hg
              clear hz hd hyk hxk hsl
              go_wp2
              have hC := Cb.const wr
              refine wp_region_cb (by kernel_rfl) (by kernel_rfl) ?_
              repeat (first
                | go_big_quiet_skip
                | (go_big_quiet_want; first
                  | (refine q_cell 24 _ rfl _ Try.underlying24 _ rfl X5 _ (by assumption) ?_; go_simp; go_big_quiet_on)
                  | (refine q_cell 24 _ rfl _ Try.underlying24 _ rfl Y5 _ (by assumption) ?_; go_simp; go_big_quiet_on)
                  | (go_big_quiet_op; go_big_quiet_on)
                  | (go_big_quiet_op; apply Exists.intro; refine ⟨fun w' hw' => ?_, ?_⟩; (go_at_call 29; exact (KL _).mono fun _ _ h => ⟨h.1, hw'.step h.2⟩); go_big_quiet_on)))
              refine wpQuiet_nil ?_
              intro w7 hw7
              have X6 := X5.step hw7
              have Y6 := Y5.step hw7
              have B6 := Lib.hid (bthen B5.out hw7)
              go_wp2
              exact ⟨⟨k + 1, by omega, by go_num, by rw [hst.out], X6, Y6, B6⟩, by simp [intOf]; omega⟩
            · have hst : Hid (splW xs ys s (k + 1) = splW xs ys s k) := Lib.hid (by rw [splW]; exact if_neg hz)
              rw [decide_eq_false hz] at hg
              clear hz hyk hxk
              go_wp2
              exact ⟨⟨k + 1, by omega, by go_num, by rw [hst.out], X5, Y5, B5⟩, by simp [intOf]; omega⟩
          · obtain rfl : k = 4 := by omega
            go_wp2
            go_ret2
            exact ⟨by rw [ev.out]; rfl, B5.out⟩

end Go.Proofs.Ythljppdkplkohaa
