/-
  CONTRACTS: ValidJunction, the model's.
-/
import Derived.Test.YtboahhipobcabaaGreatG17
import Derived.BigFrame
namespace Go.Proofs.YtboahhipobcabaaGreat
open Go Go.RowKit
set_option maxRecDepth 100000

set_option maxHeartbeats 2000000 in
theorem l03Ok_b (g : Nat) (i o : Int) (ts ps : List Nat) (hi : -9223372036854775808 ≤ i ∧ i ≤ 9223372036854775807) (ho : -9223372036854775808 ≤ o ∧ o ≤ 9223372036854775807) (hlt : ts.length = 16) (hlp : ps.length = 4) (hct : ∀ x ∈ ts, x < 4294967296) (hcp : ∀ x ∈ ps, x < 4294967296) (T : TypeId) (w : World) (hA0 : At w g (jn i o ts ps) T) :
    Calls Tryz.prog 114 #[.pointer (some ⟨g, 0, none⟩)] w (Rd (.bool (okJ i o ts ps)) w) := by
  have hA : ∀ n, At (w.drewN n) g (jn i o ts ps) T := fun n => hA0.drewN n
  clear hi ho
  cases h1 : inB 1 4 i
  · have hr : okJ i o ts ps = false := by unfold okJ; rw [h1]; rfl
    go_enter Tryz.func114, Tryz.ntmps114
    go_wp2_with (((with_reducible refine is_load 2 _ rfl ?_); refine wpList_load_cell rfl 2 _ rfl _ 0 rfl (jn i o ts ps) _ hA0 _ Tryz.underlying2 rfl (.int .i64 i) (jn_ins i o ts ps) ?_))
    refine (l03Arms_b i _).mono ?_
    rw [h1]
    rintro e w1 ⟨rfl, n1, rfl⟩
    go_wp2_with fail
    go_ret
    exact ⟨by rw [hr]; rfl, _, rfl⟩
  go_enter Tryz.func114, Tryz.ntmps114
  go_wp2_with (((with_reducible refine is_load 2 _ rfl ?_); refine wpList_load_cell rfl 2 _ rfl _ 0 rfl (jn i o ts ps) _ hA0 _ Tryz.underlying2 rfl (.int .i64 i) (jn_ins i o ts ps) ?_))
  refine (l03Arms_b i _).mono ?_
  rw [h1]
  rintro e w1 ⟨rfl, n1, rfl⟩
  go_wp2_with (((with_reducible refine is_load 2 _ rfl ?_); refine wpList_load_cell_g rfl 2 _ rfl _ 1 rfl (jn i o ts ps) _ (hA _) _ Tryz.underlying2 rfl (.int .i64 o) (jn_outs i o ts ps) ?_))
  refine (l03Arms_b o _).mono ?_
  cases h2 : inB 1 4 o
  · have hr : okJ i o ts ps = false := by unfold okJ; rw [h2, Bool.and_false]; rfl
    rintro e w2 ⟨rfl, n2, rfl⟩
    go_wp2_with fail
    go_ret
    exact ⟨by rw [hr]; rfl, _, rfl⟩
  rintro e w2 ⟨rfl, n2, rfl⟩
  have hok : Hid (okJ i o ts ps = rowsSTo i o ts ps 4) := Lib.hid (by rw [okJ_model, h1, h2]; rfl)
  clear h1 h2
  go_wp2_with fail
  go_loopw [3] (fun i' wr => ∃ k N : Nat, k ≤ 4 ∧ i' = .int .i64 k ∧ Hid (rowsSTo i o ts ps k = true) ∧ wr = w.drewN N) (fun i' _ => 4 - (intOf i').toNat)
  case atStart => exact ⟨0, _, by omega, rfl, Lib.hid rfl, rfl⟩
  case round =>
    obtain ⟨k, N, hk, rfl, hall, rfl⟩ := hrel
    by_cases hlk : k < 4
    · have rl := row4_len hlt hlk
      have hpk := u32_lt hcp k
      have hkd : decide ((k : Int) < 4) = true := decide_eq_true (by omega)
      go_wp2
      go_loopw [5, 4] (fun n' s wr => ∃ m M : Nat, m ≤ 4 ∧ n' = .int .i64 m ∧ s = .float .f32 (sumP (row4 ts k) m) ∧ Hid (cellsTo i o k (row4 ts k) m = true) ∧ wr = w.drewN M) (fun n' _ _ => 4 - (intOf n').toNat)
      case atStart => exact ⟨0, N, by omega, rfl, rfl, Lib.hid rfl, rfl⟩
      case round =>
        obtain ⟨m, M, hm', rfl, rfl, hcells, rfl⟩ := hrel
        by_cases hm : m < 4
        · have hx : nth (row4 ts k) m < 4294967296 := u32_lt (fun x hx => hct x (row4_mem k hx)) m
          have s3 : IntKind.i64.wrap ((m : Int) + 1) = (m : Int) + 1 := IntWalk.i64_in _ (by omega)
          cases hsh : shrB (nth (row4 ts k) m)
          · have hcell : cellOk i o k m (nth (row4 ts k) m) = false := by unfold cellOk; rw [hsh]; rfl
            have hr : okJ i o ts ps = false := okJ_rowS hlk (rowS_cell hm hcell)
            go_wp2_with (first | ((with_reducible refine is_load 26 _ rfl ?_); refine wpList_load_cell rfl 26 _ rfl _ _ rfl (jn i o ts ps) _ (hA _) _ Tryz.underlying26 rfl (.float .f32 (nth (row4 ts k) m)) (by rw [row4_nth hlt k hm]; exact jn_turn hlt hlp i o (k := 4 * k + m) (by omega) (by omega)) ?_) | (go_at_call 116; refine (l01Share_any _ hx _).mono ?_; rw [hsh]; rintro e w' ⟨rfl, n', rfl⟩) | ((with_reducible refine is_load 2 _ rfl ?_); refine wpList_load_cell_g rfl 2 _ rfl _ 0 rfl (jn i o ts ps) _ (hA _) _ Tryz.underlying2 rfl (.int .i64 i) (jn_ins i o ts ps) ?_) | ((with_reducible refine is_load 2 _ rfl ?_); refine wpList_load_cell_g rfl 2 _ rfl _ 1 rfl (jn i o ts ps) _ (hA _) _ Tryz.underlying2 rfl (.int .i64 o) (jn_outs i o ts ps) ?_))
            go_ret
            exact ⟨by rw [hr]; rfl, _, rfl⟩
          · have hle : nth (row4 ts k) m ≤ 1065353216 := by unfold shrB at hsh; simpa using hsh
            have hne := ne_amt (x := nth (row4 ts k) m) (y := 0) (by omega) (by omega)
            have hbd : ∀ q, q < m + 1 → nth (row4 ts k) q ≤ 2139095040 := by
              intro q hq
              by_cases hqm : q = m
              · subst hqm; omega
              · exact Nat.le_trans (cellsTo_shr (m := m) (by omega) hcells.out) (by omega)
            clear hle
            by_cases hki : (k : Int) < i
            · have hki' : decide (i ≤ (k : Int)) = false := decide_eq_false (by omega)
              by_cases hmo : (m : Int) < o
              · have hmo' : decide (o ≤ (m : Int)) = false := decide_eq_false (by omega)
                have hcell : cellOk i o k m (nth (row4 ts k) m) = true := by unfold cellOk; rw [hsh, decide_eq_true hki, decide_eq_true hmo]; simp
                clear hne
                by_cases hm0 : m = 0
                · have H0 := Lib.hid hm0
                  have hmz : ((m : Int) == 0) = true := by rw [hm0]; rfl
                  clear hm0
                  go_wp2_with (first | ((with_reducible refine is_load 26 _ rfl ?_); refine wpList_load_cell rfl 26 _ rfl _ _ rfl (jn i o ts ps) _ (hA _) _ Tryz.underlying26 rfl (.float .f32 (nth (row4 ts k) m)) (by rw [row4_nth hlt k hm]; exact jn_turn hlt hlp i o (k := 4 * k + m) (by omega) (by omega)) ?_) | (go_at_call 116; refine (l01Share_any _ hx _).mono ?_; rw [hsh]; rintro e w' ⟨rfl, n', rfl⟩) | ((with_reducible refine is_load 2 _ rfl ?_); refine wpList_load_cell_g rfl 2 _ rfl _ 0 rfl (jn i o ts ps) _ (hA _) _ Tryz.underlying2 rfl (.int .i64 i) (jn_ins i o ts ps) ?_) | ((with_reducible refine is_load 2 _ rfl ?_); refine wpList_load_cell_g rfl 2 _ rfl _ 1 rfl (jn i o ts ps) _ (hA _) _ Tryz.underlying2 rfl (.int .i64 o) (jn_outs i o ts ps) ?_))
                  exact ⟨⟨m + 1, _, by omega, by go_num, by rw [H0.out]; rfl, Lib.hid (by rw [cellsTo_succ, hcells.out, hcell]; rfl), rfl⟩, by simp [intOf]; omega⟩
                · have f := sumP_add (xs := (row4 ts k)) (m := m) hm0 hbd
                  have f' : ∀ t W, (binOp .add t (.float .f32 (sumP (row4 ts k) m)) (.float .f32 (nth (row4 ts k) m))).run Tryz.prog W = .ok (.float .f32 (sumP (row4 ts k) (m + 1))) W := fun t W => run_float_arith W .add t .f32 _ _ _ f
                  clear f
                  go_wp2_with (first | ((with_reducible refine is_load 26 _ rfl ?_); refine wpList_load_cell rfl 26 _ rfl _ _ rfl (jn i o ts ps) _ (hA _) _ Tryz.underlying26 rfl (.float .f32 (nth (row4 ts k) m)) (by rw [row4_nth hlt k hm]; exact jn_turn hlt hlp i o (k := 4 * k + m) (by omega) (by omega)) ?_) | (go_at_call 116; refine (l01Share_any _ hx _).mono ?_; rw [hsh]; rintro e w' ⟨rfl, n', rfl⟩) | ((with_reducible refine is_load 2 _ rfl ?_); refine wpList_load_cell_g rfl 2 _ rfl _ 0 rfl (jn i o ts ps) _ (hA _) _ Tryz.underlying2 rfl (.int .i64 i) (jn_ins i o ts ps) ?_) | ((with_reducible refine is_load 2 _ rfl ?_); refine wpList_load_cell_g rfl 2 _ rfl _ 1 rfl (jn i o ts ps) _ (hA _) _ Tryz.underlying2 rfl (.int .i64 o) (jn_outs i o ts ps) ?_))
                  exact ⟨⟨m + 1, _, by omega, by go_num, rfl, Lib.hid (by rw [cellsTo_succ, hcells.out, hcell]; rfl), rfl⟩, by simp [intOf]; omega⟩
              · have hmo' : decide (o ≤ (m : Int)) = true := decide_eq_true (by omega)
                by_cases hz : nth (row4 ts k) m = 0
                · rw [decide_eq_true hz] at hne
                  have hcell : cellOk i o k m (nth (row4 ts k) m) = true := by unfold cellOk; rw [hsh, decide_eq_true hz]; rfl
                  clear hz
                  by_cases hm0 : m = 0
                  · have H0 := Lib.hid hm0
                    have hmz : ((m : Int) == 0) = true := by rw [hm0]; rfl
                    clear hm0
                    go_wp2_with (first | ((with_reducible refine is_load 26 _ rfl ?_); refine wpList_load_cell rfl 26 _ rfl _ _ rfl (jn i o ts ps) _ (hA _) _ Tryz.underlying26 rfl (.float .f32 (nth (row4 ts k) m)) (by rw [row4_nth hlt k hm]; exact jn_turn hlt hlp i o (k := 4 * k + m) (by omega) (by omega)) ?_) | (go_at_call 116; refine (l01Share_any _ hx _).mono ?_; rw [hsh]; rintro e w' ⟨rfl, n', rfl⟩) | ((with_reducible refine is_load 2 _ rfl ?_); refine wpList_load_cell_g rfl 2 _ rfl _ 0 rfl (jn i o ts ps) _ (hA _) _ Tryz.underlying2 rfl (.int .i64 i) (jn_ins i o ts ps) ?_) | ((with_reducible refine is_load 2 _ rfl ?_); refine wpList_load_cell_g rfl 2 _ rfl _ 1 rfl (jn i o ts ps) _ (hA _) _ Tryz.underlying2 rfl (.int .i64 o) (jn_outs i o ts ps) ?_))
                    exact ⟨⟨m + 1, _, by omega, by go_num, by rw [H0.out]; rfl, Lib.hid (by rw [cellsTo_succ, hcells.out, hcell]; rfl), rfl⟩, by simp [intOf]; omega⟩
                  · have f := sumP_add (xs := (row4 ts k)) (m := m) hm0 hbd
                    have f' : ∀ t W, (binOp .add t (.float .f32 (sumP (row4 ts k) m)) (.float .f32 (nth (row4 ts k) m))).run Tryz.prog W = .ok (.float .f32 (sumP (row4 ts k) (m + 1))) W := fun t W => run_float_arith W .add t .f32 _ _ _ f
                    clear f
                    go_wp2_with (first | ((with_reducible refine is_load 26 _ rfl ?_); refine wpList_load_cell rfl 26 _ rfl _ _ rfl (jn i o ts ps) _ (hA _) _ Tryz.underlying26 rfl (.float .f32 (nth (row4 ts k) m)) (by rw [row4_nth hlt k hm]; exact jn_turn hlt hlp i o (k := 4 * k + m) (by omega) (by omega)) ?_) | (go_at_call 116; refine (l01Share_any _ hx _).mono ?_; rw [hsh]; rintro e w' ⟨rfl, n', rfl⟩) | ((with_reducible refine is_load 2 _ rfl ?_); refine wpList_load_cell_g rfl 2 _ rfl _ 0 rfl (jn i o ts ps) _ (hA _) _ Tryz.underlying2 rfl (.int .i64 i) (jn_ins i o ts ps) ?_) | ((with_reducible refine is_load 2 _ rfl ?_); refine wpList_load_cell_g rfl 2 _ rfl _ 1 rfl (jn i o ts ps) _ (hA _) _ Tryz.underlying2 rfl (.int .i64 o) (jn_outs i o ts ps) ?_))
                    exact ⟨⟨m + 1, _, by omega, by go_num, rfl, Lib.hid (by rw [cellsTo_succ, hcells.out, hcell]; rfl), rfl⟩, by simp [intOf]; omega⟩
                · rw [decide_eq_false hz] at hne
                  have hcell : cellOk i o k m (nth (row4 ts k) m) = false := by unfold cellOk; rw [decide_eq_false hz, decide_eq_false hmo]; simp
                  clear hz
                  have hr : okJ i o ts ps = false := okJ_rowS hlk (rowS_cell hm hcell)
                  go_wp2_with (first | ((with_reducible refine is_load 26 _ rfl ?_); refine wpList_load_cell rfl 26 _ rfl _ _ rfl (jn i o ts ps) _ (hA _) _ Tryz.underlying26 rfl (.float .f32 (nth (row4 ts k) m)) (by rw [row4_nth hlt k hm]; exact jn_turn hlt hlp i o (k := 4 * k + m) (by omega) (by omega)) ?_) | (go_at_call 116; refine (l01Share_any _ hx _).mono ?_; rw [hsh]; rintro e w' ⟨rfl, n', rfl⟩) | ((with_reducible refine is_load 2 _ rfl ?_); refine wpList_load_cell_g rfl 2 _ rfl _ 0 rfl (jn i o ts ps) _ (hA _) _ Tryz.underlying2 rfl (.int .i64 i) (jn_ins i o ts ps) ?_) | ((with_reducible refine is_load 2 _ rfl ?_); refine wpList_load_cell_g rfl 2 _ rfl _ 1 rfl (jn i o ts ps) _ (hA _) _ Tryz.underlying2 rfl (.int .i64 o) (jn_outs i o ts ps) ?_))
                  go_ret
                  exact ⟨by rw [hr]; rfl, _, rfl⟩
            · have hki' : decide (i ≤ (k : Int)) = true := decide_eq_true (by omega)
              by_cases hz : nth (row4 ts k) m = 0
              · rw [decide_eq_true hz] at hne
                have hcell : cellOk i o k m (nth (row4 ts k) m) = true := by unfold cellOk; rw [hsh, decide_eq_true hz]; rfl
                clear hz
                by_cases hm0 : m = 0
                · have H0 := Lib.hid hm0
                  have hmz : ((m : Int) == 0) = true := by rw [hm0]; rfl
                  clear hm0
                  go_wp2_with (first | ((with_reducible refine is_load 26 _ rfl ?_); refine wpList_load_cell rfl 26 _ rfl _ _ rfl (jn i o ts ps) _ (hA _) _ Tryz.underlying26 rfl (.float .f32 (nth (row4 ts k) m)) (by rw [row4_nth hlt k hm]; exact jn_turn hlt hlp i o (k := 4 * k + m) (by omega) (by omega)) ?_) | (go_at_call 116; refine (l01Share_any _ hx _).mono ?_; rw [hsh]; rintro e w' ⟨rfl, n', rfl⟩) | ((with_reducible refine is_load 2 _ rfl ?_); refine wpList_load_cell_g rfl 2 _ rfl _ 0 rfl (jn i o ts ps) _ (hA _) _ Tryz.underlying2 rfl (.int .i64 i) (jn_ins i o ts ps) ?_) | ((with_reducible refine is_load 2 _ rfl ?_); refine wpList_load_cell_g rfl 2 _ rfl _ 1 rfl (jn i o ts ps) _ (hA _) _ Tryz.underlying2 rfl (.int .i64 o) (jn_outs i o ts ps) ?_))
                  exact ⟨⟨m + 1, _, by omega, by go_num, by rw [H0.out]; rfl, Lib.hid (by rw [cellsTo_succ, hcells.out, hcell]; rfl), rfl⟩, by simp [intOf]; omega⟩
                · have f := sumP_add (xs := (row4 ts k)) (m := m) hm0 hbd
                  have f' : ∀ t W, (binOp .add t (.float .f32 (sumP (row4 ts k) m)) (.float .f32 (nth (row4 ts k) m))).run Tryz.prog W = .ok (.float .f32 (sumP (row4 ts k) (m + 1))) W := fun t W => run_float_arith W .add t .f32 _ _ _ f
                  clear f
                  go_wp2_with (first | ((with_reducible refine is_load 26 _ rfl ?_); refine wpList_load_cell rfl 26 _ rfl _ _ rfl (jn i o ts ps) _ (hA _) _ Tryz.underlying26 rfl (.float .f32 (nth (row4 ts k) m)) (by rw [row4_nth hlt k hm]; exact jn_turn hlt hlp i o (k := 4 * k + m) (by omega) (by omega)) ?_) | (go_at_call 116; refine (l01Share_any _ hx _).mono ?_; rw [hsh]; rintro e w' ⟨rfl, n', rfl⟩) | ((with_reducible refine is_load 2 _ rfl ?_); refine wpList_load_cell_g rfl 2 _ rfl _ 0 rfl (jn i o ts ps) _ (hA _) _ Tryz.underlying2 rfl (.int .i64 i) (jn_ins i o ts ps) ?_) | ((with_reducible refine is_load 2 _ rfl ?_); refine wpList_load_cell_g rfl 2 _ rfl _ 1 rfl (jn i o ts ps) _ (hA _) _ Tryz.underlying2 rfl (.int .i64 o) (jn_outs i o ts ps) ?_))
                  exact ⟨⟨m + 1, _, by omega, by go_num, rfl, Lib.hid (by rw [cellsTo_succ, hcells.out, hcell]; rfl), rfl⟩, by simp [intOf]; omega⟩
              · rw [decide_eq_false hz] at hne
                have hcell : cellOk i o k m (nth (row4 ts k) m) = false := by unfold cellOk; rw [decide_eq_false hz, decide_eq_false hki]; simp
                clear hz
                have hr : okJ i o ts ps = false := okJ_rowS hlk (rowS_cell hm hcell)
                go_wp2_with (first | ((with_reducible refine is_load 26 _ rfl ?_); refine wpList_load_cell rfl 26 _ rfl _ _ rfl (jn i o ts ps) _ (hA _) _ Tryz.underlying26 rfl (.float .f32 (nth (row4 ts k) m)) (by rw [row4_nth hlt k hm]; exact jn_turn hlt hlp i o (k := 4 * k + m) (by omega) (by omega)) ?_) | (go_at_call 116; refine (l01Share_any _ hx _).mono ?_; rw [hsh]; rintro e w' ⟨rfl, n', rfl⟩) | ((with_reducible refine is_load 2 _ rfl ?_); refine wpList_load_cell_g rfl 2 _ rfl _ 0 rfl (jn i o ts ps) _ (hA _) _ Tryz.underlying2 rfl (.int .i64 i) (jn_ins i o ts ps) ?_) | ((with_reducible refine is_load 2 _ rfl ?_); refine wpList_load_cell_g rfl 2 _ rfl _ 1 rfl (jn i o ts ps) _ (hA _) _ Tryz.underlying2 rfl (.int .i64 o) (jn_outs i o ts ps) ?_))
                go_ret
                exact ⟨by rw [hr]; rfl, _, rfl⟩
        · obtain rfl : m = 4 := by omega
          have s2 : IntKind.i64.wrap ((k : Int) + 1) = (k : Int) + 1 := IntWalk.i64_in _ (by omega)
          by_cases hki : (k : Int) < i
          · have hki' : decide (i ≤ (k : Int)) = false := decide_eq_false (by omega)
            have hle : sumP (row4 ts k) 4 ≤ 2139095040 := sumP_amt 4 fun q hq => Nat.le_trans (cellsTo_shr hq hcells.out) (by omega)
            have m1 := ge_amt (x := sumP (row4 ts k) 4) (y := 1065336439) hle (by omega)
            have m2 := le_amt (x := sumP (row4 ts k) 4) (y := 1065361605) hle (by omega)
            have hrow : Hid (rowS i o ts ps k = (oneB (sumP (row4 ts k) 4) && priB (nth ps k))) := Lib.hid (by unfold rowS; rw [hcells.out, if_pos hki]; rfl)
            clear hle
            by_cases c1 : 1065336439 ≤ sumP (row4 ts k) 4
            · by_cases c2 : sumP (row4 ts k) 4 ≤ 1065361605
              · rw [decide_eq_true c1] at m1
                rw [decide_eq_true c2] at m2
                have h1 : oneB (sumP (row4 ts k) 4) = true := by unfold oneB; rw [decide_eq_true c1, decide_eq_true c2]; rfl
                clear c1 c2
                go_wp2_with (first | ((with_reducible refine is_load 2 _ rfl ?_); refine wpList_load_cell rfl 2 _ rfl _ 0 rfl (jn i o ts ps) _ (hA _) _ Tryz.underlying2 rfl (.int .i64 i) (jn_ins i o ts ps) ?_) | ((with_reducible refine is_load 26 _ rfl ?_); refine wpList_load_cell_g rfl 26 _ rfl _ _ rfl (jn i o ts ps) _ (hA _) _ Tryz.underlying26 rfl (.float .f32 (nth ps k)) (jn_prior hlt hlp i o hlk (by omega)) ?_))
                refine (l03Prior_b (nth ps k) hpk _).mono ?_
                cases hp : priB (nth ps k)
                · have hr : okJ i o ts ps = false := okJ_rowS hlk (by rw [hrow.out, hp, Bool.and_false])
                  rintro e w5 ⟨rfl, n5, rfl⟩
                  go_wp2_with fail
                  go_ret
                  exact ⟨by rw [hr]; rfl, _, rfl⟩
                rintro e w5 ⟨rfl, n5, rfl⟩
                go_wp2_with fail
                exact ⟨⟨k + 1, _, by omega, by go_num, Lib.hid (by rw [rowsSTo_succ, hall.out, hrow.out, h1, hp]; rfl), rfl⟩, by simp [intOf]; omega⟩
              · rw [decide_eq_true c1] at m1
                rw [decide_eq_false c2] at m2
                have hr : okJ i o ts ps = false := okJ_rowS hlk (by rw [hrow.out]; unfold oneB; rw [decide_eq_false c2]; simp)
                clear c1 c2
                go_wp2_with (first | ((with_reducible refine is_load 2 _ rfl ?_); refine wpList_load_cell rfl 2 _ rfl _ 0 rfl (jn i o ts ps) _ (hA _) _ Tryz.underlying2 rfl (.int .i64 i) (jn_ins i o ts ps) ?_) | ((with_reducible refine is_load 26 _ rfl ?_); refine wpList_load_cell_g rfl 26 _ rfl _ _ rfl (jn i o ts ps) _ (hA _) _ Tryz.underlying26 rfl (.float .f32 (nth ps k)) (jn_prior hlt hlp i o hlk (by omega)) ?_))
                go_ret
                exact ⟨by rw [hr]; rfl, _, rfl⟩
            · rw [decide_eq_false c1] at m1
              have hr : okJ i o ts ps = false := okJ_rowS hlk (by rw [hrow.out]; unfold oneB; rw [decide_eq_false c1]; simp)
              clear c1
              go_wp2_with (first | ((with_reducible refine is_load 2 _ rfl ?_); refine wpList_load_cell rfl 2 _ rfl _ 0 rfl (jn i o ts ps) _ (hA _) _ Tryz.underlying2 rfl (.int .i64 i) (jn_ins i o ts ps) ?_) | ((with_reducible refine is_load 26 _ rfl ?_); refine wpList_load_cell_g rfl 26 _ rfl _ _ rfl (jn i o ts ps) _ (hA _) _ Tryz.underlying26 rfl (.float .f32 (nth ps k)) (jn_prior hlt hlp i o hlk (by omega)) ?_))
              go_ret
              exact ⟨by rw [hr]; rfl, _, rfl⟩
          · have hki' : decide (i ≤ (k : Int)) = true := decide_eq_true (by omega)
            have hrow : Hid (rowS i o ts ps k = (amtB (nth ps k) && decide (nth ps k = 0))) := Lib.hid (by unfold rowS; rw [hcells.out, if_neg hki]; rfl)
            cases hp : amtB (nth ps k)
            · have hr : okJ i o ts ps = false := okJ_rowS hlk (by rw [hrow.out, hp]; rfl)
              go_wp2_with (first | ((with_reducible refine is_load 2 _ rfl ?_); refine wpList_load_cell rfl 2 _ rfl _ 0 rfl (jn i o ts ps) _ (hA _) _ Tryz.underlying2 rfl (.int .i64 i) (jn_ins i o ts ps) ?_) | ((with_reducible refine is_load 26 _ rfl ?_); refine wpList_load_cell rfl 26 _ rfl _ _ rfl (jn i o ts ps) _ (hA _) _ Tryz.underlying26 rfl (.float .f32 (nth ps k)) (jn_prior hlt hlp i o hlk (by omega)) ?_))
              refine (l01Amount_any (nth ps k) hpk _).mono ?_
              rw [hp]
              rintro e w5 ⟨rfl, n5, rfl⟩
              go_wp2_with fail
              go_ret
              exact ⟨by rw [hr]; rfl, _, rfl⟩
            · have hne := ne_amt (x := nth ps k) (y := 0) (by unfold amtB at hp; simp at hp; omega) (by omega)
              by_cases hz : nth ps k = 0
              · rw [decide_eq_true hz] at hne
                have hrt : rowS i o ts ps k = true := by rw [hrow.out, hp, decide_eq_true hz]; rfl
                clear hz
                go_wp2_with (first | ((with_reducible refine is_load 2 _ rfl ?_); refine wpList_load_cell rfl 2 _ rfl _ 0 rfl (jn i o ts ps) _ (hA _) _ Tryz.underlying2 rfl (.int .i64 i) (jn_ins i o ts ps) ?_) | ((with_reducible refine is_load 26 _ rfl ?_); refine wpList_load_cell rfl 26 _ rfl _ _ rfl (jn i o ts ps) _ (hA _) _ Tryz.underlying26 rfl (.float .f32 (nth ps k)) (jn_prior hlt hlp i o hlk (by omega)) ?_))
                refine (l01Amount_any (nth ps k) hpk _).mono ?_
                rw [hp]
                rintro e w5 ⟨rfl, n5, rfl⟩
                go_wp2_with (first | ((with_reducible refine is_load 26 _ rfl ?_); refine wpList_load_cell_g rfl 26 _ rfl _ _ rfl (jn i o ts ps) _ (hA _) _ Tryz.underlying26 rfl (.float .f32 (nth ps k)) (jn_prior hlt hlp i o hlk (by omega)) ?_) | ((with_reducible refine is_load 2 _ rfl ?_); refine wpList_load_cell rfl 2 _ rfl _ 0 rfl (jn i o ts ps) _ (hA _) _ Tryz.underlying2 rfl (.int .i64 i) (jn_ins i o ts ps) ?_))
                exact ⟨⟨k + 1, _, by omega, by go_num, Lib.hid (by rw [rowsSTo_succ, hall.out, hrt]; rfl), rfl⟩, by simp [intOf]; omega⟩
              · rw [decide_eq_false hz] at hne
                have hr : okJ i o ts ps = false := okJ_rowS hlk (by rw [hrow.out, decide_eq_false hz, Bool.and_false])
                clear hz
                go_wp2_with (first | ((with_reducible refine is_load 2 _ rfl ?_); refine wpList_load_cell rfl 2 _ rfl _ 0 rfl (jn i o ts ps) _ (hA _) _ Tryz.underlying2 rfl (.int .i64 i) (jn_ins i o ts ps) ?_) | ((with_reducible refine is_load 26 _ rfl ?_); refine wpList_load_cell rfl 26 _ rfl _ _ rfl (jn i o ts ps) _ (hA _) _ Tryz.underlying26 rfl (.float .f32 (nth ps k)) (jn_prior hlt hlp i o hlk (by omega)) ?_))
                refine (l01Amount_any (nth ps k) hpk _).mono ?_
                rw [hp]
                rintro e w5 ⟨rfl, n5, rfl⟩
                go_wp2_with (first | ((with_reducible refine is_load 26 _ rfl ?_); refine wpList_load_cell_g rfl 26 _ rfl _ _ rfl (jn i o ts ps) _ (hA _) _ Tryz.underlying26 rfl (.float .f32 (nth ps k)) (jn_prior hlt hlp i o hlk (by omega)) ?_) | ((with_reducible refine is_load 2 _ rfl ?_); refine wpList_load_cell rfl 2 _ rfl _ 0 rfl (jn i o ts ps) _ (hA _) _ Tryz.underlying2 rfl (.int .i64 i) (jn_ins i o ts ps) ?_))
                go_ret
                exact ⟨by rw [hr]; rfl, _, rfl⟩
    · obtain rfl : k = 4 := by omega
      go_wp2
      go_ret
      exact ⟨by rw [hok.out, hall.out]; rfl, _, rfl⟩

end Go.Proofs.YtboahhipobcabaaGreat
