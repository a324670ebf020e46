/-
  CONTRACTS: a turn that may be set; a row of which a turn is set.
-/
import Derived.Test.YtafgcjjgnjialaaSetT
namespace Go.Proofs.Ytafgcjjgnjialaa
open Go Go.RowKit
set_option maxRecDepth 100000

theorem isNewTurn_b (x : Nat) (hx : x < 4294967296) (o : Int) (w : World) :
    Calls Try.prog 56 #[.float .f32 x, .int .i64 o] w (Rd (.bool (shareTurn o x)) w) := by
  cases hs : shrB x
  · have e : shareTurn o x = false := by unfold shareTurn; rw [hs]; rfl
    rw [e]
    go_enter Try.func56, Try.ntmps56
    go_wp2_with fail
    refine (IsShare_any x hx _).mono ?_
    rw [hs]
    rintro e w' ⟨rfl, n, rfl⟩
    go_wp2_with fail
    go_ret
    exact Rd.mkN
  · have he := eq_amt (x := x) (y := 1065353216) (by unfold shrB at hs; simp at hs; omega) (by omega)
    have e : shareTurn o x = (decide (1 < o) || decide (x = 1065353216)) := by unfold shareTurn; rw [hs]; rfl
    by_cases ho : 1 < o
    · have e2 : shareTurn o x = true := by rw [e, decide_eq_true ho]; rfl
      have hod : decide (1 < o) = true := decide_eq_true ho
      rw [e2]
      clear e e2 ho
      go_enter Try.func56, Try.ntmps56
      go_wp2_with fail
      refine (IsShare_any x hx _).mono ?_
      rw [hs]
      rintro e w' ⟨rfl, n, rfl⟩
      go_wp2_with fail
      go_ret
      exact Rd.mkN
    · have hod : decide (1 < o) = false := decide_eq_false ho
      rw [hod, Bool.false_or] at e
      rw [e]
      clear e ho
      go_enter Try.func56, Try.ntmps56
      go_wp2_with fail
      refine (IsShare_any x hx _).mono ?_
      rw [hs]
      rintro e w' ⟨rfl, n, rfl⟩
      go_wp2_with fail
      go_ret
      exact Rd.mkN

/-- a row of which the first m turns are set -/
def RowR (o n x : Nat) (rs : List Nat) (m : Nat) (r : List Nat) : Prop := (∀ j, j < m → Agr (nth r j) (tgC o n x rs j)) ∧ ∀ j, m ≤ j → j < 4 → nth r j = nth (lessT rs n) j
theorem RowR.put {o n x m v : Nat} {rs r : List Nat} (h : RowR o n x rs m r) (hl : r.length = 4) (hm : m < 4) (hv : Agr v (tgC o n x rs m)) : RowR o n x rs (m + 1) (r.set m v) := by
  refine ⟨fun j hj => ?_, fun j hj hj4 => ?_⟩ <;> rw [nth_put (by omega)]
  · by_cases e : j = m
    · subst e; rw [if_pos rfl]; exact hv
    · rw [if_neg e]; exact h.1 j (by omega)
  · rw [if_neg (by omega)]; exact h.2 j (by omega) hj4
theorem lessT_nth {rs : List Nat} (hl : rs.length = 4) {n : Nat} (hn : n < 4) (j : Nat) : nth (lessT rs n) j = if j = n then 0 else nth rs j := nth_put (by omega) j
theorem lessT_le {rs : List Nat} (hl : rs.length = 4) (hs : ∀ k, nth rs k ≤ 1065353216) {n : Nat} (hn : n < 4) (k : Nat) : nth (lessT rs n) k ≤ 1065353216 := by
  rw [lessT_nth hl hn]; split
  · omega
  · exact hs k
theorem tgC_at (o n x : Nat) (rs : List Nat) : tgC o n x rs n = x := if_pos rfl
theorem tgC_zero {o n x c : Nat} {rs : List Nat} (hc : c ≠ n) (h : othT rs n = 0) : tgC o n x rs c = divB (subB 1065353216 x) (foB o) := by unfold tgC; rw [if_neg hc, if_pos h]
theorem tgC_part {o n x c : Nat} {rs : List Nat} (hc : c ≠ n) (h : othT rs n ≠ 0) : tgC o n x rs c = mulT (nth rs c) (divB (subB 1065353216 x) (othT rs n)) := by unfold tgC; rw [if_neg hc, if_neg h]
theorem fo_facts (o : Nat) (h : 2 ≤ o ∧ o ≤ 4) : (∀ W, (convert 2 22 (.int .i64 ((o : Int) - 1))).run Try.prog W = .ok (.float .f32 (foB o)) W) ∧ 0 < foB o ∧ foB o < 2139095040 := by
  rcases (by omega : o = 2 ∨ o = 3 ∨ o = 4) with rfl | rfl | rfl
  · exact ⟨fun W => by kernel_rfl, by decide, by decide⟩
  · exact ⟨fun W => by kernel_rfl, by decide, by decide⟩
  · exact ⟨fun W => by kernel_rfl, by decide, by decide⟩
set_option maxHeartbeats 1000000 in
theorem turned_any (rs : List Nat) (hl : rs.length = 4) (hs : ∀ k, nth rs k ≤ 1065353216) (o n : Nat) (ho : 1 ≤ o ∧ o ≤ 4) (hn : n < o) (x : Nat) (hx : x ≤ 1065353216) (w : World) :
    Calls Try.prog 57 #[.agg (fl rs), .int .i64 (o : Int), .int .i64 (n : Int), .float .f32 x] w fun e w' => ∃ r, e = .returned (.agg (fl r)) ∧ r.length = 4 ∧ (∀ c, c < 4 → Agr (nth r c) (if c < o then tgC o n x rs c else nth rs c)) ∧ Below w.heap.size w w' := by
  have A0 : At ((w.alloc (.cells (fl rs) 28)).alloc (.cells (#[.float .f32 0, .float .f32 0, .float .f32 0, .float .f32 0]) 28)) w.heap.size (fl rs) 28 := (At.new w _ _).alloc _
  have R0 : At ((w.alloc (.cells (fl rs) 28)).alloc (.cells (#[.float .f32 0, .float .f32 0, .float .f32 0, .float .f32 0]) 28)) (w.heap.size + 1) (#[.float .f32 0, .float .f32 0, .float .f32 0, .float .f32 0]) 28 := At.last1 w _ _ _
  have B0 := Lib.hid (bnew (b0 w (.cells (fl rs) 28)) (.cells (#[.float .f32 0, .float .f32 0, .float .f32 0, .float .f32 0]) 28))
  have A1 := A0.setRow (fl (lessT rs n))
  have R1 := R0.setRow_other (k := w.heap.size) (by omega) (fl (lessT rs n))
  have B1 := Lib.hid (bset B0.out (g := w.heap.size) (Nat.le_refl _) (fl (lessT rs n)))
  have LL : (lessT rs n).length = 4 := by unfold lessT; simp [hl]
  have SL : (fl (lessT rs n)).size = 4 := by rw [fl_size, LL]
  have hsub : ∀ t w, (binOp .sub t (.float .f32 1065353216) (.float .f32 x)).run Try.prog w = .ok (.float .f32 (subB 1065353216 x)) w := fun t w => run_float_arith w .sub t .f32 _ _ _ (one_sub hx).1
  have hdn : decide ((n : Int) < 4) = true := decide_eq_true (by omega)
  go_enter Try.func57, Try.ntmps57
  go_wp2_with (first | ((with_reducible refine is_store 22 (.tmp 13) (.const (.float .f32 0)) rfl ?_); refine wpList_store_cell rfl 22 (.tmp 13) (.const (.float .f32 0)) rfl _ _ rfl (.float .f32 0) rfl (fl rs) _ A0 (by rw [fl_size, hl]; omega) (by kernel_rfl) rfl (fl (lessT rs n)) ((by rw [fl_set]; rfl)) ?_) | ((with_reducible refine is_load 28 _ rfl ?_); refine wpList_load_at rfl 28 _ rfl _ rfl (fl (lessT rs n)) _ A1 4 (SL) _ Try.underlying28 rfl (by kernel_rfl) ?_))
  refine (SumOfFour_any (lessT rs n) LL _).mono ?_
  rintro e w1 ⟨v, rfl, hv, hb1⟩
  obtain ⟨rfl, -⟩ := Sum4_amt (fun k hk => Nat.le_trans (lessT_le hl hs (by omega) k) (by omega)) hv
  rw [sumZ_four (lessT_le hl hs (by omega))]
  have hoth : sumZ (lessT rs n) 4 < 2139095040 := sumZ_fin (lessT_le hl hs (by omega)) 4 (by omega)
  rw [show sumZ (lessT rs n) 4 = othT rs n from rfl] at hoth ⊢
  have A2 := A1.step hb1
  have R2 := R1.step hb1
  have B2 := Lib.hid (bthen B1.out hb1)
  clear A0 R0 B0 A1 R1 B1 hb1 hv
  go_wp2_with fail
  go_loopw [19] (fun c' wr => ∃ (c : Nat) (r : List Nat), c ≤ o ∧ c' = .int .i64 (c : Int) ∧ r.length = 4 ∧ Hid (RowR o n x rs c r) ∧ At wr w.heap.size (fl r) 28 ∧ At wr (w.heap.size + 1) (#[.float .f32 0, .float .f32 0, .float .f32 0, .float .f32 0]) 28 ∧ Hid (Below w.heap.size w wr)) (fun c' _ => 4 - (intOf c').toNat)
  case atStart => exact ⟨0, lessT rs n, by omega, rfl, LL, Lib.hid ⟨fun j hj => by omega, fun j _ _ => rfl⟩, A2, R2, B2⟩
  case round =>
    clear A2 R2 B2
    obtain ⟨c, r, hc, rfl, hrl, hR, A4, R4, B4⟩ := hrel
    by_cases hco : c < o
    · have s2 : IntKind.i64.wrap ((c : Int) + 1) = (c : Int) + 1 := IntWalk.i64_in _ (by omega)
      have cd : decide ((c : Int) < (o : Int)) = true := decide_eq_true (by omega)
      have c4 : decide ((c : Int) < 4) = true := decide_eq_true (by omega)
      by_cases hcn : c = n
      · have cn : decide ((c : Int) = (n : Int)) = true := decide_eq_true (by omega)
        have cn' : ((c : Int) == (n : Int)) = true := by simp [hcn]
        have HR : Hid (RowR o n x rs (c + 1) (r.set c x)) := Lib.hid (hR.out.put hrl (by omega) (by rw [hcn, tgC_at]; exact Agr.refl (by omega)))
        have A9 := A4.setRow (fl (r.set c x))
        have R9 := R4.setRow_other (k := w.heap.size) (by omega) (fl (r.set c x))
        have B9 := Lib.hid (bset B4.out (g := w.heap.size) (Nat.le_refl _) (fl (r.set c x)))
        clear hR hcn
        go_wp2_with (first | ((with_reducible refine is_store 22 (.tmp 37) (.tmp 36) rfl ?_); refine wpList_store_cell rfl 22 (.tmp 37) (.tmp 36) rfl _ _ rfl (.float .f32 x) rfl (fl r) _ A4 (by rw [fl_size, hrl]; omega) (by kernel_rfl) rfl (fl (r.set c x)) ((by rw [fl_set])) ?_))
        exact ⟨⟨c + 1, r.set c x, by omega, by go_num, by simp [hrl], HR, A9, R9, B9⟩, by simp [intOf]; omega⟩
      · have cn : decide ((c : Int) = (n : Int)) = false := decide_eq_false (by omega)
        have cn' : ((c : Int) == (n : Int)) = false := by simp; omega
        have oe := eq_amt (x := othT rs n) (y := 0) (by omega) (by omega)
        by_cases hz : othT rs n = 0
        · rw [decide_eq_true hz] at oe
          have ff := fo_facts o (by omega)
          have hcv := ff.1
          have hrest := (one_sub hx).2
          have hq : ∀ t w, (binOp .quo t (.float .f32 (subB 1065353216 x)) (.float .f32 (foB o))).run Try.prog w = .ok (.float .f32 (divB (subB 1065353216 x) (foB o))) w := fun t w => run_float_arith w .quo t .f32 _ _ _ (div_some (by omega) ff.2.2 ff.2.1).1
          have hdl := (div_some (show subB 1065353216 x < 2139095040 by omega) ff.2.2 ff.2.1).2
          have sw : IntKind.i64.wrap ((o : Int) - 1) = (o : Int) - 1 := IntWalk.i64_in _ (by omega)
          have hag : Agr (divB (subB 1065353216 x) (foB o)) (tgC o n x rs c) := by rw [tgC_zero hcn hz]; exact Agr.refl (by omega)
          clear ff hrest hdl hz
          generalize divB (subB 1065353216 x) (foB o) = q at hq hag
          have HR : Hid (RowR o n x rs (c + 1) (r.set c q)) := Lib.hid (hR.out.put hrl (by omega) (hag))
          have A9 := A4.setRow (fl (r.set c q))
          have R9 := R4.setRow_other (k := w.heap.size) (by omega) (fl (r.set c q))
          have B9 := Lib.hid (bset B4.out (g := w.heap.size) (Nat.le_refl _) (fl (r.set c q)))
          clear hR hcn
          go_wp2_with (first | ((with_reducible refine is_store 22 (.tmp 47) (.tmp 46) rfl ?_); refine wpList_store_cell rfl 22 (.tmp 47) (.tmp 46) rfl _ _ rfl (.float .f32 q) rfl (fl r) _ A4 (by rw [fl_size, hrl]; omega) (by kernel_rfl) rfl (fl (r.set c q)) ((by rw [fl_set])) ?_))
          exact ⟨⟨c + 1, r.set c q, by omega, by go_num, by simp [hrl], HR, A9, R9, B9⟩, by simp [intOf]; omega⟩
        · rw [decide_eq_false hz] at oe
          have hrest := (one_sub hx).2
          have hd := div_some (show subB 1065353216 x < 2139095040 by omega) hoth (by omega)
          have hq : ∀ t w, (binOp .quo t (.float .f32 (subB 1065353216 x)) (.float .f32 (othT rs n))).run Try.prog w = .ok (.float .f32 (divB (subB 1065353216 x) (othT rs n))) w := fun t w => run_float_arith w .quo t .f32 _ _ _ hd.1
          have htg := tgC_part (o := o) (x := x) hcn hz
          have hrc : nth r c = nth rs c := by rw [hR.out.2 c (Nat.le_refl _) (by omega), lessT_nth hl (by omega), if_neg hcn]
          clear hd hrest hz
          generalize divB (subB 1065353216 x) (othT rs n) = q at hq htg
          obtain ⟨z, n1, e1, r1⟩ := run_mul_any (P := Try.prog) 22 (nth rs c) q wr
          have hag : Agr z (tgC o n x rs c) := by rw [htg]; exact r1.agr
          have A5 := A4.drewN n1
          have R5 := R4.drewN n1
          have B5 := Lib.hid (bdrew B4.out n1)
          have cl : (fl r)[c]? = some (.float .f32 (nth rs c)) := by rw [← hrc]; exact fl_get (by omega)
          clear htg hrc r1
          have HR : Hid (RowR o n x rs (c + 1) (r.set c z)) := Lib.hid (hR.out.put hrl (by omega) (hag))
          have A9 := A5.setRow (fl (r.set c z))
          have R9 := R5.setRow_other (k := w.heap.size) (by omega) (fl (r.set c z))
          have B9 := Lib.hid (bset B5.out (g := w.heap.size) (Nat.le_refl _) (fl (r.set c z)))
          clear hR hcn
          go_wp2_with (first | ((with_reducible refine is_load 22 _ rfl ?_); refine wpList_load_cell rfl 22 _ rfl _ _ rfl (fl r) _ A4 _ Try.underlying22 rfl (.float .f32 (nth rs c)) (cl) ?_) | ((with_reducible refine is_store 22 (.tmp 30) (.tmp 29) rfl ?_); refine wpList_store_cell rfl 22 (.tmp 30) (.tmp 29) rfl _ _ rfl (.float .f32 z) rfl (fl r) _ A5 (by rw [fl_size, hrl]; omega) (by kernel_rfl) rfl (fl (r.set c z)) ((by rw [fl_set])) ?_))
          exact ⟨⟨c + 1, r.set c z, by omega, by go_num, by simp [hrl], HR, A9, R9, B9⟩, by simp [intOf]; omega⟩
    · obtain rfl : c = o := by omega
      have SV : (fl r).size = 4 := by rw [fl_size, hrl]
      have R9 := R4.setRow (fl r)
      have B9 := Lib.hid (bset B4.out (g := w.heap.size + 1) (by omega) (fl r))
      have HF : Hid (∀ j, j < 4 → Agr (nth r j) (if j < c then tgC c n x rs j else nth rs j)) := Lib.hid fun j hj => by
        by_cases hjc : j < c
        · rw [if_pos hjc]; exact hR.out.1 j hjc
        · rw [if_neg hjc, hR.out.2 j (by omega) hj, lessT_nth hl (by omega), if_neg (by omega)]; exact Agr.refl (by have := hs j; omega)
      clear hR
      go_wp2_with (first | ((with_reducible refine is_load 28 _ rfl ?_); refine wpList_load_at rfl 28 _ rfl _ rfl (fl r) _ A4 4 (SV) _ Try.underlying28 rfl (by kernel_rfl) ?_) | ((with_reducible refine is_store 28 (.tmp 8) (.tmp 49) rfl ?_); refine wpList_store_at rfl 28 (.tmp 8) (.tmp 49) rfl _ rfl (fl r) rfl (#[.float .f32 0, .float .f32 0, .float .f32 0, .float .f32 0]) _ R4 4 (SV) (rfl) (by kernel_rfl) (fl_one _) ?_))
      exact bodyPost_ret (v := .agg (fl r)) (results_at (p := 8) (ty := 28) rfl _ _ _ (fl r) _ rfl R9 _ Try.underlying28 rfl 4 SV (by kernel_rfl)) rfl ⟨r, rfl, hrl, HF.out, B9.out⟩

end Go.Proofs.Ytafgcjjgnjialaa
