/-
  CONTRACTS: how a law holds two answers that are one against each other.
-/
import Derived.Test.YtboahhipobcabaaConv
namespace Go.Proofs.Ytboahhipobcabaa
open Go Go.RowKit

theorem order64_zero {x : Nat} (h : x < 4294967296) (hn : nanB x = false) : (FloatKind.f64.format.order (wideB x) 0 == some .eq) = decide (x % 2147483648 = 0) := by
  obtain ⟨R, h1, h2, h3⟩ := wide_form h hn
  rw [h1]
  generalize decide (2147483648 ≤ x) = s
  show (S64.order (S64.word s R) (S64.word false 0) == some .eq) = _
  by_cases c : R = 9218868437227405312
  · subst c
    have hi := read_inf S64 d_bin s
    rw [d_inf] at hi
    obtain ⟨m, i, k1, -, -⟩ := read_fin S64 false (r := 0) (by rw [d_inf]; omega)
    unfold Ieee.Format.order
    rw [hi, k1, decide_eq_false (by omega)]
    cases s <;> rfl
  · rw [order_fin S64 s false (r := R) (q := 0) (by rw [d_inf]; omega) (by rw [d_inf]; omega), rv_zero]
    by_cases z : R = 0
    · rw [decide_eq_true (h3.1 z), z, rv_zero]; cases s <;> rfl
    · rw [decide_eq_false (fun e => z (h3.2 e))]
      have hp := rv_pos (p := S64.fractionBits) (r := R) (by omega)
      have : compare (sg s (rv S64.fractionBits R)) (sg false 0) ≠ .eq := by
        intro e
        have e' := Int.compare_eq_eq.1 e
        cases s <;> simp [sg] at e' <;> omega
      cases hc : compare (sg s (rv S64.fractionBits R)) (sg false 0) <;> simp_all

theorem zero_words {x : Nat} (h : x < 4294967296) (hz : x % 2147483648 = 0) : wideB x = 0 ∨ wideB x = 9223372036854775808 := by
  rcases (by omega : x = 0 ∨ x = 2147483648) with rfl | rfl
  · exact .inl (by decide)
  · exact .inr (by decide)

theorem sameFloat_same (x : Nat) (h : x < 4294967296) (hn : nanB x = false) (w : World) :
    Calls Try.prog 39 #[.float .f64 (wideB x), .float .f64 (wideB x)] w fun e w' => e = .returned (.bool true) ∧ w = w' := by
  have ho := order64_wide h hn
  have hz := order64_zero h hn
  by_cases c : x % 2147483648 = 0
  · rw [decide_eq_true c] at hz
    rcases zero_words h c with e | e
    · rw [e] at hz ho ⊢
      have hq : ∀ t w, (binOp .quo t (.float .f64 4607182418800017408) (.float .f64 0)).run Try.prog w = .ok (.float .f64 9218868437227405312) w := fun t w => run_float_arith w .quo t .f64 _ _ _ (by decide)
      clear ho hz c
      go_enter Try.func39, Try.ntmps39
      go_wp2_with (simp only [hq])
      all_goals (go_ret; exact ⟨rfl, rfl⟩)
    · rw [e] at hz ho ⊢
      have hq : ∀ t w, (binOp .quo t (.float .f64 4607182418800017408) (.float .f64 9223372036854775808)).run Try.prog w = .ok (.float .f64 18442240474082181120) w := fun t w => run_float_arith w .quo t .f64 _ _ _ (by decide)
      go_enter Try.func39, Try.ntmps39
      go_wp2_with (simp only [hq])
      all_goals (go_ret; exact ⟨rfl, rfl⟩)
  · rw [decide_eq_false c] at hz
    go_enter Try.func39, Try.ntmps39
    go_wp2
    go_ret
    exact ⟨rfl, rfl⟩

theorem sameFloat_rd (x : Nat) (h : x < 4294967296) (hn : nanB x = false) (w : World) :
    Calls Try.prog 39 #[.float .f64 (wideB x), .float .f64 (wideB x)] w (Rd (.bool true) w) :=
  (sameFloat_same x h hn w).mono fun _ _ h => ⟨h.1, 0, h.2.symm⟩

/-- two blocks behind those of w -/
def Two (w : World) (c1 : Array Value) (t1 : TypeId) (c2 : Array Value) (t2 : TypeId) (wr : World) : Prop :=
  wr.heap[w.heap.size]? = some (.cells c1 t1 (0, 0)) ∧ wr.heap[w.heap.size + 1]? = some (.cells c2 t2 (0, 0)) ∧ Below w.heap.size w wr
theorem Two.mk (w : World) (c1 : Array Value) (t1 : TypeId) (c2 : Array Value) (t2 : TypeId) : Two w c1 t1 c2 t2 ((w.alloc (.cells c1 t1)).alloc (.cells c2 t2)) :=
  ⟨heap_old (heap_last _ _) _, by have := heap_last (w.alloc (.cells c1 t1)) (.cells c2 t2); rwa [World.size_alloc] at this, ((Below.refl _ _).alloc (Nat.le_refl _) _).alloc (by simp) _⟩
theorem Two.drewN {w : World} {c1 : Array Value} {t1 : TypeId} {c2 : Array Value} {t2 : TypeId} {wr : World} (h : Two w c1 t1 c2 t2 wr) (n : Nat) : Two w c1 t1 c2 t2 (wr.drewN n) := ⟨h.1, h.2.1, below_drewN h.2.2 n⟩
theorem Two.cell1 {w : World} {c1 : Array Value} {t1 : TypeId} {c2 : Array Value} {t2 : TypeId} {wr : World} (h : Two w c1 t1 c2 t2 wr) {k : Nat} {v : Value} (hk : c1[k]? = some v) : wr.cell? ⟨w.heap.size, k, none⟩ = some v := by
  rw [cell_of_row _ _ _ _ _ _ h.1]; exact hk
theorem Two.cell2 {w : World} {c1 : Array Value} {t1 : TypeId} {c2 : Array Value} {t2 : TypeId} {wr : World} (h : Two w c1 t1 c2 t2 wr) {k : Nat} {v : Value} (hk : c2[k]? = some v) : wr.cell? ⟨w.heap.size + 1, k, none⟩ = some v := by
  rw [cell_of_row _ _ _ _ _ _ h.2.1]; exact hk

theorem eqCars_same (ys : List Nat) (hl : ys.length = 16) (hc : ∀ x ∈ ys, x < 4294967296) (hn : ∀ x ∈ ys, nanB x = false) (w : World) :
    Calls Try.prog 110 #[.agg (fl ys), .agg (fl ys)] w fun e w' => e = .returned (.bool true) ∧ Below w.heap.size w w' := by
  go_enter Try.func110, Try.ntmps110
  go_wp2
  go_loopw [5] (fun i wr => ∃ k : Nat, k ≤ 16 ∧ i = .int .i64 k ∧ Two w (fl ys) 60 (fl ys) 60 wr) (fun i _ => 16 - (intOf i).toNat)
  case atStart => exact ⟨0, by omega, rfl, Two.mk _ _ _ _ _⟩
  case round =>
    obtain ⟨k, hk, rfl, hT⟩ := hrel
    by_cases hlt : k < 16
    · have g1 := hT.cell1 (fl_get (xs := ys) (k := k) (by omega))
      have g2 := hT.cell2 (fl_get (xs := ys) (k := k) (by omega))
      have hx := u32_lt hc k
      have hnx : nanB (nth ys k) = false := hn _ (nth_mem (by omega))
      have hw := wide_at hx hnx
      go_wp2
      go_quiet ((go_at_call 39; exact Calls.quiet_of (sameFloat_rd _ hx hnx _)))
      go_wp2
      exact ⟨⟨k + 1, by omega, by go_num, hT.drewN _⟩, by simp [intOf]; omega⟩
    · go_wp2
      go_ret
      exact ⟨rfl, hT.2.2⟩

theorem Two.step {w : World} {c1 : Array Value} {t1 : TypeId} {c2 : Array Value} {t2 : TypeId} {wr w1 : World} (h : Two w c1 t1 c2 t2 wr) (hb : Below wr.heap.size wr w1) : Two w c1 t1 c2 t2 w1 := by
  have hlt : w.heap.size + 1 < wr.heap.size := by
    rcases Nat.lt_or_ge (w.heap.size + 1) wr.heap.size with c | c
    · exact c
    · have := h.2.1; rw [Array.getElem?_eq_none c] at this; cases this
  exact ⟨(hb.block _ (by omega)).trans h.1, (hb.block _ hlt).trans h.2.1, h.2.2.trans (hb.mono (by omega))⟩

/-- a valid road has no NaN -/
def goodL (cs : List Nat) (p b l : Nat) : Prop := cs.length = 16 ∧ (∀ x ∈ cs, x < 4294967296 ∧ nanB x = false) ∧ (p < 4294967296 ∧ nanB p = false) ∧ (b < 4294967296 ∧ nanB b = false) ∧ (l < 4294967296 ∧ nanB l = false)

theorem nan_le {x c : Nat} (h : x ≤ c) (hc : c ≤ 2139095040) : x < 4294967296 ∧ nanB x = false := by
  refine ⟨by omega, ?_⟩
  unfold nanB
  simp
  omega

theorem okB_good {cs : List Nat} {p b l : Nat} (hl : cs.length = 16) (h : okB cs p b l = true) : goodL cs p b l := by
  unfold okB paceB lanesB at h
  simp only [Bool.and_eq_true, List.all_eq_true, decide_eq_true_eq] at h
  obtain ⟨⟨⟨h1, h2⟩, h3⟩, h4⟩ := h
  refine ⟨hl, fun x hx => nan_le (c := 1065353216) (by have := h1 x hx; unfold shrB at this; simpa using this) (by omega), nan_le h2.2 (by omega), nan_le h3.2 (by omega), nan_le h4.2 (by omega)⟩

theorem zero_good : goodL (zeros 16) 0 0 0 := ⟨zeros_len 16, fun x hx => by obtain rfl := List.eq_of_mem_replicate hx; decide, by decide, by decide, by decide⟩

theorem eqRoad_same (cs : List Nat) (p b l : Nat) (hg : goodL cs p b l) (w : World) :
    Calls Try.prog 74 #[.agg (rd cs p b l), .agg (rd cs p b l)] w fun e w' => e = .returned (.bool true) ∧ Below w.heap.size w w' := by
  obtain ⟨hl, hc, hp, hb, hla⟩ := hg
  have T0 := Two.mk w (rd cs p b l) 62 (rd cs p b l) 62
  have L1 := Lib.hid (run_loadAt_part (P := Try.prog) _ _ 0 16 60 (rd cs p b l) _ (0, 0) _ T0.1 Try.underlying60 rfl (by kernel_rfl) (by rw [rd_size hl]; omega))
  have L2 := Lib.hid (run_loadAt_part (P := Try.prog) _ _ 0 16 60 (rd cs p b l) _ (0, 0) _ T0.2.1 Try.underlying60 rfl (by kernel_rfl) (by rw [rd_size hl]; omega))
  rw [Nat.zero_add, rd_cars hl] at L1 L2
  have H0 := Lib.hid T0
  clear T0
  go_enter Try.func74, Try.ntmps74
  go_wp2_with (first | ((with_reducible refine is_load 60 (.tmp 5) rfl ?_); refine wpList_load_of rfl 60 _ rfl _ rfl _ L1.out ?_) | ((with_reducible refine is_load 60 (.tmp 7) rfl ?_); refine wpList_load_of rfl 60 _ rfl _ rfl _ L2.out ?_))
  refine (eqCars_same cs hl (fun x hx => (hc x hx).1) (fun x hx => (hc x hx).2) _).mono ?_
  rintro e w1 ⟨rfl, hb1⟩
  have T1 := H0.out.step hb1
  clear L1 L2 H0 hb1
  have q1 := T1.cell1 (rd_pace hl p b l)
  have q2 := T1.cell2 (rd_pace hl p b l)
  have q3 := T1.cell1 (rd_back hl p b l)
  have q4 := T1.cell2 (rd_back hl p b l)
  have q5 := T1.cell1 (rd_lanes hl p b l)
  have q6 := T1.cell2 (rd_lanes hl p b l)
  have u1 := wide_at hp.1 hp.2
  have u2 := wide_at hb.1 hb.2
  have u3 := wide_at hla.1 hla.2
  have hB := Lib.hid T1.2.2
  clear T1
  go_wp2_with (go_at_call 39; refine (sameFloat_same _ (by first | exact hp.1 | exact hb.1 | exact hla.1) (by first | exact hp.2 | exact hb.2 | exact hla.2) _).mono ?_; rintro e w' ⟨rfl, rfl⟩)
  go_ret
  exact ⟨rfl, hB.out⟩
end Go.Proofs.Ytboahhipobcabaa
