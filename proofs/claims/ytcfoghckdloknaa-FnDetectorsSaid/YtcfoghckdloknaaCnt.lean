/-
  CONTRACTS: the nearest short number, on both sides.
-/
import Derived.Test.YtcfoghckdloknaaCntC
import Derived.Test.YtcfoghckdloknaaOneCell
import Derived.Test.YtcfoghckdloknaaG5
namespace Go.Proofs.Ytcfoghckdloknaa
open Go Go.ChangeShapes Go.WideShapes Go.ChangeAt Go.RowKit
set_option maxRecDepth 100000

theorem i16_of (w : World) (V : Nat) (n : Int) (h : floatToIntVal .f64 V .i16 = some n) : (convert 59 31 (.float .f64 V)).run Try.prog w = .ok (.int .i16 n) w :=
  run_convert_float_int w 59 31 .f64 .i16 V n (by rw [Try.underlying59]; rfl) Try.underlying31 h

/-- a narrow float that is no NaN: sign, rung -/
theorem parts32 {a : Nat} (ha : a < 4294967296) (hn : nanB a = false) : ∃ s r, a = S32.word s r ∧ r ≤ 2139095040 ∧ cntB a = cntR s r := by
  have hs := split32 ha
  refine ⟨decide (2147483648 ≤ a), a % 2147483648, hs, ?_, ?_⟩
  · unfold nanB at hn; simpa using hn
  · unfold cntB; rw [hn]; rfl

set_option maxHeartbeats 400000 in
theorem l05Count_any (a : Nat) (ha : a < 4294967296) (w : World) :
    Calls Try.prog 36 #[.float .f32 a] w (Rd (.int .i16 (cntB a)) w) := by
  have oa := order_self_ne a ha
  cases hn : nanB a
  · rw [hn] at oa
    have hw := wide_at ha hn
    obtain ⟨s, r, e, hr, hcn⟩ := parts32 ha hn
    rw [hcn]
    by_cases c : r = 2139095040
    · subst c
      have ew : wideB a = S64.word s 9218868437227405312 := by rw [e]; exact wide_inf s
      rw [ew] at hw
      have hc := call_rte_inf s
      cases s
      · have o1 : (FloatKind.f64.format.order (S64.word false 9218868437227405312) 4674736138332667904 == some .gt) = true := by decide +kernel
        have hv : cntR false 2139095040 = 32767 := rfl
        rw [hv]
        generalize S64.word false 9218868437227405312 = V at *
        clear e ew hcn hv
        go_enter Try.func36, Try.ntmps36
        go_wp2
        go_ret
        exact Rd.mk0
      · have o1 : (FloatKind.f64.format.order (S64.word true 9218868437227405312) 4674736138332667904 == some .gt) = false := by decide +kernel
        have o2 : (FloatKind.f64.format.order (S64.word true 9218868437227405312) 13898108450065350656 == some .lt) = true := by decide +kernel
        have hv : cntR true 2139095040 = -32768 := rfl
        rw [hv]
        generalize S64.word true 9218868437227405312 = V at *
        clear e ew hcn hv
        go_enter Try.func36, Try.ntmps36
        go_wp2
        go_ret
        exact Rd.mk0
    · have hr2 : r < 2139095040 := by omega
      have ew : wideB a = S64.word s (wideR r) := by rw [e]; exact wide_fin s hr2
      rw [ew] at hw
      have hc := call_rte s (wideR_lt hr2)
      have hN := nIk_wide (k := 1074) hr2 rfl
      have hv : cntR s r = clampC s (nIk 1074 (wideR r)) := by unfold cntR; rw [if_neg c]
      rw [hv]
      generalize S64.word s (wideR r) = V0 at hw hc
      generalize nIk 1074 (wideR r) = N at hc hN
      have hlt := wIk_lt (k := 1074) hN rfl
      rw [Nat.min_eq_left (by omega)] at hc
      have o1 := ord_gt s hN
      have o2 := ord_lt s hN
      clear e ew hcn hv hlt c hr
      by_cases c1 : s = false ∧ 32767 < N
      · obtain ⟨rfl, c1⟩ := c1
        rw [clamp_gt c1]
        rw [decide_eq_true c1] at o1
        clear c1 hN o2
        generalize S64.word false (wIk 1074 N) = V at *
        go_enter Try.func36, Try.ntmps36
        go_wp2
        go_ret
        exact Rd.mk0
      · have o1' : (!s && decide (32767 < N)) = false := by
          cases s
          · rw [decide_eq_false (fun h => c1 ⟨rfl, h⟩)]; rfl
          · rfl
        rw [o1'] at o1
        by_cases c2 : s = true ∧ 32768 < N
        · obtain ⟨rfl, c2⟩ := c2
          rw [clamp_lt c2]
          rw [decide_eq_true c2] at o2
          clear c1 c2 hN o1'
          generalize S64.word true (wIk 1074 N) = V at *
          go_enter Try.func36, Try.ntmps36
          go_wp2
          go_ret
          exact Rd.mk0
        · have o2' : (s && decide (32768 < N)) = false := by
            cases s
            · rfl
            · rw [decide_eq_false (fun h => c2 ⟨rfl, h⟩)]; rfl
          rw [o2'] at o2
          have hb : N ≤ (if s then 32768 else 32767) := by
            cases s
            · have : ¬ 32767 < N := fun h => c1 ⟨rfl, h⟩
              simp; omega
            · have : ¬ 32768 < N := fun h => c2 ⟨rfl, h⟩
              simp; omega
          rw [clamp_in hb]
          have hcv := fun w => i16_of w _ _ (toInt16 s hb)
          clear c1 c2 hN o1' o2' hb
          generalize S64.word s (wIk 1074 N) = V at *
          generalize sg s N = q at *
          go_enter Try.func36, Try.ntmps36
          go_wp2_with (simp only [hcv])
          go_ret
          exact Rd.mk0
  · rw [hn] at oa
    have e : cntB a = 0 := by unfold cntB; rw [hn]; rfl
    rw [e]
    clear e
    go_enter Try.func36, Try.ntmps36
    go_wp2
    go_ret
    exact Rd.mk0

/-- the two bounds, in new blocks -/
def countW (w : World) : World := (w.alloc (.cells #[.float .f32 3338665984] 24)).alloc (.cells #[.float .f32 1191181824] 24)

theorem countW_below (w : World) : Below w.heap.size w (countW w) := bnew (b0 w _) _

theorem countW_0 (w : World) : At (countW w) w.heap.size #[.float .f32 3338665984] 24 := (At.new w _ _).alloc _

theorem countW_1 (w : World) : At (countW w) (w.heap.size + 1) #[.float .f32 1191181824] 24 := At.last1 w _ _ _

theorem holdCount_any (w : World) :
    Calls Try.prog 39 #[.float .f32 3338665984, .float .f32 1191181824] w fun e w' => e = .returned (.func (.func 60) #[] #[.pointer (some ⟨w.heap.size, 0, none⟩), .pointer (some ⟨(w.heap.size + 1), 0, none⟩)]) ∧ w' = countW w := by
  have hmf : ∀ (fn : Fn) (first cap : Array Value) (w : World), (Instr.makeFunc fn first cap).run Try.prog w = .ok (.func fn first cap) w := fun _ _ _ _ => rfl
  go_enter Try.func39, Try.ntmps39
  go_wp2
  go_ret
  exact ⟨rfl, rfl⟩

theorem heldCount_any (g0 g1 : Nat) (s : Bool) (r : Nat) (hr : r ≤ 2139095040) (w : World) (A0 : At w g0 #[.float .f32 3338665984] 24) (A1 : At w g1 #[.float .f32 1191181824] 24) :
    Calls Try.prog 60 #[.float .f32 (S32.word s r), .pointer (some ⟨g0, 0, none⟩), .pointer (some ⟨g1, 0, none⟩)] w fun e w' => e = .returned (.float .f32 (S32.word s (min r (hC s)))) ∧ w' = w := by
  have c0 := A0.cell (k := 0) (v := .float .f32 3338665984) rfl
  have c1 := A1.cell (k := 0) (v := .float .f32 1191181824) rfl
  have m0 : ∀ ts t w, _ := fun ts t w => run_max_lo (P := Try.prog) w ts t s hr
  have m1 : ∀ ts t w, _ := fun ts t w => run_min_hi (P := Try.prog) w ts t s hr
  generalize S32.word s (if s then min r 1191182336 else r) = z at m0 m1
  generalize S32.word s (min r (hC s)) = z2 at m1 ⊢
  generalize S32.word s r = z0 at m0 ⊢
  clear A0 A1
  go_enter Try.func60, Try.ntmps60
  go_wp2
  go_ret
  exact ⟨rfl, rfl⟩

theorem isNaN_wide (a : Nat) (ha : a < 4294967296) (hn : nanB a = false) (w : World) : Calls Try.prog 38 #[.float .f64 (wideB a)] w fun e w' => e = .returned (.bool false) ∧ w' = w := by
  have ho := order64_wide ha hn
  generalize wideB a = V at ho
  go_enter Try.func38, Try.ntmps38
  go_wp2
  go_ret
  exact ⟨rfl, rfl⟩

set_option maxHeartbeats 400000 in
theorem ToCount_any (a : Nat) (ha : a < 4294967296) (w : World) :
    Calls Try.prog 17 #[.float .f32 a] w fun e w' => e = .returned (.int .i16 (cntB a)) ∧ Below w.heap.size w w' := by
  cases hn : nanB a
  · have hw := wide_at ha hn
    have ho := order64_wide ha hn
    obtain ⟨s, r, e, hr, hcn⟩ := parts32 ha hn
    rw [hcn]
    have KB := holdCount_any w
    have KH := heldCount_any w.heap.size (w.heap.size + 1) s r hr (countW w) (countW_0 w) (countW_1 w)
    rw [← e] at KH
    have hm : min r (hC s) < 2139095040 := by have := hC_lt s; omega
    have hz : S32.word s (min r (hC s)) < 4294967296 ∧ nanB (S32.word s (min r (hC s))) = false := by
      have h1 := word_split S32 s (r := min r (hC s)) (by rw [s_sw]; omega)
      refine ⟨?_, ?_⟩
      · cases s
        · rw [word_false]; omega
        · rw [word_true, s_sw]; omega
      · unfold nanB
        have h2 := h1.1
        rw [s_sw] at h2
        rw [h2]
        exact decide_eq_false (by omega)
    have hw2 := wide_at hz.1 hz.2
    rw [wide_fin s hm] at hw2
    have hc := call_rte s (wideR_lt hm)
    obtain ⟨h1, h2⟩ := held_count s hr
    rw [← h2]
    have hN := nIk_wide (k := 1074) hm rfl
    have hlt := wIk_lt (k := 1074) hN rfl
    generalize S32.word s (min r (hC s)) = z at KH hz hw2
    generalize S64.word s (wideR (min r (hC s))) = V0 at hw2 hc
    generalize nIk 1074 (wideR (min r (hC s))) = N at hc h1 h2 hN hlt
    rw [Nat.min_eq_left (by omega)] at hc
    have hcv := fun w => i16_of w _ _ (toInt16 s h1)
    generalize S64.word s (wIk 1074 N) = V at *
    generalize sg s N = q at *
    have BB := Lib.hid (countW_below w)
    clear h1 h2 hN hlt hm hr hcn e
    go_enter Try.func17, Try.ntmps17
    go_wp2_with fail
    refine (isNaN_wide a ha hn _).mono ?_
    rintro e w0 ⟨rfl, h0⟩
    subst w0
    go_wp2_with fail
    refine KB.mono ?_
    rintro e w1 ⟨rfl, rfl⟩
    go_wp2_with fail
    refine KH.mono ?_
    rintro e w2 ⟨rfl, rfl⟩
    go_wp2_with (simp only [hcv])
    go_ret
    exact ⟨rfl, BB.out⟩
  · have hw := wide_nan_at ha hn
    have ho := order64_nan (tapeNan64 w a).1 (tapeNan64 w a).2 (tapeNan (.nanConv .f64 a) w)
    have e : cntB a = 0 := by unfold cntB; rw [hn]; rfl
    rw [e]
    go_enter Try.func17, Try.ntmps17
    go_wp2
    go_ret
    exact ⟨rfl, bdrew (Below.refl _ _) 1⟩

end Go.Proofs.Ytcfoghckdloknaa
