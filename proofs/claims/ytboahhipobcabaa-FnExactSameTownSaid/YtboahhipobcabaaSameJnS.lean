/-
  CONTRACTS: SameJunction, the model's.
-/
import Derived.Test.YtboahhipobcabaaSameJn
import Derived.Test.YtboahhipobcabaaValidL
namespace Go.Proofs.Ytboahhipobcabaa
open Go Go.RowKit
set_option maxRecDepth 100000

theorem same_dec (a b : Nat) : sameB a b = decide (nbits a = nbits b) := by
  rw [← sameB_nbits]
  by_cases c : nbits a = nbits b
  · rw [decide_eq_true c, c]; simp
  · rw [decide_eq_false c]
    have : ¬ ((nbits a : Nat) : Int) = ((nbits b : Nat) : Int) := by omega
    simpa using this

theorem same_maps {xs ys : List Nat} (h : xs.length = ys.length) (q : ∀ p, p < xs.length → sameB (nth xs p) (nth ys p) = true) : xs.map nbits = ys.map nbits := by
  apply List.ext_getElem
  · simp [h]
  · intro p h1 h2
    simp only [List.length_map] at h1 h2
    have := q p h1
    rw [same_dec, decide_eq_true_eq] at this
    unfold nth at this
    rw [List.getD_eq_getElem?_getD, List.getD_eq_getElem?_getD, List.getElem?_eq_getElem h1, List.getElem?_eq_getElem h2] at this
    simpa using this

theorem same_not {xs ys : List Nat} (h : xs.length = ys.length) {p : Nat} (hp : p < xs.length) (q : sameB (nth xs p) (nth ys p) = false) : decide (xs.map nbits = ys.map nbits) = false := by
  refine decide_eq_false fun e => ?_
  rw [same_dec, decide_eq_false_iff_not] at q
  apply q
  have h1 := nth_mapB nbits hp
  have h2 := nth_mapB nbits (show p < ys.length by omega)
  rw [← h1, ← h2, e]

set_option maxHeartbeats 2000000 in
theorem l03Same_b (g g' : Nat) (i o : Int) (ts ps : List Nat) (hi : -9223372036854775808 ≤ i ∧ i ≤ 9223372036854775807) (ho : -9223372036854775808 ≤ o ∧ o ≤ 9223372036854775807) (hlt : ts.length = 16) (hlp : ps.length = 4) (hct : ∀ x ∈ ts, x < 4294967296) (hcp : ∀ x ∈ ps, x < 4294967296) (i' o' : Int) (ts' ps' : List Nat) (hi' : -9223372036854775808 ≤ i' ∧ i' ≤ 9223372036854775807) (ho' : -9223372036854775808 ≤ o' ∧ o' ≤ 9223372036854775807) (hlt' : ts'.length = 16) (hlp' : ps'.length = 4) (hct' : ∀ x ∈ ts', x < 4294967296) (hcp' : ∀ x ∈ ps', x < 4294967296) (T T' : TypeId) (w : World) (hA : At w g (jn i o ts ps) T) (hE : At w g' (jn i' o' ts' ps') T') :
    Calls Try.prog 101 #[.pointer (some ⟨g, 0, none⟩), .pointer (some ⟨g', 0, none⟩)] w fun e w' => e = .returned (.bool (sameJ i o ts ps i' o' ts' ps')) ∧ Below w.heap.size w w' := by
  have B0 : Hid (Below w.heap.size w w) := Lib.hid (Below.refl _ _)
  clear hi ho hi' ho'
  go_enter Try.func101, Try.ntmps101
  go_wp2
  go_loopw [5] (fun i1 wr => ∃ k : Nat, k ≤ 4 ∧ i1 = .int .i64 k ∧ Hid (∀ p, p < 4 * k → sameB (nth ts p) (nth ts' p) = true) ∧ Hid (∀ p, p < k → sameB (nth ps p) (nth ps' p) = true) ∧ At wr g (jn i o ts ps) T ∧ At wr g' (jn i' o' ts' ps') T' ∧ Hid (Below w.heap.size w wr)) (fun i1 _ => 4 - (intOf i1).toNat)
  case atStart => exact ⟨0, by omega, rfl, Lib.hid (fun p hp => by omega), Lib.hid (fun p hp => by omega), hA, hE, B0⟩
  case round =>
    clear hA hE B0
    obtain ⟨k, hk, rfl, HT, HP, A4, E4, B4⟩ := hrel
    by_cases hlk : k < 4
    · have s2 : IntKind.i64.wrap ((k : Int) + 1) = (k : Int) + 1 := IntWalk.i64_in _ (by omega)
      have hkd : decide ((k : Int) < 4) = true := decide_eq_true (by omega)
      go_wp2
      go_loopw [6] (fun i1 wr' => ∃ n : Nat, n ≤ 4 ∧ i1 = .int .i64 n ∧ Hid (∀ p, p < 4 * k + n → sameB (nth ts p) (nth ts' p) = true) ∧ At wr' g (jn i o ts ps) T ∧ At wr' g' (jn i' o' ts' ps') T' ∧ Hid (Below w.heap.size w wr')) (fun i1 _ => 4 - (intOf i1).toNat)
      case atStart => exact ⟨0, by omega, rfl, HT, A4, E4, B4⟩
      case round =>
        clear A4 E4 B4 HT
        obtain ⟨n, hn', rfl, HT, A4, E4, B4⟩ := hrel
        by_cases hn : n < 4
        · have s3 : IntKind.i64.wrap ((n : Int) + 1) = (n : Int) + 1 := IntWalk.i64_in _ (by omega)
          have dT : (jn i o ts ps)[2 + k * 4 + n]? = some (.float .f32 (nth ts (4 * k + n))) := jn_turn hlt hlp i o (k := 4 * k + n) (by omega) (by omega)
          have dT' : (jn i' o' ts' ps')[2 + k * 4 + n]? = some (.float .f32 (nth ts' (4 * k + n))) := jn_turn hlt' hlp' i' o' (k := 4 * k + n) (by omega) (by omega)
          have KL := fun w => (l01Same_any (nth ts (4 * k + n)) (nth ts' (4 * k + n)) (u32_lt hct _) (u32_lt hct' _) w).mono fun e w' (h : Rd _ w e w') => (⟨h.1, by obtain ⟨-, n, rfl⟩ := h; exact bdrew (Below.refl _ _) n⟩ : e = .returned (.bool (sameB (nth ts (4 * k + n)) (nth ts' (4 * k + n)))) ∧ Below w.heap.size w w')
          have hC := Cb.const wr
          go_wp2
          cases hs : sameB (nth ts (4 * k + n)) (nth ts' (4 * k + n)) <;> rw [hs] at KL
          · have hno : Hid ((sameJ i o ts ps i' o' ts' ps') = false) := Lib.hid (by unfold sameJ; rw [same_not (by rw [hlt, hlt']) (by omega) hs, Bool.and_false]; rfl)
            refine wp_region_cb (by kernel_rfl) (by kernel_rfl) ?_
            repeat (first
              | go_big_quiet_skip
              | (go_big_quiet_want; first
                | (refine q_cell 26 _ rfl _ Try.underlying26 _ rfl A4 _ dT ?_; go_simp; go_big_quiet_on)
                | (refine q_cell 26 _ rfl _ Try.underlying26 _ rfl E4 _ dT' ?_; go_simp; go_big_quiet_on)
                | (go_big_quiet_op; go_big_quiet_on)
                | (go_big_quiet_op; apply Exists.intro; refine ⟨fun w' hw' => ?_, ?_⟩; (go_at_call 61; exact (KL _).mono fun _ _ h => ⟨h.1, hw'.step h.2⟩); go_big_quiet_on)))
            refine wpQuiet_nil ?_
            intro w7 hw7
            go_wp2
            go_ret
            exact ⟨by rw [hno.out]; rfl, bthen B4.out hw7⟩
          · skip
            refine wp_region_cb (by kernel_rfl) (by kernel_rfl) ?_
            repeat (first
              | go_big_quiet_skip
              | (go_big_quiet_want; first
                | (refine q_cell 26 _ rfl _ Try.underlying26 _ rfl A4 _ dT ?_; go_simp; go_big_quiet_on)
                | (refine q_cell 26 _ rfl _ Try.underlying26 _ rfl E4 _ dT' ?_; go_simp; go_big_quiet_on)
                | (go_big_quiet_op; go_big_quiet_on)
                | (go_big_quiet_op; apply Exists.intro; refine ⟨fun w' hw' => ?_, ?_⟩; (go_at_call 61; exact (KL _).mono fun _ _ h => ⟨h.1, hw'.step h.2⟩); go_big_quiet_on)))
            refine wpQuiet_nil ?_
            intro w7 hw7
            have A6 := A4.step hw7
            have E6 := E4.step hw7
            have B6 := Lib.hid (bthen B4.out hw7)
            have HT' : Hid (∀ p, p < 4 * k + (n + 1) → sameB (nth ts p) (nth ts' p) = true) := Lib.hid fun p hp => by
              by_cases e : p = 4 * k + n
              · rw [e]; exact hs
              · exact HT.out p (by omega)
            clear HT hs KL dT dT' hC A4 E4 B4 hw7
            go_wp2
            exact ⟨⟨n + 1, by omega, by go_num, HT', A6, E6, B6⟩, by simp [intOf]; omega⟩
        · obtain rfl : n = 4 := by omega
          have dP : (jn i o ts ps)[18 + k]? = some (.float .f32 (nth ps k)) := jn_prior hlt hlp i o hlk (by omega)
          have dP' : (jn i' o' ts' ps')[18 + k]? = some (.float .f32 (nth ps' k)) := jn_prior hlt' hlp' i' o' hlk (by omega)
          have KL := fun w => (l01Same_any (nth ps k) (nth ps' k) (u32_lt hcp _) (u32_lt hcp' _) w).mono fun e w' (h : Rd _ w e w') => (⟨h.1, by obtain ⟨-, n, rfl⟩ := h; exact bdrew (Below.refl _ _) n⟩ : e = .returned (.bool (sameB (nth ps k) (nth ps' k))) ∧ Below w.heap.size w w')
          have hC := Cb.const wr
          go_wp2
          cases hs : sameB (nth ps k) (nth ps' k) <;> rw [hs] at KL
          · have hno : Hid ((sameJ i o ts ps i' o' ts' ps') = false) := Lib.hid (by unfold sameJ; rw [same_not (by rw [hlp, hlp']) (by omega) hs, Bool.and_false])
            refine wp_region_cb (by kernel_rfl) (by kernel_rfl) ?_
            repeat (first
              | go_big_quiet_skip
              | (go_big_quiet_want; first
                | (refine q_cell 26 _ rfl _ Try.underlying26 _ rfl A4 _ dP ?_; go_simp; go_big_quiet_on)
                | (refine q_cell 26 _ rfl _ Try.underlying26 _ rfl E4 _ dP' ?_; go_simp; go_big_quiet_on)
                | (go_big_quiet_op; go_big_quiet_on)
                | (go_big_quiet_op; apply Exists.intro; refine ⟨fun w' hw' => ?_, ?_⟩; (go_at_call 61; exact (KL _).mono fun _ _ h => ⟨h.1, hw'.step h.2⟩); go_big_quiet_on)))
            refine wpQuiet_nil ?_
            intro w7 hw7
            go_wp2
            go_ret
            exact ⟨by rw [hno.out]; rfl, bthen B4.out hw7⟩
          · skip
            refine wp_region_cb (by kernel_rfl) (by kernel_rfl) ?_
            repeat (first
              | go_big_quiet_skip
              | (go_big_quiet_want; first
                | (refine q_cell 26 _ rfl _ Try.underlying26 _ rfl A4 _ dP ?_; go_simp; go_big_quiet_on)
                | (refine q_cell 26 _ rfl _ Try.underlying26 _ rfl E4 _ dP' ?_; go_simp; go_big_quiet_on)
                | (go_big_quiet_op; go_big_quiet_on)
                | (go_big_quiet_op; apply Exists.intro; refine ⟨fun w' hw' => ?_, ?_⟩; (go_at_call 61; exact (KL _).mono fun _ _ h => ⟨h.1, hw'.step h.2⟩); go_big_quiet_on)))
            refine wpQuiet_nil ?_
            intro w7 hw7
            have A6 := A4.step hw7
            have E6 := E4.step hw7
            have B6 := Lib.hid (bthen B4.out hw7)
            have HP' : Hid (∀ p, p < k + 1 → sameB (nth ps p) (nth ps' p) = true) := Lib.hid fun p hp => by
              by_cases e : p = k
              · rw [e]; exact hs
              · exact HP.out p (by omega)
            clear HP hs KL dP dP' hC A4 E4 B4 hw7
            go_wp2
            exact ⟨⟨k + 1, by omega, by go_num, HT, HP', A6, E6, B6⟩, by simp [intOf]; omega⟩
    · obtain rfl : k = 4 := by omega
      have f1 : ∀ t W, (binOp .eql t (.int .i64 i) (.int .i64 i')).run Try.prog W = .ok (.bool (i == i')) W := fun t W => run_eql_i64 W t i i'
      have f2 : ∀ t W, (binOp .eql t (.int .i64 o) (.int .i64 o')).run Try.prog W = .ok (.bool (o == o')) W := fun t W => run_eql_i64 W t o o'
      have e1 := same_maps (by rw [hlt, hlt']) (fun p hp => HT.out p (by omega))
      have e2 := same_maps (by rw [hlp, hlp']) (fun p hp => HP.out p (by omega))
      have hv : Hid ((sameJ i o ts ps i' o' ts' ps') = ((i == i') && (o == o'))) := Lib.hid (by unfold sameJ; rw [decide_eq_true e1, decide_eq_true e2]; simp)
      clear e1 e2 HT HP
      have hC := Cb.const wr
      go_wp2
      cases h1 : (i == i') <;> rw [h1] at f1
      · skip
        refine wp_region_cb (by kernel_rfl) (by kernel_rfl) ?_
        repeat (first
          | go_big_quiet_skip
          | (go_big_quiet_want; first
            | (refine q_oneB 2 _ rfl _ Try.underlying2 rfl 0 rfl A4 (.int .i64 i) (jn_ins i o ts ps) ?_; go_simp; go_big_quiet_on)
            | (refine q_oneB 2 _ rfl _ Try.underlying2 rfl 0 rfl E4 (.int .i64 i') (jn_ins i' o' ts' ps') ?_; go_simp; go_big_quiet_on)
            | (go_big_quiet_op; go_big_quiet_on)
        ))
        refine wpQuiet_nil ?_
        intro w7 hw7
        go_wp2
        go_ret
        exact ⟨by rw [hv.out, h1]; rfl, bthen B4.out hw7⟩
      · generalize hb : (o == o') = b2 at f2
        refine wp_region_cb (by kernel_rfl) (by kernel_rfl) ?_
        repeat (first
          | go_big_quiet_skip
          | (go_big_quiet_want; first
            | (refine q_oneB 2 _ rfl _ Try.underlying2 rfl 0 rfl A4 (.int .i64 i) (jn_ins i o ts ps) ?_; go_simp; go_big_quiet_on)
            | (refine q_oneB 2 _ rfl _ Try.underlying2 rfl 0 rfl E4 (.int .i64 i') (jn_ins i' o' ts' ps') ?_; go_simp; go_big_quiet_on)
            | (refine q_oneB 2 _ rfl _ Try.underlying2 rfl 1 rfl A4 (.int .i64 o) (jn_outs i o ts ps) ?_; go_simp; go_big_quiet_on)
            | (refine q_oneB 2 _ rfl _ Try.underlying2 rfl 1 rfl E4 (.int .i64 o') (jn_outs i' o' ts' ps') ?_; go_simp; go_big_quiet_on)
            | (go_big_quiet_op; go_big_quiet_on)
        ))
        refine wpQuiet_nil ?_
        intro w7 hw7
        go_wp2
        go_ret
        exact ⟨by rw [hv.out, h1, hb]; rfl, bthen B4.out hw7⟩

end Go.Proofs.Ytboahhipobcabaa
