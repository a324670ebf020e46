/-
  SEVERAL TEXTS IN ONE.
-/
import Derived.Test.YtapnkkbkhifmeaaG7
import Derived.Test.YtapnkkbkhifmeaaG2
import Derived.Test.YtapnkkbkhifmeaaBytes

/-
  CONTRACTS: SameRoad, the model's.
-/
namespace Go.Proofs.Ytapnkkbkhifmeaa
open Go Go.RowKit

theorem sameB_dec (a b : Nat) : decide (nbits a = nbits b) = sameB a b := by
  rw [← sameB_nbits]
  by_cases h : nbits a = nbits b
  · simp [h]
  · have : ¬ ((nbits a : Nat) : Int) = ((nbits b : Nat) : Int) := by omega
    simp [h, this]

theorem same_no {cs es : List Nat} (p b l q c m : Nat) (hl : cs.length = 16) (hl' : es.length = 16) {k : Nat} (hk : k < 16) (h : sameB (nth cs k) (nth es k) = false) : sameR cs p b l es q c m = false := by
  unfold sameR
  rw [decide_eq_false, Bool.false_and]
  intro e
  have h1 := nth_map nbits (cs := cs) (k := k) (by omega)
  have h2 := nth_map nbits (cs := es) (k := k) (by omega)
  rw [e, h2] at h1
  rw [← sameB_dec] at h
  exact of_decide_eq_false h h1.symm

theorem same_all {cs es : List Nat} (p b l q c m : Nat) (hl : cs.length = 16) (hl' : es.length = 16) (h : ∀ k, k < 16 → sameB (nth cs k) (nth es k) = true) : sameR cs p b l es q c m = (sameB p q && (sameB b c && sameB l m)) := by
  have e : cs.map nbits = es.map nbits := by
    have := (all_eq_iff (xs := cs.map nbits) (ys := es.map nbits) (by simp [hl, hl'])).symm
    rw [Bool.eq_iff_iff] at this
    refine of_decide_eq_true (this.2 ?_)
    rw [List.all_eq_true]
    intro i hi
    have hi' : i < 16 := by simpa [List.mem_range'_1, hl] using hi
    rw [nth_map nbits (by omega), nth_map nbits (by omega), sameB_dec]
    exact h i hi'
  unfold sameR
  rw [decide_eq_true e, Bool.true_and, ← sameB_dec, ← sameB_dec, ← sameB_dec, Bool.decide_and, Bool.decide_and]

theorem l01Same_b (a b : Nat) (ha : a < 4294967296) (hb : b < 4294967296) (w : World) :
    Calls Try.prog 50 #[.float .f32 a, .float .f32 b] w fun e w' => e = .returned (.bool (sameB a b)) ∧ Below w.heap.size w w' :=
  (l01Same_any a b ha hb w).mono fun _ _ h => ⟨h.1, by obtain ⟨n, rfl⟩ := h.2; exact bdrew (Below.refl _ _) n⟩

theorem l01SameRoad_any (g g' : Nat) (cs : List Nat) (p b l : Nat) (hl : cs.length = 16) (hc : ∀ x ∈ cs, x < 4294967296) (hp : p < 4294967296) (hb : b < 4294967296) (hla : l < 4294967296) (es : List Nat) (q c m : Nat) (hl' : es.length = 16) (hc' : ∀ x ∈ es, x < 4294967296) (hq' : q < 4294967296) (hb' : c < 4294967296) (hm' : m < 4294967296) (w : World) (A0 : At w g (rd cs p b l) 28) (E0 : At w g' (rd es q c m) 28) :
    Calls Try.prog 28 #[.pointer (some ⟨g, 0, none⟩), .pointer (some ⟨g', 0, none⟩)] w fun e w' => e = .returned (.bool (sameR cs p b l es q c m)) ∧ Below w.heap.size w w' := by
  go_enter Try.func28, Try.ntmps28
  go_wp2
  go_loopw [5] (fun i wr => ∃ k : Nat, k ≤ 16 ∧ i = .int .i64 k ∧ Hid (∀ j, j < k → sameB (nth cs j) (nth es j) = true) ∧ Hid (Below w.heap.size w wr)) (fun i _ => 16 - (intOf i).toNat)
  case atStart => exact ⟨0, by omega, rfl, Lib.hid (fun j h => absurd h (by omega)), Lib.hid (Below.refl _ _)⟩
  case round =>
    obtain ⟨k, hk, rfl, HS, B1⟩ := hrel
    have A1 := A0.step B1.out
    have E1 := E0.step B1.out
    have hC := Cb.const wr
    clear A0 E0
    by_cases hlt : (k : Int) < 16
    · have hk16 : k < 16 := by omega
      have d1 := rd_cell hl p b l hk16
      have d2 := rd_cell hl' q c m hk16
      have K := l01Same_b (nth cs k) (nth es k) (u32_lt hc k) (u32_lt hc' k)
      cases hs : sameB (nth cs k) (nth es k)
      · rw [hs] at K
        have HN := Lib.hid (same_no p b l q c m hl hl' hk16 hs)
        clear hs
        go_wp2
        refine wp_region_cb (by kernel_rfl) (by kernel_rfl) ?_
        repeat (first
          | go_big_quiet_skip
          | (go_big_quiet_want; first
            | (refine q_cell 24 _ rfl _ Try.underlying24 _ rfl A1 _ (by assumption) ?_; go_simp; go_big_quiet_on)
            | (refine q_cell 24 _ rfl _ Try.underlying24 _ rfl E1 _ (by assumption) ?_; go_simp; go_big_quiet_on)
            | (go_big_quiet_op; go_big_quiet_on)
            | (go_big_quiet_op; apply Exists.intro; refine ⟨fun w' hw' => ?_, ?_⟩; (go_at_call 50; (with_reducible show Calls _ _ #[.float .f32 (nth cs k), .float .f32 (nth es k)] _ _); exact (K _).mono fun _ _ h => ⟨h.1, hw'.step h.2⟩); go_big_quiet_on)))
        refine wpQuiet_nil ?_
        intro w1 hw1
        go_wp2
        try rw [Exit.noGoto_ret]
        go_ret
        exact ⟨by rw [HN.out]; rfl, bthen B1.out hw1⟩
      · rw [hs] at K
        have HS2 : Hid (∀ j, j < k + 1 → sameB (nth cs j) (nth es j) = true) := Lib.hid (fun j h => by
          rcases (by omega : j < k ∨ j = k) with h | h
          · exact HS.out j h
          · rw [h]; exact hs)
        clear hs
        go_wp2
        refine wp_region_cb (by kernel_rfl) (by kernel_rfl) ?_
        repeat (first
          | go_big_quiet_skip
          | (go_big_quiet_want; first
            | (refine q_cell 24 _ rfl _ Try.underlying24 _ rfl A1 _ (by assumption) ?_; go_simp; go_big_quiet_on)
            | (refine q_cell 24 _ rfl _ Try.underlying24 _ rfl E1 _ (by assumption) ?_; go_simp; go_big_quiet_on)
            | (go_big_quiet_op; go_big_quiet_on)
            | (go_big_quiet_op; apply Exists.intro; refine ⟨fun w' hw' => ?_, ?_⟩; (go_at_call 50; (with_reducible show Calls _ _ #[.float .f32 (nth cs k), .float .f32 (nth es k)] _ _); exact (K _).mono fun _ _ h => ⟨h.1, hw'.step h.2⟩); go_big_quiet_on)))
        refine wpQuiet_nil ?_
        intro w1 hw1
        have B2 := Lib.hid (bthen B1.out hw1)
        go_wp2
        exact ⟨⟨k + 1, by omega, by go_num, HS2, B2⟩, by simp [intOf]; omega⟩
    · obtain rfl : k = 16 := by omega
      have HN := Lib.hid (same_all p b l q c m hl hl' HS.out)
      clear HS
      have d1 := rd_pace hl p b l
      have d2 := rd_back hl p b l
      have d3 := rd_lanes hl p b l
      have d4 := rd_pace hl' q c m
      have d5 := rd_back hl' q c m
      have d6 := rd_lanes hl' q c m
      have K1 := l01Same_b p q hp hq'
      have K2 := l01Same_b b c hb hb'
      have K3 := l01Same_b l m hla hm'
      generalize sameB p q = s1 at K1 HN
      generalize sameB b c = s2 at K2 HN
      generalize sameB l m = s3 at K3 HN
      cases s1
      · go_wp2
        refine wp_region_cb (by kernel_rfl) (by kernel_rfl) ?_
        repeat (first
          | go_big_quiet_skip
          | (go_big_quiet_want; first
            | (refine q_cell 24 _ rfl _ Try.underlying24 _ rfl A1 _ (by assumption) ?_; go_simp; go_big_quiet_on)
            | (refine q_cell 24 _ rfl _ Try.underlying24 _ rfl E1 _ (by assumption) ?_; go_simp; go_big_quiet_on)
            | (go_big_quiet_op; go_big_quiet_on)
            | (go_big_quiet_op; apply Exists.intro; refine ⟨fun w' hw' => ?_, ?_⟩; (go_at_call 50; (with_reducible show Calls _ _ #[.float .f32 (p), .float .f32 (q)] _ _); exact (K1 _).mono fun _ _ h => ⟨h.1, hw'.step h.2⟩); go_big_quiet_on)))
        refine wpQuiet_nil ?_
        intro w1 hw1
        go_wp2
        try rw [Exit.noGoto_ret]
        go_ret
        exact ⟨by rw [HN.out]; rfl, bthen B1.out hw1⟩
      · cases s2
        · go_wp2
          refine wp_region_cb (by kernel_rfl) (by kernel_rfl) ?_
          repeat (first
            | go_big_quiet_skip
            | (go_big_quiet_want; first
              | (refine q_cell 24 _ rfl _ Try.underlying24 _ rfl A1 _ (by assumption) ?_; go_simp; go_big_quiet_on)
              | (refine q_cell 24 _ rfl _ Try.underlying24 _ rfl E1 _ (by assumption) ?_; go_simp; go_big_quiet_on)
              | (go_big_quiet_op; go_big_quiet_on)
              | (go_big_quiet_op; apply Exists.intro; refine ⟨fun w' hw' => ?_, ?_⟩; (go_at_call 50; (with_reducible show Calls _ _ #[.float .f32 (p), .float .f32 (q)] _ _); exact (K1 _).mono fun _ _ h => ⟨h.1, hw'.step h.2⟩); go_big_quiet_on)
              | (go_big_quiet_op; apply Exists.intro; refine ⟨fun w' hw' => ?_, ?_⟩; (go_at_call 50; (with_reducible show Calls _ _ #[.float .f32 (b), .float .f32 (c)] _ _); exact (K2 _).mono fun _ _ h => ⟨h.1, hw'.step h.2⟩); go_big_quiet_on)))
          refine wpQuiet_nil ?_
          intro w1 hw1
          go_wp2
          try rw [Exit.noGoto_ret]
          go_ret
          exact ⟨by rw [HN.out]; rfl, bthen B1.out hw1⟩
        · go_wp2
          refine wp_region_cb (by kernel_rfl) (by kernel_rfl) ?_
          repeat (first
            | go_big_quiet_skip
            | (go_big_quiet_want; first
              | (refine q_cell 24 _ rfl _ Try.underlying24 _ rfl A1 _ (by assumption) ?_; go_simp; go_big_quiet_on)
              | (refine q_cell 24 _ rfl _ Try.underlying24 _ rfl E1 _ (by assumption) ?_; go_simp; go_big_quiet_on)
              | (go_big_quiet_op; go_big_quiet_on)
              | (go_big_quiet_op; apply Exists.intro; refine ⟨fun w' hw' => ?_, ?_⟩; (go_at_call 50; (with_reducible show Calls _ _ #[.float .f32 (p), .float .f32 (q)] _ _); exact (K1 _).mono fun _ _ h => ⟨h.1, hw'.step h.2⟩); go_big_quiet_on)
              | (go_big_quiet_op; apply Exists.intro; refine ⟨fun w' hw' => ?_, ?_⟩; (go_at_call 50; (with_reducible show Calls _ _ #[.float .f32 (b), .float .f32 (c)] _ _); exact (K2 _).mono fun _ _ h => ⟨h.1, hw'.step h.2⟩); go_big_quiet_on)
              | (go_big_quiet_op; apply Exists.intro; refine ⟨fun w' hw' => ?_, ?_⟩; (go_at_call 50; (with_reducible show Calls _ _ #[.float .f32 (l), .float .f32 (m)] _ _); exact (K3 _).mono fun _ _ h => ⟨h.1, hw'.step h.2⟩); go_big_quiet_on)))
          refine wpQuiet_nil ?_
          intro w1 hw1
          go_wp2
          try rw [Exit.noGoto_ret]
          go_ret
          exact ⟨by rw [HN.out]; simp, bthen B1.out hw1⟩

theorem sSameRoad_any (cs : List Nat) (p b l : Nat) (hl : cs.length = 16) (hc : ∀ x ∈ cs, x < 4294967296) (hp : p < 4294967296) (hb : b < 4294967296) (hla : l < 4294967296) (es : List Nat) (q c m : Nat) (hl' : es.length = 16) (hc' : ∀ x ∈ es, x < 4294967296) (hq' : q < 4294967296) (hb' : c < 4294967296) (hm' : m < 4294967296) (w : World) :
    Calls Try.prog 11 #[.agg (rd cs p b l), .agg (rd es q c m)] w fun e w' => e = .returned (.bool (sameR cs p b l es q c m)) ∧ Below w.heap.size w w' := by
  have A0 : At ((w.alloc (.cells (rd cs p b l) 28)).alloc (.cells (rd es q c m) 28)) w.heap.size (rd cs p b l) 28 := (At.new w _ _).alloc _
  have E0 : At ((w.alloc (.cells (rd cs p b l) 28)).alloc (.cells (rd es q c m) 28)) (w.heap.size + 1) (rd es q c m) 28 := At.new1 w _ _ _
  have B0 := Lib.hid (bnew (b0 w (.cells (rd cs p b l) 28)) (.cells (rd es q c m) 28))
  go_enter Try.func11, Try.ntmps11
  go_wp2_with fail
  refine (l01SameRoad_any _ _ cs p b l hl hc hp hb hla es q c m hl' hc' hq' hb' hm' _ A0 E0).mono ?_
  rintro e w1 ⟨rfl, hb1⟩
  go_wp2
  go_ret
  exact ⟨rfl, bthen B0.out hb1⟩
end Go.Proofs.Ytapnkkbkhifmeaa

/-
  CONTRACTS: what the drawn laws of the chapters 1 and 2 ask of their bytes.
-/
namespace Go.Proofs.Ytapnkkbkhifmeaa
open Go Go.RowKit
set_option maxRecDepth 100000

theorem a2Long_any (a a' : Option Addr) (n c n' c' : Nat) (w : World) :
    Calls Try.prog 4 #[.slice a n c, .slice a' n' c'] w fun e w' => ∃ B : Bool, e = .returned (.bool B) ∧ w' = w := by
  by_cases h1 : 3000 < n
  · have k1 : decide ((3000 : Int) < (n : Int)) = true := decide_eq_true (by omega)
    go_enter Try.func4, Try.ntmps4
    go_wp2
    go_ret
    exact ⟨true, rfl, by trivial⟩
  · have k1 : decide ((3000 : Int) < (n : Int)) = false := decide_eq_false (by omega)
    by_cases h2 : 3000 < n'
    · have k2 : decide ((3000 : Int) < (n' : Int)) = true := decide_eq_true (by omega)
      go_enter Try.func4, Try.ntmps4
      go_wp2
      go_ret
      exact ⟨true, rfl, by trivial⟩
    · have k2 : decide ((3000 : Int) < (n' : Int)) = false := decide_eq_false (by omega)
      go_enter Try.func4, Try.ntmps4
      go_wp2
      go_ret
      exact ⟨false, rfl, by trivial⟩

theorem a2At_any {w : World} {ad : Option Addr} {cp : Nat} {bs : List Nat} (h : BSl w ad bs) (k n : Nat) (hn : 1 ≤ n) (hn2 : n ≤ 1000) (_hk : k ≤ 1000) :
    Calls Try.prog 14 #[.slice ad bs.length cp, .int .i64 (k : Int), .int .i64 (n : Int)] w fun e w' => ∃ m : Nat, e = .returned (.int .i64 (m : Int)) ∧ m < n ∧ w' = w := by
  have n1 : decide ((n : Int) < 1) = false := decide_eq_false (by omega)
  by_cases hlt : k < bs.length
  · obtain ⟨g, off, rfl, hg, hcell⟩ : ∃ g off, ad = some ⟨g, off, none⟩ ∧ g < w.heap.size ∧ ∀ i, i < bs.length → w.cell? ⟨g, off + i, none⟩ = some (.int .u8 (byteAt bs i : Nat)) := by
      rcases h.val with rfl | h
      · simp at hlt
      · exact h
    have hc := hcell k hlt
    have hb := byte_lt h.lt k
    have k1 : decide ((bs.length : Int) ≤ (k : Int)) = false := decide_eq_false (by omega)
    have k2 : decide ((k : Int) < (bs.length : Int)) = true := decide_eq_true (by omega)
    clear hcell h
    generalize byteAt bs k = v at hc hb
    generalize bs.length = N at *
    have hw : IntKind.i64.wrap (v : Int) = (v : Int) := IntWalk.i64_in _ (by omega)
    have hr : Int.tmod (v : Int) (n : Int) = ((v % n : Nat) : Int) := by rw [Int.tmod_eq_emod_of_nonneg (by omega)]; rfl
    have hr2 : IntKind.i64.wrap ((v % n : Nat) : Int) = ((v % n : Nat) : Int) := IntWalk.i64_in _ (by have := Nat.mod_lt v (show 0 < n by omega); omega)
    have hm := Nat.mod_lt v (show 0 < n by omega)
    generalize v % n = m at hr hr2 hm
    go_enter Try.func14, Try.ntmps14
    go_wp2
    go_ret
    exact ⟨m, by first | rfl | simp_all, hm, by trivial⟩
  · have k1 : decide ((bs.length : Int) ≤ (k : Int)) = true := decide_eq_true (by omega)
    clear h
    generalize bs.length = N at *
    go_enter Try.func14, Try.ntmps14
    go_wp2
    go_ret
    exact ⟨0, rfl, by omega, by trivial⟩

theorem sameR_self (cs : List Nat) (p b l : Nat) : sameR cs p b l cs p b l = true := by unfold sameR; simp

end Go.Proofs.Ytapnkkbkhifmeaa
