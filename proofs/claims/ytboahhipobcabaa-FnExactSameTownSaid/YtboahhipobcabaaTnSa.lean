/-
  CONTRACTS: roads, junctions, plans at addresses within blocks held against each other, as the model does it.
-/
import Derived.Test.YtboahhipobcabaaTnS
import Derived.Test.YtboahhipobcabaaSameRoadS
import Derived.Test.YtboahhipobcabaaSameJnS
import Derived.Test.YtboahhipobcabaaG19
namespace Go.Proofs.Ytboahhipobcabaa
open Go Go.ChangeShapes Go.WideShapes Go.ChangeAt Go.RowKit
set_option maxRecDepth 100000

theorem q_atB {P : Program} {C : World → Prop} {o : Oper} {a : Act} {K : Act → Prop} (ty : TypeId) (x : Operand) (ho : o.op = .load ty x) (d : TypeDesc) (hu : P.underlying ty = some d) (hd : (match d with | .struct _ | .array _ _ => true | _ => false) = false) (ad : Addr) (hx : a.eval x = .pointer (some ad)) {v : Value} (hA : ∀ w, C w → w.cell? ad = some v) (hK : K (a.put o.dst v)) : o.quiet P a C K :=
  q_load ty x ho _ hx v (fun w hw => run_load_one w ty d hu hd _ v (hA w hw)) hK

set_option maxHeartbeats 1000000 in
theorem l01SameRoadO_any (g g' off off' : Nat) (R R' : Array Value) (T T' : TypeId) (cs : List Nat) (p b l : Nat) (hl : cs.length = 16) (hc : ∀ x ∈ cs, x < 4294967296) (hp : p < 4294967296) (hb : b < 4294967296) (hla : l < 4294967296) (es : List Nat) (q c m : Nat) (hl' : es.length = 16) (hc' : ∀ x ∈ es, x < 4294967296) (hq' : q < 4294967296) (hb' : c < 4294967296) (hm' : m < 4294967296) (w : World) (A0 : At w g R T) (hR : ∀ {x y : Nat}, x = off + y → y < 19 → R[x]? = (rd cs p b l)[y]?) (E0 : At w g' R' T') (hR' : ∀ {x y : Nat}, x = off' + y → y < 19 → R'[x]? = (rd es q c m)[y]?) :
    Calls Try.prog 62 #[.pointer (some ⟨g, off, none⟩), .pointer (some ⟨g', off', none⟩)] w fun e w' => e = .returned (.bool (sameR cs p b l es q c m)) ∧ Below w.heap.size w w' := by
  go_enter Try.func62, Try.ntmps62
  go_wp2
  go_loopw [5] (fun i wr => ∃ k : Nat, k ≤ 16 ∧ i = .int .i64 k ∧ Hid (∀ j, j < k → sameB (nth cs j) (nth es j) = true) ∧ Hid (Below w.heap.size w wr)) (fun i _ => 16 - (intOf i).toNat)
  case atStart => exact ⟨0, by omega, rfl, Lib.hid (fun j h => absurd h (by omega)), Lib.hid (Below.refl _ _)⟩
  case round =>
    obtain ⟨k, hk, rfl, HS, B1⟩ := hrel
    have A1 := A0.step B1.out
    have E1 := E0.step B1.out
    have hC := Cb.const wr
    clear A0 E0
    by_cases hlt : (k : Int) < 16
    · have hk16 : k < 16 := by omega
      have d1 := rd_cell hl p b l hk16
      have d2 := rd_cell hl' q c m hk16
      have K := l01Same_b (nth cs k) (nth es k) (u32_lt hc k) (u32_lt hc' k)
      cases hs : sameB (nth cs k) (nth es k)
      · rw [hs] at K
        have HN := Lib.hid (same_no p b l q c m hl hl' hk16 hs)
        clear hs
        go_wp2
        refine wp_region_cb (by kernel_rfl) (by kernel_rfl) ?_
        repeat (first
          | go_big_quiet_skip
          | (go_big_quiet_want; first
            | (refine q_cell 26 _ rfl _ Try.underlying26 _ rfl A1 _ ((hR (y := k) (by omega) (by omega)).trans d1) ?_; go_simp; go_big_quiet_on)
            | (refine q_cell 26 _ rfl _ Try.underlying26 _ rfl E1 _ ((hR' (y := k) (by omega) (by omega)).trans d2) ?_; go_simp; go_big_quiet_on)
            | (go_big_quiet_op; go_big_quiet_on)
            | (go_big_quiet_op; apply Exists.intro; refine ⟨fun w' hw' => ?_, ?_⟩; (go_at_call 61; (with_reducible show Calls _ _ #[.float .f32 (nth cs k), .float .f32 (nth es k)] _ _); exact (K _).mono fun _ _ h => ⟨h.1, hw'.step h.2⟩); go_big_quiet_on)))
        refine wpQuiet_nil ?_
        intro w1 hw1
        go_wp2
        try rw [Exit.noGoto_ret]
        go_ret
        exact ⟨by rw [HN.out]; rfl, bthen B1.out hw1⟩
      · rw [hs] at K
        have HS2 : Hid (∀ j, j < k + 1 → sameB (nth cs j) (nth es j) = true) := Lib.hid (fun j h => by
          rcases (by omega : j < k ∨ j = k) with h | h
          · exact HS.out j h
          · rw [h]; exact hs)
        clear hs
        go_wp2
        refine wp_region_cb (by kernel_rfl) (by kernel_rfl) ?_
        repeat (first
          | go_big_quiet_skip
          | (go_big_quiet_want; first
            | (refine q_cell 26 _ rfl _ Try.underlying26 _ rfl A1 _ ((hR (y := k) (by omega) (by omega)).trans d1) ?_; go_simp; go_big_quiet_on)
            | (refine q_cell 26 _ rfl _ Try.underlying26 _ rfl E1 _ ((hR' (y := k) (by omega) (by omega)).trans d2) ?_; go_simp; go_big_quiet_on)
            | (go_big_quiet_op; go_big_quiet_on)
            | (go_big_quiet_op; apply Exists.intro; refine ⟨fun w' hw' => ?_, ?_⟩; (go_at_call 61; (with_reducible show Calls _ _ #[.float .f32 (nth cs k), .float .f32 (nth es k)] _ _); exact (K _).mono fun _ _ h => ⟨h.1, hw'.step h.2⟩); go_big_quiet_on)))
        refine wpQuiet_nil ?_
        intro w1 hw1
        have B2 := Lib.hid (bthen B1.out hw1)
        go_wp2
        exact ⟨⟨k + 1, by omega, by go_num, HS2, B2⟩, by simp [intOf]; omega⟩
    · obtain rfl : k = 16 := by omega
      have HN := Lib.hid (same_all p b l q c m hl hl' HS.out)
      clear HS
      have d1 := rd_pace hl p b l
      have d2 := rd_back hl p b l
      have d3 := rd_lanes hl p b l
      have d4 := rd_pace hl' q c m
      have d5 := rd_back hl' q c m
      have d6 := rd_lanes hl' q c m
      have K1 := l01Same_b p q hp hq'
      have K2 := l01Same_b b c hb hb'
      have K3 := l01Same_b l m hla hm'
      generalize sameB p q = s1 at K1 HN
      generalize sameB b c = s2 at K2 HN
      generalize sameB l m = s3 at K3 HN
      cases s1
      · go_wp2
        refine wp_region_cb (by kernel_rfl) (by kernel_rfl) ?_
        repeat (first
          | go_big_quiet_skip
          | (go_big_quiet_want; first
            | (refine q_cell 26 _ rfl _ Try.underlying26 _ rfl A1 _ (by first | exact (hR (y := 16) rfl (by omega)).trans d1 | exact (hR (y := 17) rfl (by omega)).trans d2 | exact (hR (y := 18) rfl (by omega)).trans d3) ?_; go_simp; go_big_quiet_on)
            | (refine q_cell 26 _ rfl _ Try.underlying26 _ rfl E1 _ (by first | exact (hR' (y := 16) rfl (by omega)).trans d4 | exact (hR' (y := 17) rfl (by omega)).trans d5 | exact (hR' (y := 18) rfl (by omega)).trans d6) ?_; go_simp; go_big_quiet_on)
            | (go_big_quiet_op; go_big_quiet_on)
            | (go_big_quiet_op; apply Exists.intro; refine ⟨fun w' hw' => ?_, ?_⟩; (go_at_call 61; (with_reducible show Calls _ _ #[.float .f32 (p), .float .f32 (q)] _ _); exact (K1 _).mono fun _ _ h => ⟨h.1, hw'.step h.2⟩); go_big_quiet_on)))
        refine wpQuiet_nil ?_
        intro w1 hw1
        go_wp2
        try rw [Exit.noGoto_ret]
        go_ret
        exact ⟨by rw [HN.out]; rfl, bthen B1.out hw1⟩
      · cases s2
        · go_wp2
          refine wp_region_cb (by kernel_rfl) (by kernel_rfl) ?_
          repeat (first
            | go_big_quiet_skip
            | (go_big_quiet_want; first
              | (refine q_cell 26 _ rfl _ Try.underlying26 _ rfl A1 _ (by first | exact (hR (y := 16) rfl (by omega)).trans d1 | exact (hR (y := 17) rfl (by omega)).trans d2 | exact (hR (y := 18) rfl (by omega)).trans d3) ?_; go_simp; go_big_quiet_on)
              | (refine q_cell 26 _ rfl _ Try.underlying26 _ rfl E1 _ (by first | exact (hR' (y := 16) rfl (by omega)).trans d4 | exact (hR' (y := 17) rfl (by omega)).trans d5 | exact (hR' (y := 18) rfl (by omega)).trans d6) ?_; go_simp; go_big_quiet_on)
              | (go_big_quiet_op; go_big_quiet_on)
              | (go_big_quiet_op; apply Exists.intro; refine ⟨fun w' hw' => ?_, ?_⟩; (go_at_call 61; (with_reducible show Calls _ _ #[.float .f32 (p), .float .f32 (q)] _ _); exact (K1 _).mono fun _ _ h => ⟨h.1, hw'.step h.2⟩); go_big_quiet_on)
              | (go_big_quiet_op; apply Exists.intro; refine ⟨fun w' hw' => ?_, ?_⟩; (go_at_call 61; (with_reducible show Calls _ _ #[.float .f32 (b), .float .f32 (c)] _ _); exact (K2 _).mono fun _ _ h => ⟨h.1, hw'.step h.2⟩); go_big_quiet_on)))
          refine wpQuiet_nil ?_
          intro w1 hw1
          go_wp2
          try rw [Exit.noGoto_ret]
          go_ret
          exact ⟨by rw [HN.out]; rfl, bthen B1.out hw1⟩
        · go_wp2
          refine wp_region_cb (by kernel_rfl) (by kernel_rfl) ?_
          repeat (first
            | go_big_quiet_skip
            | (go_big_quiet_want; first
              | (refine q_cell 26 _ rfl _ Try.underlying26 _ rfl A1 _ (by first | exact (hR (y := 16) rfl (by omega)).trans d1 | exact (hR (y := 17) rfl (by omega)).trans d2 | exact (hR (y := 18) rfl (by omega)).trans d3) ?_; go_simp; go_big_quiet_on)
              | (refine q_cell 26 _ rfl _ Try.underlying26 _ rfl E1 _ (by first | exact (hR' (y := 16) rfl (by omega)).trans d4 | exact (hR' (y := 17) rfl (by omega)).trans d5 | exact (hR' (y := 18) rfl (by omega)).trans d6) ?_; go_simp; go_big_quiet_on)
              | (go_big_quiet_op; go_big_quiet_on)
              | (go_big_quiet_op; apply Exists.intro; refine ⟨fun w' hw' => ?_, ?_⟩; (go_at_call 61; (with_reducible show Calls _ _ #[.float .f32 (p), .float .f32 (q)] _ _); exact (K1 _).mono fun _ _ h => ⟨h.1, hw'.step h.2⟩); go_big_quiet_on)
              | (go_big_quiet_op; apply Exists.intro; refine ⟨fun w' hw' => ?_, ?_⟩; (go_at_call 61; (with_reducible show Calls _ _ #[.float .f32 (b), .float .f32 (c)] _ _); exact (K2 _).mono fun _ _ h => ⟨h.1, hw'.step h.2⟩); go_big_quiet_on)
              | (go_big_quiet_op; apply Exists.intro; refine ⟨fun w' hw' => ?_, ?_⟩; (go_at_call 61; (with_reducible show Calls _ _ #[.float .f32 (l), .float .f32 (m)] _ _); exact (K3 _).mono fun _ _ h => ⟨h.1, hw'.step h.2⟩); go_big_quiet_on)))
          refine wpQuiet_nil ?_
          intro w1 hw1
          go_wp2
          try rw [Exit.noGoto_ret]
          go_ret
          exact ⟨by rw [HN.out]; simp, bthen B1.out hw1⟩

set_option maxHeartbeats 2000000 in
theorem l03SameO_b (g g' off off' : Nat) (R R' : Array Value) (i o : Int) (ts ps : List Nat) (hi : -9223372036854775808 ≤ i ∧ i ≤ 9223372036854775807) (ho : -9223372036854775808 ≤ o ∧ o ≤ 9223372036854775807) (hlt : ts.length = 16) (hlp : ps.length = 4) (hct : ∀ x ∈ ts, x < 4294967296) (hcp : ∀ x ∈ ps, x < 4294967296) (i' o' : Int) (ts' ps' : List Nat) (hi' : -9223372036854775808 ≤ i' ∧ i' ≤ 9223372036854775807) (ho' : -9223372036854775808 ≤ o' ∧ o' ≤ 9223372036854775807) (hlt' : ts'.length = 16) (hlp' : ps'.length = 4) (hct' : ∀ x ∈ ts', x < 4294967296) (hcp' : ∀ x ∈ ps', x < 4294967296) (T T' : TypeId) (w : World) (hA : At w g R T) (hE : At w g' R' T') (hR : ∀ {x c : Nat}, x = off + c → c < 22 → R[x]? = (jn i o ts ps)[c]?) (hR' : ∀ {x c : Nat}, x = off' + c → c < 22 → R'[x]? = (jn i' o' ts' ps')[c]?) :
    Calls Try.prog 101 #[.pointer (some ⟨g, off, none⟩), .pointer (some ⟨g', off', none⟩)] w fun e w' => e = .returned (.bool (sameJ i o ts ps i' o' ts' ps')) ∧ Below w.heap.size w w' := by
  have B0 : Hid (Below w.heap.size w w) := Lib.hid (Below.refl _ _)
  clear hi ho hi' ho'
  go_enter Try.func101, Try.ntmps101
  go_wp2
  go_loopw [5] (fun i1 wr => ∃ k : Nat, k ≤ 4 ∧ i1 = .int .i64 k ∧ Hid (∀ p, p < 4 * k → sameB (nth ts p) (nth ts' p) = true) ∧ Hid (∀ p, p < k → sameB (nth ps p) (nth ps' p) = true) ∧ At wr g R T ∧ At wr g' R' T' ∧ Hid (Below w.heap.size w wr)) (fun i1 _ => 4 - (intOf i1).toNat)
  case atStart => exact ⟨0, by omega, rfl, Lib.hid (fun p hp => by omega), Lib.hid (fun p hp => by omega), hA, hE, B0⟩
  case round =>
    clear hA hE B0
    obtain ⟨k, hk, rfl, HT, HP, A4, E4, B4⟩ := hrel
    by_cases hlk : k < 4
    · have s2 : IntKind.i64.wrap ((k : Int) + 1) = (k : Int) + 1 := IntWalk.i64_in _ (by omega)
      have hkd : decide ((k : Int) < 4) = true := decide_eq_true (by omega)
      go_wp2
      go_loopw [6] (fun i1 wr' => ∃ n : Nat, n ≤ 4 ∧ i1 = .int .i64 n ∧ Hid (∀ p, p < 4 * k + n → sameB (nth ts p) (nth ts' p) = true) ∧ At wr' g R T ∧ At wr' g' R' T' ∧ Hid (Below w.heap.size w wr')) (fun i1 _ => 4 - (intOf i1).toNat)
      case atStart => exact ⟨0, by omega, rfl, HT, A4, E4, B4⟩
      case round =>
        clear A4 E4 B4 HT
        obtain ⟨n, hn', rfl, HT, A4, E4, B4⟩ := hrel
        by_cases hn : n < 4
        · have s3 : IntKind.i64.wrap ((n : Int) + 1) = (n : Int) + 1 := IntWalk.i64_in _ (by omega)
          have dT : (jn i o ts ps)[2 + k * 4 + n]? = some (.float .f32 (nth ts (4 * k + n))) := jn_turn hlt hlp i o (k := 4 * k + n) (by omega) (by omega)
          have dT' : (jn i' o' ts' ps')[2 + k * 4 + n]? = some (.float .f32 (nth ts' (4 * k + n))) := jn_turn hlt' hlp' i' o' (k := 4 * k + n) (by omega) (by omega)
          have KL := fun w => (l01Same_any (nth ts (4 * k + n)) (nth ts' (4 * k + n)) (u32_lt hct _) (u32_lt hct' _) w).mono fun e w' (h : Rd _ w e w') => (⟨h.1, by obtain ⟨-, n, rfl⟩ := h; exact bdrew (Below.refl _ _) n⟩ : e = .returned (.bool (sameB (nth ts (4 * k + n)) (nth ts' (4 * k + n)))) ∧ Below w.heap.size w w')
          have hC := Cb.const wr
          go_wp2
          cases hs : sameB (nth ts (4 * k + n)) (nth ts' (4 * k + n)) <;> rw [hs] at KL
          · have hno : Hid ((sameJ i o ts ps i' o' ts' ps') = false) := Lib.hid (by unfold sameJ; rw [same_not (by rw [hlt, hlt']) (by omega) hs, Bool.and_false]; rfl)
            refine wp_region_cb (by kernel_rfl) (by kernel_rfl) ?_
            repeat (first
              | go_big_quiet_skip
              | (go_big_quiet_want; first
                | (refine q_cell 26 _ rfl _ Try.underlying26 _ rfl A4 _ ((hR (c := 2 + k * 4 + n) (by omega) (by omega)).trans dT) ?_; go_simp; go_big_quiet_on)
                | (refine q_cell 26 _ rfl _ Try.underlying26 _ rfl E4 _ ((hR' (c := 2 + k * 4 + n) (by omega) (by omega)).trans dT') ?_; go_simp; go_big_quiet_on)
                | (go_big_quiet_op; go_big_quiet_on)
                | (go_big_quiet_op; apply Exists.intro; refine ⟨fun w' hw' => ?_, ?_⟩; (go_at_call 61; exact (KL _).mono fun _ _ h => ⟨h.1, hw'.step h.2⟩); go_big_quiet_on)))
            refine wpQuiet_nil ?_
            intro w7 hw7
            go_wp2
            go_ret
            exact ⟨by rw [hno.out]; rfl, bthen B4.out hw7⟩
          · skip
            refine wp_region_cb (by kernel_rfl) (by kernel_rfl) ?_
            repeat (first
              | go_big_quiet_skip
              | (go_big_quiet_want; first
                | (refine q_cell 26 _ rfl _ Try.underlying26 _ rfl A4 _ ((hR (c := 2 + k * 4 + n) (by omega) (by omega)).trans dT) ?_; go_simp; go_big_quiet_on)
                | (refine q_cell 26 _ rfl _ Try.underlying26 _ rfl E4 _ ((hR' (c := 2 + k * 4 + n) (by omega) (by omega)).trans dT') ?_; go_simp; go_big_quiet_on)
                | (go_big_quiet_op; go_big_quiet_on)
                | (go_big_quiet_op; apply Exists.intro; refine ⟨fun w' hw' => ?_, ?_⟩; (go_at_call 61; exact (KL _).mono fun _ _ h => ⟨h.1, hw'.step h.2⟩); go_big_quiet_on)))
            refine wpQuiet_nil ?_
            intro w7 hw7
            have A6 := A4.step hw7
            have E6 := E4.step hw7
            have B6 := Lib.hid (bthen B4.out hw7)
            have HT' : Hid (∀ p, p < 4 * k + (n + 1) → sameB (nth ts p) (nth ts' p) = true) := Lib.hid fun p hp => by
              by_cases e : p = 4 * k + n
              · rw [e]; exact hs
              · exact HT.out p (by omega)
            clear HT hs KL dT dT' hC A4 E4 B4 hw7
            go_wp2
            exact ⟨⟨n + 1, by omega, by go_num, HT', A6, E6, B6⟩, by simp [intOf]; omega⟩
        · obtain rfl : n = 4 := by omega
          have dP : (jn i o ts ps)[18 + k]? = some (.float .f32 (nth ps k)) := jn_prior hlt hlp i o hlk (by omega)
          have dP' : (jn i' o' ts' ps')[18 + k]? = some (.float .f32 (nth ps' k)) := jn_prior hlt' hlp' i' o' hlk (by omega)
          have KL := fun w => (l01Same_any (nth ps k) (nth ps' k) (u32_lt hcp _) (u32_lt hcp' _) w).mono fun e w' (h : Rd _ w e w') => (⟨h.1, by obtain ⟨-, n, rfl⟩ := h; exact bdrew (Below.refl _ _) n⟩ : e = .returned (.bool (sameB (nth ps k) (nth ps' k))) ∧ Below w.heap.size w w')
          have hC := Cb.const wr
          go_wp2
          cases hs : sameB (nth ps k) (nth ps' k) <;> rw [hs] at KL
          · have hno : Hid ((sameJ i o ts ps i' o' ts' ps') = false) := Lib.hid (by unfold sameJ; rw [same_not (by rw [hlp, hlp']) (by omega) hs, Bool.and_false])
            refine wp_region_cb (by kernel_rfl) (by kernel_rfl) ?_
            repeat (first
              | go_big_quiet_skip
              | (go_big_quiet_want; first
                | (refine q_cell 26 _ rfl _ Try.underlying26 _ rfl A4 _ ((hR (c := 18 + k) (by omega) (by omega)).trans dP) ?_; go_simp; go_big_quiet_on)
                | (refine q_cell 26 _ rfl _ Try.underlying26 _ rfl E4 _ ((hR' (c := 18 + k) (by omega) (by omega)).trans dP') ?_; go_simp; go_big_quiet_on)
                | (go_big_quiet_op; go_big_quiet_on)
                | (go_big_quiet_op; apply Exists.intro; refine ⟨fun w' hw' => ?_, ?_⟩; (go_at_call 61; exact (KL _).mono fun _ _ h => ⟨h.1, hw'.step h.2⟩); go_big_quiet_on)))
            refine wpQuiet_nil ?_
            intro w7 hw7
            go_wp2
            go_ret
            exact ⟨by rw [hno.out]; rfl, bthen B4.out hw7⟩
          · skip
            refine wp_region_cb (by kernel_rfl) (by kernel_rfl) ?_
            repeat (first
              | go_big_quiet_skip
              | (go_big_quiet_want; first
                | (refine q_cell 26 _ rfl _ Try.underlying26 _ rfl A4 _ ((hR (c := 18 + k) (by omega) (by omega)).trans dP) ?_; go_simp; go_big_quiet_on)
                | (refine q_cell 26 _ rfl _ Try.underlying26 _ rfl E4 _ ((hR' (c := 18 + k) (by omega) (by omega)).trans dP') ?_; go_simp; go_big_quiet_on)
                | (go_big_quiet_op; go_big_quiet_on)
                | (go_big_quiet_op; apply Exists.intro; refine ⟨fun w' hw' => ?_, ?_⟩; (go_at_call 61; exact (KL _).mono fun _ _ h => ⟨h.1, hw'.step h.2⟩); go_big_quiet_on)))
            refine wpQuiet_nil ?_
            intro w7 hw7
            have A6 := A4.step hw7
            have E6 := E4.step hw7
            have B6 := Lib.hid (bthen B4.out hw7)
            have HP' : Hid (∀ p, p < k + 1 → sameB (nth ps p) (nth ps' p) = true) := Lib.hid fun p hp => by
              by_cases e : p = k
              · rw [e]; exact hs
              · exact HP.out p (by omega)
            clear HP hs KL dP dP' hC A4 E4 B4 hw7
            go_wp2
            exact ⟨⟨k + 1, by omega, by go_num, HT, HP', A6, E6, B6⟩, by simp [intOf]; omega⟩
    · obtain rfl : k = 4 := by omega
      have f1 : ∀ t W, (binOp .eql t (.int .i64 i) (.int .i64 i')).run Try.prog W = .ok (.bool (i == i')) W := fun t W => run_eql_i64 W t i i'
      have f2 : ∀ t W, (binOp .eql t (.int .i64 o) (.int .i64 o')).run Try.prog W = .ok (.bool (o == o')) W := fun t W => run_eql_i64 W t o o'
      have e1 := same_maps (by rw [hlt, hlt']) (fun p hp => HT.out p (by omega))
      have e2 := same_maps (by rw [hlp, hlp']) (fun p hp => HP.out p (by omega))
      have hv : Hid ((sameJ i o ts ps i' o' ts' ps') = ((i == i') && (o == o'))) := Lib.hid (by unfold sameJ; rw [decide_eq_true e1, decide_eq_true e2]; simp)
      clear e1 e2 HT HP
      have hC := Cb.const wr
      go_wp2
      cases h1 : (i == i') <;> rw [h1] at f1
      · skip
        refine wp_region_cb (by kernel_rfl) (by kernel_rfl) ?_
        repeat (first
          | go_big_quiet_skip
          | (go_big_quiet_want; first
            | (refine q_oneB 2 _ rfl _ Try.underlying2 rfl off rfl A4 (.int .i64 i) ((hR (c := 0) rfl (by omega)).trans (jn_ins i o ts ps)) ?_; go_simp; go_big_quiet_on)
            | (refine q_oneB 2 _ rfl _ Try.underlying2 rfl off' rfl E4 (.int .i64 i') ((hR' (c := 0) rfl (by omega)).trans (jn_ins i' o' ts' ps')) ?_; go_simp; go_big_quiet_on)
            | (go_big_quiet_op; go_big_quiet_on)
        ))
        refine wpQuiet_nil ?_
        intro w7 hw7
        go_wp2
        go_ret
        exact ⟨by rw [hv.out, h1]; rfl, bthen B4.out hw7⟩
      · generalize hb : (o == o') = b2 at f2
        refine wp_region_cb (by kernel_rfl) (by kernel_rfl) ?_
        repeat (first
          | go_big_quiet_skip
          | (go_big_quiet_want; first
            | (refine q_oneB 2 _ rfl _ Try.underlying2 rfl off rfl A4 (.int .i64 i) ((hR (c := 0) rfl (by omega)).trans (jn_ins i o ts ps)) ?_; go_simp; go_big_quiet_on)
            | (refine q_oneB 2 _ rfl _ Try.underlying2 rfl off' rfl E4 (.int .i64 i') ((hR' (c := 0) rfl (by omega)).trans (jn_ins i' o' ts' ps')) ?_; go_simp; go_big_quiet_on)
            | (refine q_oneB 2 _ rfl _ Try.underlying2 rfl (off + 1) rfl A4 (.int .i64 o) ((hR (c := 1) rfl (by omega)).trans (jn_outs i o ts ps)) ?_; go_simp; go_big_quiet_on)
            | (refine q_oneB 2 _ rfl _ Try.underlying2 rfl (off' + 1) rfl E4 (.int .i64 o') ((hR' (c := 1) rfl (by omega)).trans (jn_outs i' o' ts' ps')) ?_; go_simp; go_big_quiet_on)
            | (go_big_quiet_op; go_big_quiet_on)
        ))
        refine wpQuiet_nil ?_
        intro w7 hw7
        go_wp2
        go_ret
        exact ⟨by rw [hv.out, h1, hb]; rfl, bthen B4.out hw7⟩

set_option maxHeartbeats 1000000 in
theorem l04SameO_any (g1 g2 off1 off2 : Nat) (G1 G2 : Nat) (xs ys : Slots) (b o b' o' : Int) (hx : SlW xs) (hy : SlW ys) (h1 : xs.length ≤ 1048576) (T1 T2 : TypeId) (w : World) (X1 : PlAt w g1 off1 (.slice (some ⟨G1, 0, none⟩) xs.length xs.length) b o) (X2 : PlAt w g2 off2 (.slice (some ⟨G2, 0, none⟩) ys.length ys.length) b' o') (A1 : At w G1 (slC xs) T1) (A2 : At w G2 (slC ys) T2) :
    Calls Try.prog 64 #[.pointer (some ⟨g1, off1, none⟩), .pointer (some ⟨g2, off2, none⟩)] w fun e w' => e = .returned ((.bool (vSame xs ys b o b' o'))) ∧ Below w.heap.size w w' := by
  have B0 := Lib.hid (Below.refl w.heap.size w)
  by_cases hl : xs.length = ys.length
  · have HX := Lib.hid (And.intro hx hy)
    obtain ⟨n, hnn⟩ : ∃ n, n = xs.length := ⟨_, rfl⟩
    have HN := Lib.hid (And.intro hnn (hnn.trans hl))
    rw [← hnn] at h1 X1
    rw [← hl, ← hnn] at X2
    clear hnn hl hx hy
    have c1 : w.cell? ⟨g1, off1, none⟩ = some (.slice (some ⟨G1, 0, none⟩) n n) := X1.c0
    have c2 : w.cell? ⟨g2, off2, none⟩ = some (.slice (some ⟨G2, 0, none⟩) n n) := X2.c0
    go_enter Try.func64, Try.ntmps64
    go_wp2
    go_quiet (fail)
    have X3 := X1.drewN nq
    have X4 := X2.drewN nq
    have A3 := A1.drewN nq
    have A4 := A2.drewN nq
    have B1 := Lib.hid (bdrew B0.out nq)
    generalize hw1 : w.drewN nq = w1 at X3 X4 A3 A4 B1 ⊢
    clear hw1 X1 X2 A1 A2 B0 c1 c2
    go_wp2
    go_loopw [5] (fun i wr => ∃ k : Nat, k ≤ n ∧ i = .int .i64 (k : Int) ∧ Hid (∀ j, j < k → sb xs j = sb ys j ∧ st xs j = st ys j) ∧ PlAt wr g1 off1 (.slice (some ⟨G1, 0, none⟩) n n) b o ∧ PlAt wr g2 off2 (.slice (some ⟨G2, 0, none⟩) n n) b' o' ∧ At wr G1 (slC xs) T1 ∧ At wr G2 (slC ys) T2 ∧ Hid (Below w.heap.size w wr)) (fun i _ => n - (intOf i).toNat)
    case atStart => exact ⟨0, by omega, rfl, Lib.hid (fun j hj => by omega), X3, X4, A3, A4, B1⟩
    case round =>
      clear X3 X4 A3 A4 B1
      obtain ⟨k, hk, rfl, hall, X1, X2, A1, A2, B1⟩ := hrel
      have c1 : wr.cell? ⟨g1, off1, none⟩ = some (.slice (some ⟨G1, 0, none⟩) n n) := X1.c0
      by_cases hlt : k < n
      · have s2 : IntKind.i64.wrap ((k : Int) + 1) = (k : Int) + 1 := IntWalk.i64_in _ (by omega)
        have kd : (k : Int) < (n : Int) := by omega
        have hkx : k < xs.length := by rw [← HN.out.1]; exact hlt
        have hky : k < ys.length := by rw [← HN.out.2]; exact hlt
        have bx := (HX.out.1.at hkx).1
        have by_ := (HX.out.2.at hky).1
        have SS1 := slC_size HX.out.1
        have SS2 := slC_size HX.out.2
        have hle1 : k * 9 + 9 ≤ (slC xs).size := by rw [SS1]; omega
        have hle2 : k * 9 + 9 ≤ (slC ys).size := by rw [SS2]; omega
        have hsl1 := slC_slot HX.out.1 hkx (k := k * 9) rfl
        have hsl2 := slC_slot HX.out.2 hky (k := k * 9) rfl
        have hneq := fun W => run_neq_slot W (sb xs k) (sb ys k) (st xs k) (st ys k) bx by_
        clear SS1 SS2
        have hC := Cb.const wr
        by_cases he : sb xs k = sb ys k ∧ st xs k = st ys k
        · simp only [decide_eq_true he, Bool.not_true] at hneq
          have HE := Lib.hid he
          clear he
          go_wp2
          refine wp_region_cb (by kernel_rfl) (by kernel_rfl) ?_
          repeat (first
            | go_big_quiet_skip
            | (go_big_quiet_want; first
              | (refine q_atB 78 _ rfl _ Try.underlying78 rfl ⟨g1, off1, none⟩ rfl (fun w' h => (X1.step h).c0) ?_; go_simp; go_big_quiet_on)
              | (refine q_atB 78 _ rfl _ Try.underlying78 rfl ⟨g2, off2, none⟩ rfl (fun w' h => (X2.step h).c0) ?_; go_simp; go_big_quiet_on)
              | (refine q_part 143 _ rfl (k * 9) rfl A1 9 hle1 _ Try.underlying143 rfl (by kernel_rfl) (sl1 (sb xs k) (st xs k)) hsl1 ?_; go_simp; go_big_quiet_on)
              | (refine q_part 143 _ rfl (k * 9) rfl A2 9 hle2 _ Try.underlying143 rfl (by kernel_rfl) (sl1 (sb ys k) (st ys k)) hsl2 ?_; go_simp; go_big_quiet_on)
              | (refine q_neq 143 _ _ rfl (sl1 (sb xs k) (st xs k)) (sl1 (sb ys k) (st ys k)) rfl rfl (by kernel_rfl) _ hneq ?_; go_simp; go_big_quiet_on)
              | (go_big_quiet_op; go_big_quiet_on)))
          refine wpQuiet_nil ?_
          intro w2 hw2
          have X3 := X1.step hw2
          have X4 := X2.step hw2
          have A3 := A1.step hw2
          have A4 := A2.step hw2
          have B2 := Lib.hid (bthen B1.out hw2)
          clear A1 A2 B1 hw2 hC X1 X2 c1
          go_wp2
          exact ⟨⟨k + 1, by omega, by go_num, Lib.hid (fun j hj => by
            by_cases c : j = k
            · subst c; exact HE.out
            · exact hall.out j (by omega)), X3, X4, A3, A4, B2⟩, by simp [intOf]; omega⟩
        · simp only [decide_eq_false he, Bool.not_false] at hneq
          have hno : vSame xs ys b o b' o' = false := by unfold vSame; rw [decide_eq_false (fun e => he (by rw [e]; exact ⟨rfl, rfl⟩) : ¬ xs = ys)]; simp
          go_wp2
          refine wp_region_cb (by kernel_rfl) (by kernel_rfl) ?_
          repeat (first
            | go_big_quiet_skip
            | (go_big_quiet_want; first
              | (refine q_atB 78 _ rfl _ Try.underlying78 rfl ⟨g1, off1, none⟩ rfl (fun w' h => (X1.step h).c0) ?_; go_simp; go_big_quiet_on)
              | (refine q_atB 78 _ rfl _ Try.underlying78 rfl ⟨g2, off2, none⟩ rfl (fun w' h => (X2.step h).c0) ?_; go_simp; go_big_quiet_on)
              | (refine q_part 143 _ rfl (k * 9) rfl A1 9 hle1 _ Try.underlying143 rfl (by kernel_rfl) (sl1 (sb xs k) (st xs k)) hsl1 ?_; go_simp; go_big_quiet_on)
              | (refine q_part 143 _ rfl (k * 9) rfl A2 9 hle2 _ Try.underlying143 rfl (by kernel_rfl) (sl1 (sb ys k) (st ys k)) hsl2 ?_; go_simp; go_big_quiet_on)
              | (refine q_neq 143 _ _ rfl (sl1 (sb xs k) (st xs k)) (sl1 (sb ys k) (st ys k)) rfl rfl (by kernel_rfl) _ hneq ?_; go_simp; go_big_quiet_on)
              | (go_big_quiet_op; go_big_quiet_on)))
          refine wpQuiet_nil ?_
          intro w2 hw2
          go_wp2
          go_ret
          exact ⟨by rw [hno]; rfl, bthen B1.out hw2⟩
      · obtain rfl : n = k := by omega
        have hyes : decide (xs = ys) = true := decide_eq_true (slots_ext (HN.out.1.symm.trans HN.out.2) (fun j hj => hall.out j (by rw [HN.out.1]; exact hj)))
        have c11 : wr.cell? ⟨g1, off1 + 1, none⟩ = some (.int .i64 b) := X1.c1
        have c12 : wr.cell? ⟨g1, off1 + 2, none⟩ = some (.int .i64 o) := X1.c2
        have c21 : wr.cell? ⟨g2, off2 + 1, none⟩ = some (.int .i64 b') := X2.c1
        have c22 : wr.cell? ⟨g2, off2 + 2, none⟩ = some (.int .i64 o') := X2.c2
        by_cases hb : b = b'
        · have ev : vSame xs ys b o b' o' = (o == o') := by
            unfold vSame; rw [decide_eq_true hb, hyes]
            by_cases c : o = o' <;> simp [c]
          subst hb
          generalize hoo : (o == o') = oo at ev
          go_wp2
          go_quiet (fail)
          go_wp2
          go_ret
          exact ⟨by rw [ev]; rfl, bdrew B1.out _⟩
        · have ev : vSame xs ys b o b' o' = false := by unfold vSame; rw [decide_eq_false hb]; rfl
          have hd : (b == b') = false := by simpa using hb
          go_wp2
          go_quiet (fail)
          go_wp2
          go_ret
          exact ⟨by rw [ev]; rfl, bdrew B1.out _⟩
  · have ev : vSame xs ys b o b' o' = false := by unfold vSame; rw [decide_eq_false (fun e => hl (by rw [e]) : ¬ xs = ys)]; simp
    generalize xs.length = n at hl X1
    generalize ys.length = m at hl X2
    have hne : ¬ (n : Int) = (m : Int) := by omega
    have c1 : w.cell? ⟨g1, off1, none⟩ = some (.slice (some ⟨G1, 0, none⟩) n n) := X1.c0
    have c2 : w.cell? ⟨g2, off2, none⟩ = some (.slice (some ⟨G2, 0, none⟩) m m) := X2.c0
    rw [ev]
    go_enter Try.func64, Try.ntmps64
    go_wp2
    go_quiet (fail)
    go_wp2
    go_ret
    exact ⟨rfl, bdrew B0.out _⟩

end Go.Proofs.Ytboahhipobcabaa
