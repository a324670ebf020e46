/-
  CONTRACTS: roads, junctions at addresses within a block: which are valid, as the model asks it.
-/
import Derived.Test.YtboahhipobcabaaGreatTn
import Derived.Test.YtboahhipobcabaaGreatValidS
import Derived.Test.YtboahhipobcabaaGreatG4
namespace Go.Proofs.YtboahhipobcabaaGreat
open Go Go.ChangeShapes Go.WideShapes Go.ChangeAt Go.RowKit
set_option maxRecDepth 100000

/-- the cells of a road at an address -/
structure RdAt (w : World) (g off : Nat) (cs : List Nat) (p b l : Nat) : Prop where
  cell : ∀ c, c < 19 → w.cell? ⟨g, off + c, none⟩ = (rd cs p b l)[c]?

theorem RdAt.drewN {w : World} {g off : Nat} {cs : List Nat} {p b l : Nat} (h : RdAt w g off cs p b l) (n : Nat) : RdAt (w.drewN n) g off cs p b l := ⟨h.cell⟩

section
variable {w : World} {g off : Nat} {cs : List Nat} {p b l : Nat} (h : RdAt w g off cs p b l) (hl : cs.length = 16)
include h hl
theorem RdAt.car {k : Nat} (hk : k < 16) : w.cell? ⟨g, off + k, none⟩ = some (.float .f32 (nth cs k)) := (h.cell k (by omega)).trans (rd_cell hl p b l hk)

theorem RdAt.pace : w.cell? ⟨g, off + 16, none⟩ = some (.float .f32 p) := (h.cell 16 (by omega)).trans (rd_pace hl p b l)

theorem RdAt.back : w.cell? ⟨g, off + 17, none⟩ = some (.float .f32 b) := (h.cell 17 (by omega)).trans (rd_back hl p b l)

theorem RdAt.lanes : w.cell? ⟨g, off + 18, none⟩ = some (.float .f32 l) := (h.cell 18 (by omega)).trans (rd_lanes hl p b l)
end

theorem RdAt.of_row {w : World} {G k : Nat} {rs : List Rd4} {T : TypeId} (h : At w G (fm rdr rs) T) (hk : k < rs.length) : RdAt w G (k * 19) (fe zR rs k).cs (fe zR rs k).p (fe zR rs k).b (fe zR rs k).l :=
  ⟨fun c hc => by rw [cell_of_row _ _ _ _ _ _ h]; exact fm_get rdr_size hk hc⟩

set_option maxHeartbeats 1000000 in
theorem l01OkO_any (g off : Nat) (cs : List Nat) (p b l : Nat) (hl : cs.length = 16) (hc : ∀ x ∈ cs, x < 4294967296) (hp : p < 4294967296) (hb : b < 4294967296) (hla : l < 4294967296) (w : World) (hr : RdAt w g off cs p b l) :
    Calls Tryz.prog 68 #[.pointer (some ⟨g, off, none⟩)] w (Rd (.bool (okB cs p b l)) w) := by
  go_enter Tryz.func68, Tryz.ntmps68
  go_wp2
  go_loopw [3] (fun i wr => ∃ k n : Nat, k ≤ 16 ∧ i = .int .i64 k ∧ Hid ((cs.take k).all shrB = true) ∧ wr = w.drewN n) (fun i _ => 16 - (intOf i).toNat)
  case atStart => exact ⟨0, 0, by omega, rfl, rfl, rfl⟩
  case round =>
    obtain ⟨k, n, hk, rfl, hall, rfl⟩ := hrel
    by_cases hlt : k < 16
    · have hi := hr.car hl hlt
      have hx := u32_lt hc k
      cases hs : shrB (nth cs k)
      · have hno := okB_no_car p b l (k := k) (by omega) hs
        go_wp2_with (go_at_call 116; refine (l01Share_any _ hx _).mono ?_; rintro e w' ⟨rfl, n', rfl⟩)
        go_ret
        exact ⟨by rw [hno]; rfl, _, rfl⟩
      · go_wp2_with (go_at_call 116; refine (l01Share_any _ hx _).mono ?_; rintro e w' ⟨rfl, n', rfl⟩)
        exact ⟨⟨k + 1, n + n', by omega, by go_num, all_take hall.out (by omega) hs, rfl⟩, by simp [intOf]; omega⟩
    · have h16 : k = 16 := by omega
      have Hall : Hid (cs.all shrB = true) := by have := hall.out; rw [h16, ← hl, List.take_length] at this; exact this
      clear hall
      obtain rfl := h16
      have c16 := hr.pace hl
      have c17 := hr.back hl
      have c18 := hr.lanes hl
      have hok : Hid (okB cs p b l = (paceB p && paceB b && lanesB l)) := by show okB cs p b l = _; unfold okB; rw [Hall.out, Bool.true_and]
      clear Hall hr
      cases h1 : shrB p
      · have hn : paceB p = false := by unfold shrB at h1; unfold paceB; simp at h1 ⊢; omega
        go_wp2_with (go_at_call 116; refine (l01Share_any _ (by assumption) _).mono ?_; rintro e w' ⟨rfl, n', rfl⟩)
        go_ret
        exact ⟨by rw [hok.out, hn]; rfl, _, rfl⟩
      · cases h2 : shrB b
        · have hn : paceB b = false := by unfold shrB at h2; unfold paceB; simp at h2 ⊢; omega
          go_wp2_with (go_at_call 116; refine (l01Share_any _ (by assumption) _).mono ?_; rintro e w' ⟨rfl, n', rfl⟩)
          go_ret
          exact ⟨by rw [hok.out, hn, Bool.and_false]; rfl, _, rfl⟩
        · have hle1 : p ≤ 1065353216 := by unfold shrB at h1; simpa using h1
          have hle2 : b ≤ 1065353216 := by unfold shrB at h2; simpa using h2
          have m1 := ge_amt (x := p) (y := 1015021568) (by omega) (by omega)
          have m2 := ge_amt (x := b) (y := 1015021568) (by omega) (by omega)
          rw [show decide (1015021568 ≤ p) = paceB p from by unfold paceB; simp [hle1]] at m1
          rw [show decide (1015021568 ≤ b) = paceB b from by unfold paceB; simp [hle2]] at m2
          clear hle1 hle2
          cases h3 : paceB p
          · rw [h3] at m1
            go_wp2_with (go_at_call 116; refine (l01Share_any _ (by assumption) _).mono ?_; rintro e w' ⟨rfl, n', rfl⟩)
            go_ret
            exact ⟨by rw [hok.out, h3]; rfl, _, rfl⟩
          · rw [h3] at m1
            cases h4 : paceB b
            · rw [h4] at m2
              go_wp2_with (go_at_call 116; refine (l01Share_any _ (by assumption) _).mono ?_; rintro e w' ⟨rfl, n', rfl⟩)
              go_ret
              exact ⟨by rw [hok.out, h3, h4]; rfl, _, rfl⟩
            · rw [h4] at m2
              have m3 := ge_word (c := 1048576000) hla (by omega) (by omega)
              by_cases c : 1048576000 ≤ l ∧ l ≤ 2139095040
              · have m4 := le_amt (x := l) (y := 1090519040) (by omega) (by omega)
                rw [decide_eq_true c] at m3
                rw [show decide (l ≤ 1090519040) = lanesB l from by unfold lanesB; simp [c.1]] at m4
                clear c
                go_wp2_with (go_at_call 116; refine (l01Share_any _ (by assumption) _).mono ?_; rintro e w' ⟨rfl, n', rfl⟩)
                go_ret
                exact ⟨by rw [hok.out, h3, h4]; rfl, _, rfl⟩
              · rw [decide_eq_false c] at m3
                have hn : lanesB l = false := by unfold lanesB; simp; omega
                clear c
                go_wp2_with (go_at_call 116; refine (l01Share_any _ (by assumption) _).mono ?_; rintro e w' ⟨rfl, n', rfl⟩)
                go_ret
                exact ⟨by rw [hok.out, h3, h4, hn]; rfl, _, rfl⟩

set_option maxHeartbeats 2000000 in
theorem l03OkO_b (g off : Nat) (R : Array Value) (i o : Int) (ts ps : List Nat) (hi : -9223372036854775808 ≤ i ∧ i ≤ 9223372036854775807) (ho : -9223372036854775808 ≤ o ∧ o ≤ 9223372036854775807) (hlt : ts.length = 16) (hlp : ps.length = 4) (hct : ∀ x ∈ ts, x < 4294967296) (hcp : ∀ x ∈ ps, x < 4294967296) (T : TypeId) (w : World) (hA0 : At w g R T) (hR : ∀ {x c : Nat}, x = off + c → c < 22 → R[x]? = (jn i o ts ps)[c]?) :
    Calls Tryz.prog 114 #[.pointer (some ⟨g, off, none⟩)] w (Rd (.bool (okJ i o ts ps)) w) := by
  have hA : ∀ n, At (w.drewN n) g R T := fun n => hA0.drewN n
  clear hi ho
  cases h1 : inB 1 4 i
  · have hr : okJ i o ts ps = false := by unfold okJ; rw [h1]; rfl
    go_enter Tryz.func114, Tryz.ntmps114
    go_wp2_with (((with_reducible refine is_load 2 _ rfl ?_); refine wpList_load_cell rfl 2 _ rfl _ _ rfl R _ hA0 _ Tryz.underlying2 rfl (.int .i64 i) ((hR (c := 0) (by omega) (by omega)).trans (jn_ins i o ts ps)) ?_))
    refine (l03Arms_b i _).mono ?_
    rw [h1]
    rintro e w1 ⟨rfl, n1, rfl⟩
    go_wp2_with fail
    go_ret
    exact ⟨by rw [hr]; rfl, _, rfl⟩
  go_enter Tryz.func114, Tryz.ntmps114
  go_wp2_with (((with_reducible refine is_load 2 _ rfl ?_); refine wpList_load_cell rfl 2 _ rfl _ _ rfl R _ hA0 _ Tryz.underlying2 rfl (.int .i64 i) ((hR (c := 0) (by omega) (by omega)).trans (jn_ins i o ts ps)) ?_))
  refine (l03Arms_b i _).mono ?_
  rw [h1]
  rintro e w1 ⟨rfl, n1, rfl⟩
  go_wp2_with (((with_reducible refine is_load 2 _ rfl ?_); refine wpList_load_cell_g rfl 2 _ rfl _ _ rfl R _ (hA _) _ Tryz.underlying2 rfl (.int .i64 o) ((hR (c := 1) (by omega) (by omega)).trans (jn_outs i o ts ps)) ?_))
  refine (l03Arms_b o _).mono ?_
  cases h2 : inB 1 4 o
  · have hr : okJ i o ts ps = false := by unfold okJ; rw [h2, Bool.and_false]; rfl
    rintro e w2 ⟨rfl, n2, rfl⟩
    go_wp2_with fail
    go_ret
    exact ⟨by rw [hr]; rfl, _, rfl⟩
  rintro e w2 ⟨rfl, n2, rfl⟩
  have hok : Hid (okJ i o ts ps = rowsSTo i o ts ps 4) := Lib.hid (by rw [okJ_model, h1, h2]; rfl)
  clear h1 h2
  go_wp2_with fail
  go_loopw [3] (fun i' wr => ∃ k N : Nat, k ≤ 4 ∧ i' = .int .i64 k ∧ Hid (rowsSTo i o ts ps k = true) ∧ wr = w.drewN N) (fun i' _ => 4 - (intOf i').toNat)
  case atStart => exact ⟨0, _, by omega, rfl, Lib.hid rfl, rfl⟩
  case round =>
    obtain ⟨k, N, hk, rfl, hall, rfl⟩ := hrel
    by_cases hlk : k < 4
    · have rl := row4_len hlt hlk
      have hpk := u32_lt hcp k
      have hkd : decide ((k : Int) < 4) = true := decide_eq_true (by omega)
      go_wp2
      go_loopw [5, 4] (fun n' s wr => ∃ m M : Nat, m ≤ 4 ∧ n' = .int .i64 m ∧ s = .float .f32 (sumP (row4 ts k) m) ∧ Hid (cellsTo i o k (row4 ts k) m = true) ∧ wr = w.drewN M) (fun n' _ _ => 4 - (intOf n').toNat)
      case atStart => exact ⟨0, N, by omega, rfl, rfl, Lib.hid rfl, rfl⟩
      case round =>
        obtain ⟨m, M, hm', rfl, rfl, hcells, rfl⟩ := hrel
        by_cases hm : m < 4
        · have hx : nth (row4 ts k) m < 4294967296 := u32_lt (fun x hx => hct x (row4_mem k hx)) m
          have s3 : IntKind.i64.wrap ((m : Int) + 1) = (m : Int) + 1 := IntWalk.i64_in _ (by omega)
          cases hsh : shrB (nth (row4 ts k) m)
          · have hcell : cellOk i o k m (nth (row4 ts k) m) = false := by unfold cellOk; rw [hsh]; rfl
            have hr : okJ i o ts ps = false := okJ_rowS hlk (rowS_cell hm hcell)
            go_wp2_with (first | ((with_reducible refine is_load 26 _ rfl ?_); refine wpList_load_cell rfl 26 _ rfl _ _ rfl R _ (hA _) _ Tryz.underlying26 rfl (.float .f32 (nth (row4 ts k) m)) (by rw [row4_nth hlt k hm]; exact (hR (c := 4 * k + m + 2) (by omega) (by omega)).trans (jn_turn hlt hlp i o (k := 4 * k + m) (by omega) (by omega))) ?_) | (go_at_call 116; refine (l01Share_any _ hx _).mono ?_; rw [hsh]; rintro e w' ⟨rfl, n', rfl⟩) | ((with_reducible refine is_load 2 _ rfl ?_); refine wpList_load_cell_g rfl 2 _ rfl _ _ rfl R _ (hA _) _ Tryz.underlying2 rfl (.int .i64 i) ((hR (c := 0) (by omega) (by omega)).trans (jn_ins i o ts ps)) ?_) | ((with_reducible refine is_load 2 _ rfl ?_); refine wpList_load_cell_g rfl 2 _ rfl _ _ rfl R _ (hA _) _ Tryz.underlying2 rfl (.int .i64 o) ((hR (c := 1) (by omega) (by omega)).trans (jn_outs i o ts ps)) ?_))
            go_ret
            exact ⟨by rw [hr]; rfl, _, rfl⟩
          · have hle : nth (row4 ts k) m ≤ 1065353216 := by unfold shrB at hsh; simpa using hsh
            have hne := ne_amt (x := nth (row4 ts k) m) (y := 0) (by omega) (by omega)
            have hbd : ∀ q, q < m + 1 → nth (row4 ts k) q ≤ 2139095040 := by
              intro q hq
              by_cases hqm : q = m
              · subst hqm; omega
              · exact Nat.le_trans (cellsTo_shr (m := m) (by omega) hcells.out) (by omega)
            clear hle
            by_cases hki : (k : Int) < i
            · have hki' : decide (i ≤ (k : Int)) = false := decide_eq_false (by omega)
              by_cases hmo : (m : Int) < o
              · have hmo' : decide (o ≤ (m : Int)) = false := decide_eq_false (by omega)
                have hcell : cellOk i o k m (nth (row4 ts k) m) = true := by unfold cellOk; rw [hsh, decide_eq_true hki, decide_eq_true hmo]; simp
                clear hne
                by_cases hm0 : m = 0
                · have H0 := Lib.hid hm0
                  have hmz : ((m : Int) == 0) = true := by rw [hm0]; rfl
                  clear hm0
                  go_wp2_with (first | ((with_reducible refine is_load 26 _ rfl ?_); refine wpList_load_cell rfl 26 _ rfl _ _ rfl R _ (hA _) _ Tryz.underlying26 rfl (.float .f32 (nth (row4 ts k) m)) (by rw [row4_nth hlt k hm]; exact (hR (c := 4 * k + m + 2) (by omega) (by omega)).trans (jn_turn hlt hlp i o (k := 4 * k + m) (by omega) (by omega))) ?_) | (go_at_call 116; refine (l01Share_any _ hx _).mono ?_; rw [hsh]; rintro e w' ⟨rfl, n', rfl⟩) | ((with_reducible refine is_load 2 _ rfl ?_); refine wpList_load_cell_g rfl 2 _ rfl _ _ rfl R _ (hA _) _ Tryz.underlying2 rfl (.int .i64 i) ((hR (c := 0) (by omega) (by omega)).trans (jn_ins i o ts ps)) ?_) | ((with_reducible refine is_load 2 _ rfl ?_); refine wpList_load_cell_g rfl 2 _ rfl _ _ rfl R _ (hA _) _ Tryz.underlying2 rfl (.int .i64 o) ((hR (c := 1) (by omega) (by omega)).trans (jn_outs i o ts ps)) ?_))
                  exact ⟨⟨m + 1, _, by omega, by go_num, by rw [H0.out]; rfl, Lib.hid (by rw [cellsTo_succ, hcells.out, hcell]; rfl), rfl⟩, by simp [intOf]; omega⟩
                · have f := sumP_add (xs := (row4 ts k)) (m := m) hm0 hbd
                  have f' : ∀ t W, (binOp .add t (.float .f32 (sumP (row4 ts k) m)) (.float .f32 (nth (row4 ts k) m))).run Tryz.prog W = .ok (.float .f32 (sumP (row4 ts k) (m + 1))) W := fun t W => run_float_arith W .add t .f32 _ _ _ f
                  clear f
                  go_wp2_with (first | ((with_reducible refine is_load 26 _ rfl ?_); refine wpList_load_cell rfl 26 _ rfl _ _ rfl R _ (hA _) _ Tryz.underlying26 rfl (.float .f32 (nth (row4 ts k) m)) (by rw [row4_nth hlt k hm]; exact (hR (c := 4 * k + m + 2) (by omega) (by omega)).trans (jn_turn hlt hlp i o (k := 4 * k + m) (by omega) (by omega))) ?_) | (go_at_call 116; refine (l01Share_any _ hx _).mono ?_; rw [hsh]; rintro e w' ⟨rfl, n', rfl⟩) | ((with_reducible refine is_load 2 _ rfl ?_); refine wpList_load_cell_g rfl 2 _ rfl _ _ rfl R _ (hA _) _ Tryz.underlying2 rfl (.int .i64 i) ((hR (c := 0) (by omega) (by omega)).trans (jn_ins i o ts ps)) ?_) | ((with_reducible refine is_load 2 _ rfl ?_); refine wpList_load_cell_g rfl 2 _ rfl _ _ rfl R _ (hA _) _ Tryz.underlying2 rfl (.int .i64 o) ((hR (c := 1) (by omega) (by omega)).trans (jn_outs i o ts ps)) ?_))
                  exact ⟨⟨m + 1, _, by omega, by go_num, rfl, Lib.hid (by rw [cellsTo_succ, hcells.out, hcell]; rfl), rfl⟩, by simp [intOf]; omega⟩
              · have hmo' : decide (o ≤ (m : Int)) = true := decide_eq_true (by omega)
                by_cases hz : nth (row4 ts k) m = 0
                · rw [decide_eq_true hz] at hne
                  have hcell : cellOk i o k m (nth (row4 ts k) m) = true := by unfold cellOk; rw [hsh, decide_eq_true hz]; rfl
                  clear hz
                  by_cases hm0 : m = 0
                  · have H0 := Lib.hid hm0
                    have hmz : ((m : Int) == 0) = true := by rw [hm0]; rfl
                    clear hm0
                    go_wp2_with (first | ((with_reducible refine is_load 26 _ rfl ?_); refine wpList_load_cell rfl 26 _ rfl _ _ rfl R _ (hA _) _ Tryz.underlying26 rfl (.float .f32 (nth (row4 ts k) m)) (by rw [row4_nth hlt k hm]; exact (hR (c := 4 * k + m + 2) (by omega) (by omega)).trans (jn_turn hlt hlp i o (k := 4 * k + m) (by omega) (by omega))) ?_) | (go_at_call 116; refine (l01Share_any _ hx _).mono ?_; rw [hsh]; rintro e w' ⟨rfl, n', rfl⟩) | ((with_reducible refine is_load 2 _ rfl ?_); refine wpList_load_cell_g rfl 2 _ rfl _ _ rfl R _ (hA _) _ Tryz.underlying2 rfl (.int .i64 i) ((hR (c := 0) (by omega) (by omega)).trans (jn_ins i o ts ps)) ?_) | ((with_reducible refine is_load 2 _ rfl ?_); refine wpList_load_cell_g rfl 2 _ rfl _ _ rfl R _ (hA _) _ Tryz.underlying2 rfl (.int .i64 o) ((hR (c := 1) (by omega) (by omega)).trans (jn_outs i o ts ps)) ?_))
                    exact ⟨⟨m + 1, _, by omega, by go_num, by rw [H0.out]; rfl, Lib.hid (by rw [cellsTo_succ, hcells.out, hcell]; rfl), rfl⟩, by simp [intOf]; omega⟩
                  · have f := sumP_add (xs := (row4 ts k)) (m := m) hm0 hbd
                    have f' : ∀ t W, (binOp .add t (.float .f32 (sumP (row4 ts k) m)) (.float .f32 (nth (row4 ts k) m))).run Tryz.prog W = .ok (.float .f32 (sumP (row4 ts k) (m + 1))) W := fun t W => run_float_arith W .add t .f32 _ _ _ f
                    clear f
                    go_wp2_with (first | ((with_reducible refine is_load 26 _ rfl ?_); refine wpList_load_cell rfl 26 _ rfl _ _ rfl R _ (hA _) _ Tryz.underlying26 rfl (.float .f32 (nth (row4 ts k) m)) (by rw [row4_nth hlt k hm]; exact (hR (c := 4 * k + m + 2) (by omega) (by omega)).trans (jn_turn hlt hlp i o (k := 4 * k + m) (by omega) (by omega))) ?_) | (go_at_call 116; refine (l01Share_any _ hx _).mono ?_; rw [hsh]; rintro e w' ⟨rfl, n', rfl⟩) | ((with_reducible refine is_load 2 _ rfl ?_); refine wpList_load_cell_g rfl 2 _ rfl _ _ rfl R _ (hA _) _ Tryz.underlying2 rfl (.int .i64 i) ((hR (c := 0) (by omega) (by omega)).trans (jn_ins i o ts ps)) ?_) | ((with_reducible refine is_load 2 _ rfl ?_); refine wpList_load_cell_g rfl 2 _ rfl _ _ rfl R _ (hA _) _ Tryz.underlying2 rfl (.int .i64 o) ((hR (c := 1) (by omega) (by omega)).trans (jn_outs i o ts ps)) ?_))
                    exact ⟨⟨m + 1, _, by omega, by go_num, rfl, Lib.hid (by rw [cellsTo_succ, hcells.out, hcell]; rfl), rfl⟩, by simp [intOf]; omega⟩
                · rw [decide_eq_false hz] at hne
                  have hcell : cellOk i o k m (nth (row4 ts k) m) = false := by unfold cellOk; rw [decide_eq_false hz, decide_eq_false hmo]; simp
                  clear hz
                  have hr : okJ i o ts ps = false := okJ_rowS hlk (rowS_cell hm hcell)
                  go_wp2_with (first | ((with_reducible refine is_load 26 _ rfl ?_); refine wpList_load_cell rfl 26 _ rfl _ _ rfl R _ (hA _) _ Tryz.underlying26 rfl (.float .f32 (nth (row4 ts k) m)) (by rw [row4_nth hlt k hm]; exact (hR (c := 4 * k + m + 2) (by omega) (by omega)).trans (jn_turn hlt hlp i o (k := 4 * k + m) (by omega) (by omega))) ?_) | (go_at_call 116; refine (l01Share_any _ hx _).mono ?_; rw [hsh]; rintro e w' ⟨rfl, n', rfl⟩) | ((with_reducible refine is_load 2 _ rfl ?_); refine wpList_load_cell_g rfl 2 _ rfl _ _ rfl R _ (hA _) _ Tryz.underlying2 rfl (.int .i64 i) ((hR (c := 0) (by omega) (by omega)).trans (jn_ins i o ts ps)) ?_) | ((with_reducible refine is_load 2 _ rfl ?_); refine wpList_load_cell_g rfl 2 _ rfl _ _ rfl R _ (hA _) _ Tryz.underlying2 rfl (.int .i64 o) ((hR (c := 1) (by omega) (by omega)).trans (jn_outs i o ts ps)) ?_))
                  go_ret
                  exact ⟨by rw [hr]; rfl, _, rfl⟩
            · have hki' : decide (i ≤ (k : Int)) = true := decide_eq_true (by omega)
              by_cases hz : nth (row4 ts k) m = 0
              · rw [decide_eq_true hz] at hne
                have hcell : cellOk i o k m (nth (row4 ts k) m) = true := by unfold cellOk; rw [hsh, decide_eq_true hz]; rfl
                clear hz
                by_cases hm0 : m = 0
                · have H0 := Lib.hid hm0
                  have hmz : ((m : Int) == 0) = true := by rw [hm0]; rfl
                  clear hm0
                  go_wp2_with (first | ((with_reducible refine is_load 26 _ rfl ?_); refine wpList_load_cell rfl 26 _ rfl _ _ rfl R _ (hA _) _ Tryz.underlying26 rfl (.float .f32 (nth (row4 ts k) m)) (by rw [row4_nth hlt k hm]; exact (hR (c := 4 * k + m + 2) (by omega) (by omega)).trans (jn_turn hlt hlp i o (k := 4 * k + m) (by omega) (by omega))) ?_) | (go_at_call 116; refine (l01Share_any _ hx _).mono ?_; rw [hsh]; rintro e w' ⟨rfl, n', rfl⟩) | ((with_reducible refine is_load 2 _ rfl ?_); refine wpList_load_cell_g rfl 2 _ rfl _ _ rfl R _ (hA _) _ Tryz.underlying2 rfl (.int .i64 i) ((hR (c := 0) (by omega) (by omega)).trans (jn_ins i o ts ps)) ?_) | ((with_reducible refine is_load 2 _ rfl ?_); refine wpList_load_cell_g rfl 2 _ rfl _ _ rfl R _ (hA _) _ Tryz.underlying2 rfl (.int .i64 o) ((hR (c := 1) (by omega) (by omega)).trans (jn_outs i o ts ps)) ?_))
                  exact ⟨⟨m + 1, _, by omega, by go_num, by rw [H0.out]; rfl, Lib.hid (by rw [cellsTo_succ, hcells.out, hcell]; rfl), rfl⟩, by simp [intOf]; omega⟩
                · have f := sumP_add (xs := (row4 ts k)) (m := m) hm0 hbd
                  have f' : ∀ t W, (binOp .add t (.float .f32 (sumP (row4 ts k) m)) (.float .f32 (nth (row4 ts k) m))).run Tryz.prog W = .ok (.float .f32 (sumP (row4 ts k) (m + 1))) W := fun t W => run_float_arith W .add t .f32 _ _ _ f
                  clear f
                  go_wp2_with (first | ((with_reducible refine is_load 26 _ rfl ?_); refine wpList_load_cell rfl 26 _ rfl _ _ rfl R _ (hA _) _ Tryz.underlying26 rfl (.float .f32 (nth (row4 ts k) m)) (by rw [row4_nth hlt k hm]; exact (hR (c := 4 * k + m + 2) (by omega) (by omega)).trans (jn_turn hlt hlp i o (k := 4 * k + m) (by omega) (by omega))) ?_) | (go_at_call 116; refine (l01Share_any _ hx _).mono ?_; rw [hsh]; rintro e w' ⟨rfl, n', rfl⟩) | ((with_reducible refine is_load 2 _ rfl ?_); refine wpList_load_cell_g rfl 2 _ rfl _ _ rfl R _ (hA _) _ Tryz.underlying2 rfl (.int .i64 i) ((hR (c := 0) (by omega) (by omega)).trans (jn_ins i o ts ps)) ?_) | ((with_reducible refine is_load 2 _ rfl ?_); refine wpList_load_cell_g rfl 2 _ rfl _ _ rfl R _ (hA _) _ Tryz.underlying2 rfl (.int .i64 o) ((hR (c := 1) (by omega) (by omega)).trans (jn_outs i o ts ps)) ?_))
                  exact ⟨⟨m + 1, _, by omega, by go_num, rfl, Lib.hid (by rw [cellsTo_succ, hcells.out, hcell]; rfl), rfl⟩, by simp [intOf]; omega⟩
              · rw [decide_eq_false hz] at hne
                have hcell : cellOk i o k m (nth (row4 ts k) m) = false := by unfold cellOk; rw [decide_eq_false hz, decide_eq_false hki]; simp
                clear hz
                have hr : okJ i o ts ps = false := okJ_rowS hlk (rowS_cell hm hcell)
                go_wp2_with (first | ((with_reducible refine is_load 26 _ rfl ?_); refine wpList_load_cell rfl 26 _ rfl _ _ rfl R _ (hA _) _ Tryz.underlying26 rfl (.float .f32 (nth (row4 ts k) m)) (by rw [row4_nth hlt k hm]; exact (hR (c := 4 * k + m + 2) (by omega) (by omega)).trans (jn_turn hlt hlp i o (k := 4 * k + m) (by omega) (by omega))) ?_) | (go_at_call 116; refine (l01Share_any _ hx _).mono ?_; rw [hsh]; rintro e w' ⟨rfl, n', rfl⟩) | ((with_reducible refine is_load 2 _ rfl ?_); refine wpList_load_cell_g rfl 2 _ rfl _ _ rfl R _ (hA _) _ Tryz.underlying2 rfl (.int .i64 i) ((hR (c := 0) (by omega) (by omega)).trans (jn_ins i o ts ps)) ?_) | ((with_reducible refine is_load 2 _ rfl ?_); refine wpList_load_cell_g rfl 2 _ rfl _ _ rfl R _ (hA _) _ Tryz.underlying2 rfl (.int .i64 o) ((hR (c := 1) (by omega) (by omega)).trans (jn_outs i o ts ps)) ?_))
                go_ret
                exact ⟨by rw [hr]; rfl, _, rfl⟩
        · obtain rfl : m = 4 := by omega
          have s2 : IntKind.i64.wrap ((k : Int) + 1) = (k : Int) + 1 := IntWalk.i64_in _ (by omega)
          by_cases hki : (k : Int) < i
          · have hki' : decide (i ≤ (k : Int)) = false := decide_eq_false (by omega)
            have hle : sumP (row4 ts k) 4 ≤ 2139095040 := sumP_amt 4 fun q hq => Nat.le_trans (cellsTo_shr hq hcells.out) (by omega)
            have m1 := ge_amt (x := sumP (row4 ts k) 4) (y := 1065336439) hle (by omega)
            have m2 := le_amt (x := sumP (row4 ts k) 4) (y := 1065361605) hle (by omega)
            have hrow : Hid (rowS i o ts ps k = (oneB (sumP (row4 ts k) 4) && priB (nth ps k))) := Lib.hid (by unfold rowS; rw [hcells.out, if_pos hki]; rfl)
            clear hle
            by_cases c1 : 1065336439 ≤ sumP (row4 ts k) 4
            · by_cases c2 : sumP (row4 ts k) 4 ≤ 1065361605
              · rw [decide_eq_true c1] at m1
                rw [decide_eq_true c2] at m2
                have h1 : oneB (sumP (row4 ts k) 4) = true := by unfold oneB; rw [decide_eq_true c1, decide_eq_true c2]; rfl
                clear c1 c2
                go_wp2_with (first | ((with_reducible refine is_load 2 _ rfl ?_); refine wpList_load_cell rfl 2 _ rfl _ _ rfl R _ (hA _) _ Tryz.underlying2 rfl (.int .i64 i) ((hR (c := 0) (by omega) (by omega)).trans (jn_ins i o ts ps)) ?_) | ((with_reducible refine is_load 26 _ rfl ?_); refine wpList_load_cell_g rfl 26 _ rfl _ _ rfl R _ (hA _) _ Tryz.underlying26 rfl (.float .f32 (nth ps k)) ((hR (c := k + 18) (by omega) (by omega)).trans (jn_prior hlt hlp i o hlk rfl)) ?_))
                refine (l03Prior_b (nth ps k) hpk _).mono ?_
                cases hp : priB (nth ps k)
                · have hr : okJ i o ts ps = false := okJ_rowS hlk (by rw [hrow.out, hp, Bool.and_false])
                  rintro e w5 ⟨rfl, n5, rfl⟩
                  go_wp2_with fail
                  go_ret
                  exact ⟨by rw [hr]; rfl, _, rfl⟩
                rintro e w5 ⟨rfl, n5, rfl⟩
                go_wp2_with fail
                exact ⟨⟨k + 1, _, by omega, by go_num, Lib.hid (by rw [rowsSTo_succ, hall.out, hrow.out, h1, hp]; rfl), rfl⟩, by simp [intOf]; omega⟩
              · rw [decide_eq_true c1] at m1
                rw [decide_eq_false c2] at m2
                have hr : okJ i o ts ps = false := okJ_rowS hlk (by rw [hrow.out]; unfold oneB; rw [decide_eq_false c2]; simp)
                clear c1 c2
                go_wp2_with (first | ((with_reducible refine is_load 2 _ rfl ?_); refine wpList_load_cell rfl 2 _ rfl _ _ rfl R _ (hA _) _ Tryz.underlying2 rfl (.int .i64 i) ((hR (c := 0) (by omega) (by omega)).trans (jn_ins i o ts ps)) ?_) | ((with_reducible refine is_load 26 _ rfl ?_); refine wpList_load_cell_g rfl 26 _ rfl _ _ rfl R _ (hA _) _ Tryz.underlying26 rfl (.float .f32 (nth ps k)) ((hR (c := k + 18) (by omega) (by omega)).trans (jn_prior hlt hlp i o hlk rfl)) ?_))
                go_ret
                exact ⟨by rw [hr]; rfl, _, rfl⟩
            · rw [decide_eq_false c1] at m1
              have hr : okJ i o ts ps = false := okJ_rowS hlk (by rw [hrow.out]; unfold oneB; rw [decide_eq_false c1]; simp)
              clear c1
              go_wp2_with (first | ((with_reducible refine is_load 2 _ rfl ?_); refine wpList_load_cell rfl 2 _ rfl _ _ rfl R _ (hA _) _ Tryz.underlying2 rfl (.int .i64 i) ((hR (c := 0) (by omega) (by omega)).trans (jn_ins i o ts ps)) ?_) | ((with_reducible refine is_load 26 _ rfl ?_); refine wpList_load_cell_g rfl 26 _ rfl _ _ rfl R _ (hA _) _ Tryz.underlying26 rfl (.float .f32 (nth ps k)) ((hR (c := k + 18) (by omega) (by omega)).trans (jn_prior hlt hlp i o hlk rfl)) ?_))
              go_ret
              exact ⟨by rw [hr]; rfl, _, rfl⟩
          · have hki' : decide (i ≤ (k : Int)) = true := decide_eq_true (by omega)
            have hrow : Hid (rowS i o ts ps k = (amtB (nth ps k) && decide (nth ps k = 0))) := Lib.hid (by unfold rowS; rw [hcells.out, if_neg hki]; rfl)
            cases hp : amtB (nth ps k)
            · have hr : okJ i o ts ps = false := okJ_rowS hlk (by rw [hrow.out, hp]; rfl)
              go_wp2_with (first | ((with_reducible refine is_load 2 _ rfl ?_); refine wpList_load_cell rfl 2 _ rfl _ _ rfl R _ (hA _) _ Tryz.underlying2 rfl (.int .i64 i) ((hR (c := 0) (by omega) (by omega)).trans (jn_ins i o ts ps)) ?_) | ((with_reducible refine is_load 26 _ rfl ?_); refine wpList_load_cell rfl 26 _ rfl _ _ rfl R _ (hA _) _ Tryz.underlying26 rfl (.float .f32 (nth ps k)) ((hR (c := k + 18) (by omega) (by omega)).trans (jn_prior hlt hlp i o hlk rfl)) ?_))
              refine (l01Amount_any (nth ps k) hpk _).mono ?_
              rw [hp]
              rintro e w5 ⟨rfl, n5, rfl⟩
              go_wp2_with fail
              go_ret
              exact ⟨by rw [hr]; rfl, _, rfl⟩
            · have hne := ne_amt (x := nth ps k) (y := 0) (by unfold amtB at hp; simp at hp; omega) (by omega)
              by_cases hz : nth ps k = 0
              · rw [decide_eq_true hz] at hne
                have hrt : rowS i o ts ps k = true := by rw [hrow.out, hp, decide_eq_true hz]; rfl
                clear hz
                go_wp2_with (first | ((with_reducible refine is_load 2 _ rfl ?_); refine wpList_load_cell rfl 2 _ rfl _ _ rfl R _ (hA _) _ Tryz.underlying2 rfl (.int .i64 i) ((hR (c := 0) (by omega) (by omega)).trans (jn_ins i o ts ps)) ?_) | ((with_reducible refine is_load 26 _ rfl ?_); refine wpList_load_cell rfl 26 _ rfl _ _ rfl R _ (hA _) _ Tryz.underlying26 rfl (.float .f32 (nth ps k)) ((hR (c := k + 18) (by omega) (by omega)).trans (jn_prior hlt hlp i o hlk rfl)) ?_))
                refine (l01Amount_any (nth ps k) hpk _).mono ?_
                rw [hp]
                rintro e w5 ⟨rfl, n5, rfl⟩
                go_wp2_with (first | ((with_reducible refine is_load 26 _ rfl ?_); refine wpList_load_cell_g rfl 26 _ rfl _ _ rfl R _ (hA _) _ Tryz.underlying26 rfl (.float .f32 (nth ps k)) ((hR (c := k + 18) (by omega) (by omega)).trans (jn_prior hlt hlp i o hlk rfl)) ?_) | ((with_reducible refine is_load 2 _ rfl ?_); refine wpList_load_cell rfl 2 _ rfl _ _ rfl R _ (hA _) _ Tryz.underlying2 rfl (.int .i64 i) ((hR (c := 0) (by omega) (by omega)).trans (jn_ins i o ts ps)) ?_))
                exact ⟨⟨k + 1, _, by omega, by go_num, Lib.hid (by rw [rowsSTo_succ, hall.out, hrt]; rfl), rfl⟩, by simp [intOf]; omega⟩
              · rw [decide_eq_false hz] at hne
                have hr : okJ i o ts ps = false := okJ_rowS hlk (by rw [hrow.out, decide_eq_false hz, Bool.and_false])
                clear hz
                go_wp2_with (first | ((with_reducible refine is_load 2 _ rfl ?_); refine wpList_load_cell rfl 2 _ rfl _ _ rfl R _ (hA _) _ Tryz.underlying2 rfl (.int .i64 i) ((hR (c := 0) (by omega) (by omega)).trans (jn_ins i o ts ps)) ?_) | ((with_reducible refine is_load 26 _ rfl ?_); refine wpList_load_cell rfl 26 _ rfl _ _ rfl R _ (hA _) _ Tryz.underlying26 rfl (.float .f32 (nth ps k)) ((hR (c := k + 18) (by omega) (by omega)).trans (jn_prior hlt hlp i o hlk rfl)) ?_))
                refine (l01Amount_any (nth ps k) hpk _).mono ?_
                rw [hp]
                rintro e w5 ⟨rfl, n5, rfl⟩
                go_wp2_with (first | ((with_reducible refine is_load 26 _ rfl ?_); refine wpList_load_cell_g rfl 26 _ rfl _ _ rfl R _ (hA _) _ Tryz.underlying26 rfl (.float .f32 (nth ps k)) ((hR (c := k + 18) (by omega) (by omega)).trans (jn_prior hlt hlp i o hlk rfl)) ?_) | ((with_reducible refine is_load 2 _ rfl ?_); refine wpList_load_cell rfl 2 _ rfl _ _ rfl R _ (hA _) _ Tryz.underlying2 rfl (.int .i64 i) ((hR (c := 0) (by omega) (by omega)).trans (jn_ins i o ts ps)) ?_))
                go_ret
                exact ⟨by rw [hr]; rfl, _, rfl⟩
    · obtain rfl : k = 4 := by omega
      go_wp2
      go_ret
      exact ⟨by rw [hok.out, hall.out]; rfl, _, rfl⟩

end Go.Proofs.YtboahhipobcabaaGreat
