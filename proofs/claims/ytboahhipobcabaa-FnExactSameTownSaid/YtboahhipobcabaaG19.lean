/-
  SEVERAL TEXTS IN ONE.
-/
import Derived.Test.YtboahhipobcabaaG18
import Derived.Test.YtboahhipobcabaaPlTo
import Derived.Test.YtboahhipobcabaaG14

/-
  CONTRACTS: plans held against each other, as the model does it.
-/
namespace Go.Proofs.Ytboahhipobcabaa
open Go Go.ChangeShapes Go.WideShapes Go.ChangeAt Go.RowKit
set_option maxRecDepth 100000

set_option maxHeartbeats 1000000 in
theorem l04Same_any (g1 g2 : Nat) (T3 T4 : TypeId) (G1 G2 : Nat) (xs ys : Slots) (b o b' o' : Int) (hx : SlW xs) (hy : SlW ys) (h1 : xs.length ≤ 1048576) (T1 T2 : TypeId) (w : World) (X1 : At w g1 (plC (.slice (some ⟨G1, 0, none⟩) xs.length xs.length) b o) T3) (X2 : At w g2 (plC (.slice (some ⟨G2, 0, none⟩) ys.length ys.length) b' o') T4) (A1 : At w G1 (slC xs) T1) (A2 : At w G2 (slC ys) T2) :
    Calls Try.prog 64 #[.pointer (some ⟨g1, 0, none⟩), .pointer (some ⟨g2, 0, none⟩)] w fun e w' => e = .returned ((.bool (vSame xs ys b o b' o'))) ∧ Below w.heap.size w w' := by
  have B0 := Lib.hid (Below.refl w.heap.size w)
  by_cases hl : xs.length = ys.length
  · have HX := Lib.hid (And.intro hx hy)
    obtain ⟨n, hnn⟩ : ∃ n, n = xs.length := ⟨_, rfl⟩
    have HN := Lib.hid (And.intro hnn (hnn.trans hl))
    rw [← hnn] at h1 X1
    rw [← hl, ← hnn] at X2
    clear hnn hl hx hy
    have c1 : w.cell? ⟨g1, 0, none⟩ = some (.slice (some ⟨G1, 0, none⟩) n n) := X1.cell (plC_0 _ _ _)
    have c2 : w.cell? ⟨g2, 0, none⟩ = some (.slice (some ⟨G2, 0, none⟩) n n) := X2.cell (plC_0 _ _ _)
    go_enter Try.func64, Try.ntmps64
    go_wp2
    go_quiet (fail)
    have X3 := X1.drewN nq
    have X4 := X2.drewN nq
    have A3 := A1.drewN nq
    have A4 := A2.drewN nq
    have B1 := Lib.hid (bdrew B0.out nq)
    generalize hw1 : w.drewN nq = w1 at X3 X4 A3 A4 B1 ⊢
    clear hw1 X1 X2 A1 A2 B0 c1 c2
    go_wp2
    go_loopw [5] (fun i wr => ∃ k : Nat, k ≤ n ∧ i = .int .i64 (k : Int) ∧ Hid (∀ j, j < k → sb xs j = sb ys j ∧ st xs j = st ys j) ∧ At wr g1 (plC (.slice (some ⟨G1, 0, none⟩) n n) b o) T3 ∧ At wr g2 (plC (.slice (some ⟨G2, 0, none⟩) n n) b' o') T4 ∧ At wr G1 (slC xs) T1 ∧ At wr G2 (slC ys) T2 ∧ Hid (Below w.heap.size w wr)) (fun i _ => n - (intOf i).toNat)
    case atStart => exact ⟨0, by omega, rfl, Lib.hid (fun j hj => by omega), X3, X4, A3, A4, B1⟩
    case round =>
      clear X3 X4 A3 A4 B1
      obtain ⟨k, hk, rfl, hall, X1, X2, A1, A2, B1⟩ := hrel
      have c1 : wr.cell? ⟨g1, 0, none⟩ = some (.slice (some ⟨G1, 0, none⟩) n n) := X1.cell (plC_0 _ _ _)
      by_cases hlt : k < n
      · have s2 : IntKind.i64.wrap ((k : Int) + 1) = (k : Int) + 1 := IntWalk.i64_in _ (by omega)
        have kd : (k : Int) < (n : Int) := by omega
        have hkx : k < xs.length := by rw [← HN.out.1]; exact hlt
        have hky : k < ys.length := by rw [← HN.out.2]; exact hlt
        have bx := (HX.out.1.at hkx).1
        have by_ := (HX.out.2.at hky).1
        have SS1 := slC_size HX.out.1
        have SS2 := slC_size HX.out.2
        have hle1 : k * 9 + 9 ≤ (slC xs).size := by rw [SS1]; omega
        have hle2 : k * 9 + 9 ≤ (slC ys).size := by rw [SS2]; omega
        have hsl1 := slC_slot HX.out.1 hkx (k := k * 9) rfl
        have hsl2 := slC_slot HX.out.2 hky (k := k * 9) rfl
        have hneq := fun W => run_neq_slot W (sb xs k) (sb ys k) (st xs k) (st ys k) bx by_
        clear SS1 SS2
        have hC := Cb.const wr
        by_cases he : sb xs k = sb ys k ∧ st xs k = st ys k
        · simp only [decide_eq_true he, Bool.not_true] at hneq
          have HE := Lib.hid he
          clear he
          go_wp2
          refine wp_region_cb (by kernel_rfl) (by kernel_rfl) ?_
          repeat (first
            | go_big_quiet_skip
            | (go_big_quiet_want; first
              | (refine q_one 78 _ rfl _ Try.underlying78 rfl 0 rfl X1 _ (plC_0 _ _ _) ?_; go_simp; go_big_quiet_on)
              | (refine q_one 78 _ rfl _ Try.underlying78 rfl 0 rfl X2 _ (plC_0 _ _ _) ?_; go_simp; go_big_quiet_on)
              | (refine q_part 143 _ rfl (k * 9) rfl A1 9 hle1 _ Try.underlying143 rfl (by kernel_rfl) (sl1 (sb xs k) (st xs k)) hsl1 ?_; go_simp; go_big_quiet_on)
              | (refine q_part 143 _ rfl (k * 9) rfl A2 9 hle2 _ Try.underlying143 rfl (by kernel_rfl) (sl1 (sb ys k) (st ys k)) hsl2 ?_; go_simp; go_big_quiet_on)
              | (refine q_neq 143 _ _ rfl (sl1 (sb xs k) (st xs k)) (sl1 (sb ys k) (st ys k)) rfl rfl (by kernel_rfl) _ hneq ?_; go_simp; go_big_quiet_on)
              | (go_big_quiet_op; go_big_quiet_on)))
          refine wpQuiet_nil ?_
          intro w2 hw2
          have X3 := X1.step hw2
          have X4 := X2.step hw2
          have A3 := A1.step hw2
          have A4 := A2.step hw2
          have B2 := Lib.hid (bthen B1.out hw2)
          clear A1 A2 B1 hw2 hC X1 X2 c1
          go_wp2
          exact ⟨⟨k + 1, by omega, by go_num, Lib.hid (fun j hj => by
            by_cases c : j = k
            · subst c; exact HE.out
            · exact hall.out j (by omega)), X3, X4, A3, A4, B2⟩, by simp [intOf]; omega⟩
        · simp only [decide_eq_false he, Bool.not_false] at hneq
          have hno : vSame xs ys b o b' o' = false := by unfold vSame; rw [decide_eq_false (fun e => he (by rw [e]; exact ⟨rfl, rfl⟩) : ¬ xs = ys)]; simp
          go_wp2
          refine wp_region_cb (by kernel_rfl) (by kernel_rfl) ?_
          repeat (first
            | go_big_quiet_skip
            | (go_big_quiet_want; first
              | (refine q_one 78 _ rfl _ Try.underlying78 rfl 0 rfl X1 _ (plC_0 _ _ _) ?_; go_simp; go_big_quiet_on)
              | (refine q_one 78 _ rfl _ Try.underlying78 rfl 0 rfl X2 _ (plC_0 _ _ _) ?_; go_simp; go_big_quiet_on)
              | (refine q_part 143 _ rfl (k * 9) rfl A1 9 hle1 _ Try.underlying143 rfl (by kernel_rfl) (sl1 (sb xs k) (st xs k)) hsl1 ?_; go_simp; go_big_quiet_on)
              | (refine q_part 143 _ rfl (k * 9) rfl A2 9 hle2 _ Try.underlying143 rfl (by kernel_rfl) (sl1 (sb ys k) (st ys k)) hsl2 ?_; go_simp; go_big_quiet_on)
              | (refine q_neq 143 _ _ rfl (sl1 (sb xs k) (st xs k)) (sl1 (sb ys k) (st ys k)) rfl rfl (by kernel_rfl) _ hneq ?_; go_simp; go_big_quiet_on)
              | (go_big_quiet_op; go_big_quiet_on)))
          refine wpQuiet_nil ?_
          intro w2 hw2
          go_wp2
          go_ret
          exact ⟨by rw [hno]; rfl, bthen B1.out hw2⟩
      · obtain rfl : n = k := by omega
        have hyes : decide (xs = ys) = true := decide_eq_true (slots_ext (HN.out.1.symm.trans HN.out.2) (fun j hj => hall.out j (by rw [HN.out.1]; exact hj)))
        have c11 : wr.cell? ⟨g1, 1, none⟩ = some (.int .i64 b) := X1.cell (plC_1 _ _ _)
        have c12 : wr.cell? ⟨g1, 2, none⟩ = some (.int .i64 o) := X1.cell (plC_2 _ _ _)
        have c21 : wr.cell? ⟨g2, 1, none⟩ = some (.int .i64 b') := X2.cell (plC_1 _ _ _)
        have c22 : wr.cell? ⟨g2, 2, none⟩ = some (.int .i64 o') := X2.cell (plC_2 _ _ _)
        by_cases hb : b = b'
        · have ev : vSame xs ys b o b' o' = (o == o') := by
            unfold vSame; rw [decide_eq_true hb, hyes]
            by_cases c : o = o' <;> simp [c]
          subst hb
          generalize hoo : (o == o') = oo at ev
          go_wp2
          go_quiet (fail)
          go_wp2
          go_ret
          exact ⟨by rw [ev]; rfl, bdrew B1.out _⟩
        · have ev : vSame xs ys b o b' o' = false := by unfold vSame; rw [decide_eq_false hb]; rfl
          have hd : (b == b') = false := by simpa using hb
          go_wp2
          go_quiet (fail)
          go_wp2
          go_ret
          exact ⟨by rw [ev]; rfl, bdrew B1.out _⟩
  · have ev : vSame xs ys b o b' o' = false := by unfold vSame; rw [decide_eq_false (fun e => hl (by rw [e]) : ¬ xs = ys)]; simp
    generalize xs.length = n at hl X1
    generalize ys.length = m at hl X2
    have hne : ¬ (n : Int) = (m : Int) := by omega
    have c1 : w.cell? ⟨g1, 0, none⟩ = some (.slice (some ⟨G1, 0, none⟩) n n) := X1.cell (plC_0 _ _ _)
    have c2 : w.cell? ⟨g2, 0, none⟩ = some (.slice (some ⟨G2, 0, none⟩) m m) := X2.cell (plC_0 _ _ _)
    rw [ev]
    go_enter Try.func64, Try.ntmps64
    go_wp2
    go_quiet (fail)
    go_wp2
    go_ret
    exact ⟨rfl, bdrew B0.out _⟩

end Go.Proofs.Ytboahhipobcabaa

/-
  CONTRACTS: plans at an address within a block: cycles, and which are valid, as the model asks it.
-/
namespace Go.Proofs.Ytboahhipobcabaa
open Go Go.ChangeShapes Go.WideShapes Go.ChangeAt Go.RowKit
set_option maxRecDepth 100000

/-- the cells of a plan at an address -/
structure PlAt (w : World) (g off : Nat) (s : Value) (b o : Int) : Prop where
  c0 : w.cell? ⟨g, off, none⟩ = some s
  c1 : w.cell? ⟨g, off + 1, none⟩ = some (.int .i64 b)
  c2 : w.cell? ⟨g, off + 2, none⟩ = some (.int .i64 o)
  lt : g < w.heap.size
theorem PlAt.step {w w' : World} {g off : Nat} {s : Value} {b o : Int} (h : PlAt w g off s b o) (hb : Below w.heap.size w w') : PlAt w' g off s b o := by
  have e : ∀ k, w'.cell? ⟨g, k, none⟩ = w.cell? ⟨g, k, none⟩ := fun k => by
    unfold World.cell?
    rw [hb.block g h.lt]
  exact ⟨(e _).trans h.c0, (e _).trans h.c1, (e _).trans h.c2, Nat.lt_of_lt_of_le h.lt hb.size⟩
theorem PlAt.drewN {w : World} {g off : Nat} {s : Value} {b o : Int} (h : PlAt w g off s b o) (n : Nat) : PlAt (w.drewN n) g off s b o := ⟨h.c0, h.c1, h.c2, h.lt⟩
theorem PlAt.of_row {w : World} {G k n : Nat} {gs : Nat → Nat} {ps : Ps} {T : TypeId} (hA : At w G (pvC (pvs gs ps n n)) T) (hk : k < n) : PlAt w G (k * 3) (.slice (some ⟨gs k, 0, none⟩) (pS ps k).length (pS ps k).length) (pB ps k) (pO ps k) := by
  have e : ∀ j, j < 3 → w.cell? ⟨G, k * 3 + j, none⟩ = (plC (.slice (some ⟨gs k, 0, none⟩) (pS ps k).length (pS ps k).length) (pB ps k) (pO ps k))[j]? := fun j hj => by
    rw [cell_of_row _ _ _ _ _ _ hA]
    exact pvC_get (by rw [pvs_len]; exact hk) hj (pvs_at hk hk)
  exact ⟨e 0 (by omega), e 1 (by omega), e 2 (by omega), hA.lt⟩

set_option maxHeartbeats 400000 in
theorem l04CycleO_any (g off : Nat) (G : Nat) (xs : Slots) (b o : Int) (hW : SlW xs) (T : TypeId) (h1 : 1 ≤ xs.length) (hn : xs.length ≤ 8) (w : World) (P0 : PlAt w g off (.slice (some ⟨G, 0, none⟩) xs.length xs.length) b o) (A0 : At w G (slC xs) T) :
    Calls Try.prog 117 #[.pointer (some ⟨g, off, none⟩)] w fun e w' => ∃ s, e = .returned (.int .i64 s) ∧ CycS xs b s ∧ Below w.heap.size w w' := by
  have HX := Lib.hid (And.intro hW h1)
  have B0 := Lib.hid (Below.refl w.heap.size w)
  obtain ⟨n, hnn⟩ : ∃ n, n = xs.length := ⟨_, rfl⟩
  have HN := Lib.hid hnn
  rw [← hnn] at hn P0
  clear hnn hW h1
  go_enter Try.func117, Try.ntmps117
  go_wp2
  go_loopw [3, 4] (fun c i wr => ∃ (k : Nat) (m : Int), k ≤ n ∧ i = .int .i64 (k : Int) ∧ c = .int .i64 m ∧ Hid (m = (k : Int) * b + tks xs k) ∧ (0 ≤ m ∧ m ≤ 240) ∧ Hid (tkOk xs k = true ∧ (k = 0 ∨ btw b = true)) ∧ PlAt wr g off (.slice (some ⟨G, 0, none⟩) n n) b o ∧ At wr G (slC xs) T ∧ Hid (Below w.heap.size w wr)) (fun _ i _ => n - (intOf i).toNat)
  case atStart => exact ⟨0, 0, by omega, rfl, rfl, Lib.hid (by simp [tks]), by omega, Lib.hid ⟨rfl, .inl rfl⟩, P0, A0, B0⟩
  case round =>
    clear P0 A0 B0
    obtain ⟨k, m, hk, rfl, rfl, hm, hmr, hT, P1, A1, B1⟩ := hrel
    have c0 : wr.cell? ⟨g, off, none⟩ = some (.slice (some ⟨G, 0, none⟩) n n) := P1.c0
    by_cases hlt : k < n
    · have s2 : IntKind.i64.wrap ((k : Int) + 1) = (k : Int) + 1 := IntWalk.i64_in _ (by omega)
      have kd : (k : Int) < (n : Int) := by omega
      have hkl : k < xs.length := by rw [← HN.out]; exact hlt
      have ct : wr.cell? ⟨G, k * 9 + 8, none⟩ = some (.int .i64 (st xs k)) := A1.cell (slC_ticks HX.out.1 hkl rfl)
      have c1 : wr.cell? ⟨g, off + 1, none⟩ = some (.int .i64 b) := P1.c1
      have KT := l00In_b (st xs k) 1 240 wr
      cases ht : tkOne (st xs k)
      · rw [show inB 1 240 (st xs k) = false from ht] at KT
        have hno := Lib.hid (cOk_tk (b := b) hkl ht)
        clear ht
        go_wp2_with fail
        refine KT.mono ?_
        rintro e w1 ⟨rfl, n1, rfl⟩
        go_wp2_with fail
        go_ret
        exact ⟨_, rfl, ⟨fun h => (by rw [hno.out] at h; cases h), fun _ => by omega, by omega, by omega⟩, bdrew B1.out _⟩
      · rw [show inB 1 240 (st xs k) = true from ht] at KT
        have htr : 1 ≤ st xs k ∧ st xs k ≤ 240 := by simpa [tkOne] using ht
        have hTn := Lib.hid (tkOk_next hT.out.1 ht)
        clear ht
        go_wp2_with fail
        refine KT.mono ?_
        rintro e w1 ⟨rfl, n1, rfl⟩
        clear KT
        have KB := l00In_b b 0 240 (wr.drewN n1)
        have c1' : (wr.drewN n1).cell? ⟨g, off + 1, none⟩ = some (.int .i64 b) := c1
        cases hb : btw b
        · rw [show inB 0 240 b = false from hb] at KB
          have hno := Lib.hid (cOk_btw (xs := xs) hb)
          clear hb
          go_wp2_with fail
          refine KB.mono ?_
          rintro e w2 ⟨rfl, n2, rfl⟩
          go_wp2_with fail
          go_ret
          exact ⟨_, rfl, ⟨fun h => (by rw [hno.out] at h; cases h), fun _ => by omega, by omega, by omega⟩, bdrew B1.out _⟩
        · rw [show inB 0 240 b = true from hb] at KB
          have hbr : 0 ≤ b ∧ b ≤ 240 := by simpa [btw] using hb
          have HB := Lib.hid hb
          clear hb
          go_wp2_with fail
          refine KB.mono ?_
          rintro e w2 ⟨rfl, n2, rfl⟩
          clear KB c1'
          have P2 := (P1.drewN n1).drewN n2
          have A2 := (A1.drewN n1).drewN n2
          have B2 := Lib.hid (bdrew (bdrew B1.out n1) n2)
          generalize hw2 : (wr.drewN n1).drewN n2 = w2 at P2 A2 B2 ⊢
          clear hw2 c0 c1 ct P1 A1 B1
          have c0 : w2.cell? ⟨g, off, none⟩ = some (.slice (some ⟨G, 0, none⟩) n n) := P2.c0
          have c1 : w2.cell? ⟨g, off + 1, none⟩ = some (.int .i64 b) := P2.c1
          have ct : w2.cell? ⟨G, k * 9 + 8, none⟩ = some (.int .i64 (st xs k)) := A2.cell (slC_ticks HX.out.1 hkl rfl)
          have sa : IntKind.i64.wrap (st xs k + b) = st xs k + b := IntWalk.i64_in _ (by omega)
          have sb : IntKind.i64.wrap (m + (st xs k + b)) = m + (st xs k + b) := IntWalk.i64_in _ (by omega)
          have hm2 := Lib.hid (show m + (st xs k + b) = ((k + 1 : Nat) : Int) * b + tks xs (k + 1) from by
            rw [hm.out, show tks xs (k + 1) = tks xs k + st xs k from rfl, show ((k + 1 : Nat) : Int) * b = (k : Int) * b + b from by rw [Int.natCast_add, Int.add_mul]; simp]; omega)
          have hmr2 : 0 ≤ m + (st xs k + b) ∧ m + (st xs k + b) ≤ 1000 := by omega
          by_cases hbig : 240 < m + (st xs k + b)
          · have hno := Lib.hid (cOk_big (k := k + 1) (by omega) HB.out hm2.out hbig)
            go_wp2
            go_quiet (fail)
            go_wp2
            go_ret
            exact ⟨_, rfl, ⟨fun h => (by rw [hno.out] at h; cases h), fun _ => hbig, hmr2.1, hmr2.2⟩, bdrew B2.out _⟩
          · go_wp2
            go_quiet (fail)
            go_wp2
            exact ⟨⟨k + 1, m + (st xs k + b), by omega, by go_num, rfl, hm2, by omega, Lib.hid ⟨hTn.out, .inr HB.out⟩, P2.drewN _, A2.drewN _, Lib.hid (bdrew B2.out _)⟩, by simp [intOf]; omega⟩
    · obtain rfl : n = k := by omega
      have hend : cOk xs b = true ∧ m = cyc xs b := by
        have h := hT.out
        have h3 := hm.out
        rw [HN.out] at h h3
        have hb : btw b = true := h.2.elim (fun h0 => by have := HX.out.2; omega) id
        exact cOk_end hb h.1 h3 hmr.2
      go_wp2
      go_ret
      exact ⟨_, rfl, ⟨fun _ => hend.2, fun h => (by rw [hend.1] at h; cases h), by omega, by omega⟩, B1.out⟩

theorem l04OkO_any (g off : Nat) (G : Nat) (xs : Slots) (b o : Int) (hW : SlW xs) (T : TypeId) (w : World) (P0 : PlAt w g off (.slice (some ⟨G, 0, none⟩) xs.length xs.length) b o) (A0 : At w G (slC xs) T) :
    Calls Try.prog 81 #[.pointer (some ⟨g, off, none⟩)] w fun e w' => e = .returned (.bool (okP xs b o)) ∧ Below w.heap.size w w' := by
  have KL := l00In_b ((xs.length : Nat) : Int) 1 8 w
  rw [lenOk_in] at KL
  have c0 : w.cell? ⟨g, off, none⟩ = some (.slice (some ⟨G, 0, none⟩) xs.length xs.length) := P0.c0
  cases hl : lenOk xs
  · rw [hl] at KL
    have hno := Lib.hid (okP_len (b := b) (o := o) hl)
    generalize xs.length = n at c0 KL
    clear P0 A0
    go_enter Try.func81, Try.ntmps81
    go_wp2_with fail
    refine KL.mono ?_
    rintro e w1 ⟨rfl, n1, rfl⟩
    go_wp2_with fail
    go_ret
    exact ⟨by rw [hno.out]; rfl, bdrew (Below.refl _ _) _⟩
  · rw [hl] at KL
    have hlr : 1 ≤ xs.length ∧ xs.length ≤ 8 := by simpa [lenOk] using hl
    have hyes := Lib.hid (okP_cOk (b := b) (o := o) hl)
    have KC := fun n1 => l04CycleO_any g off G xs b o hW T hlr.1 hlr.2 (w.drewN n1) (P0.drewN n1) (A0.drewN n1)
    have HP := Lib.hid P0
    generalize hnn : xs.length = n at c0 KL P0
    clear P0 A0 hlr hl
    go_enter Try.func81, Try.ntmps81
    go_wp2_with fail
    refine KL.mono ?_
    rintro e w1 ⟨rfl, n1, rfl⟩
    have B1 := Lib.hid (bdrew (Below.refl w.heap.size w) n1)
    go_wp2_with fail
    refine (KC n1).mono ?_
    rintro e w2 ⟨s, rfl, ⟨hs1, hs2, hs3⟩, hb2⟩
    have P2 := (HP.out.drewN n1).step hb2
    have B2 := Lib.hid (bthen B1.out hb2)
    clear KC HP B1 hb2 c0 KL
    have c2 : w2.cell? ⟨g, off + 2, none⟩ = some (.int .i64 o) := P2.c2
    clear P2
    cases hc : cOk xs b
    · rw [hc] at hyes
      have h240 := hs2 hc
      clear hs1 hs2 hc
      go_wp2
      go_ret
      exact ⟨by rw [hyes.out]; rfl, B2.out⟩
    · rw [hc] at hyes
      obtain rfl := hs1 hc
      have h240 : cyc xs b ≤ 240 := by
        unfold cOk at hc
        simp only [Bool.and_eq_true, decide_eq_true_eq] at hc
        exact hc.2.2
      clear hs1 hs2 hc
      have KI := l00In_b o 0 (cyc xs b - 1) w2
      have he : inB 0 (cyc xs b - 1) o = decide (0 ≤ o ∧ o < cyc xs b) := by unfold inB; exact decide_eq_decide.2 (by omega)
      rw [he] at KI
      generalize decide (0 ≤ o ∧ o < cyc xs b) = dd at KI hyes
      clear he
      generalize cyc xs b = cc at *
      have sc : IntKind.i64.wrap (cc - 1) = cc - 1 := IntWalk.i64_in _ (by omega)
      go_wp2_with fail
      refine KI.mono ?_
      rintro e w3 ⟨rfl, n3, rfl⟩
      go_wp2_with fail
      go_ret
      exact ⟨by rw [hyes.out]; rfl, bdrew B2.out _⟩

end Go.Proofs.Ytboahhipobcabaa
