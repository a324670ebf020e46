/-
  SEVERAL TEXTS IN ONE.
-/
import Derived.Test.YtboahhipobcababToPlan
import Derived.Test.YtboahhipobcababG10

/-
  CONTRACTS: the cycle of a plan.
-/
namespace Go.Proofs.Ytboahhipobcabab
open Go Go.ChangeShapes Go.WideShapes Go.ChangeAt Go.RowKit
set_option maxRecDepth 100000

theorem isBetween_b (k : Int) (w : World) : Calls Try.prog 70 #[.int .i64 k] w (Rd (.bool (btw k)) w) := by
  by_cases h : 0 ≤ k
  · by_cases h2 : k ≤ 240
    · rw [show btw k = true from decide_eq_true ⟨h, h2⟩]
      go_enter Try.func70, Try.ntmps70
      go_wp2
      go_ret
      exact Rd.mk0
    · rw [show btw k = false from decide_eq_false (by omega)]
      go_enter Try.func70, Try.ntmps70
      go_wp2
      go_ret
      exact Rd.mk0
  · rw [show btw k = false from decide_eq_false (by omega)]
    go_enter Try.func70, Try.ntmps70
    go_wp2
    go_ret
    exact Rd.mk0

theorem mul_bnd {n : Nat} {b : Int} (hn : n ≤ 8) (hb : 0 ≤ b ∧ b ≤ 240) : 0 ≤ (n : Int) * b ∧ (n : Int) * b ≤ 1920 := by
  rcases (by omega : n = 0 ∨ n = 1 ∨ n = 2 ∨ n = 3 ∨ n = 4 ∨ n = 5 ∨ n = 6 ∨ n = 7 ∨ n = 8) with rfl | rfl | rfl | rfl | rfl | rfl | rfl | rfl | rfl <;> omega

theorem tks_small {xs : Slots} (hn : xs.length ≤ 8) (h : tkOk xs xs.length = true) {k : Nat} (hk : k ≤ xs.length) : 0 ≤ tks xs k ∧ tks xs k ≤ 1920 := by
  have := tks_bnd hk h
  omega

theorem cycleOf_any (G : Nat) (xs : Slots) (b o : Int) (hW : SlW xs) (T : TypeId) (hn : xs.length ≤ 8) (hb : 0 ≤ b ∧ b ≤ 240) (htk : tkOk xs xs.length = true) (w : World) (A0 : At w G (slC xs) T) :
    Calls Try.prog 104 #[.agg (plC (.slice (some ⟨G, 0, none⟩) xs.length xs.length) b o)] w fun e w' => e = .returned (.int .i64 (cyc xs b)) ∧ Below w.heap.size w w' := by
  have P0 := At.new w (plC (.slice (some ⟨G, 0, none⟩) xs.length xs.length) b o) 41
  have A1 := A0.alloc (.cells (plC (.slice (some ⟨G, 0, none⟩) xs.length xs.length) b o) 41)
  have B0 := Lib.hid (b0 w (.cells (plC (.slice (some ⟨G, 0, none⟩) xs.length xs.length) b o) 41))
  have HX := Lib.hid (And.intro hW (And.intro hn htk))
  have hm := mul_bnd hn hb
  obtain ⟨n, hnn⟩ : ∃ n, n = xs.length := ⟨_, rfl⟩
  have HN := Lib.hid hnn
  obtain ⟨m, hmm⟩ : ∃ m : Int, m = (n : Int) * b := ⟨_, rfl⟩
  have HM := Lib.hid hmm
  rw [← hnn] at hn hm P0 A1 B0 ⊢
  rw [← hmm] at hm
  have sm : IntKind.i64.wrap ((n : Int) * b) = m := by rw [← hmm]; exact IntWalk.i64_in _ (by omega)
  clear hnn hmm hW htk A0
  go_enter Try.func104, Try.ntmps104
  go_wp2_with (first | ((with_reducible refine is_load 39 _ rfl ?_); refine wpList_load_cell rfl 39 _ rfl _ 0 rfl ((plC (.slice (some ⟨G, 0, none⟩) n n) b o)) _ (by with_reducible assumption) _ Try.underlying39 rfl ((.slice (some ⟨G, 0, none⟩) n n)) (plC_0 _ _ _) ?_) | ((with_reducible refine is_load 2 _ rfl ?_); refine wpList_load_cell rfl 2 _ rfl _ 1 rfl ((plC (.slice (some ⟨G, 0, none⟩) n n) b o)) _ (by with_reducible assumption) _ Try.underlying2 rfl (.int .i64 b) (plC_1 _ _ _) ?_))
  go_loopw [3, 15] (fun c i wr => ∃ k : Nat, k ≤ n ∧ i = .int .i64 (k : Int) ∧ c = .int .i64 (m + tks xs k) ∧ At wr G (slC xs) T ∧ Hid (Below w.heap.size w wr)) (fun _ i _ => n - (intOf i).toNat)
  case atStart => exact ⟨0, by omega, rfl, by rw [show tks xs 0 = 0 from rfl, Int.add_zero], A1, B0⟩
  case round =>
    clear A1 B0 P0
    obtain ⟨k, hk, rfl, rfl, A1, B1⟩ := hrel
    by_cases hlt : k < n
    · have s2 : IntKind.i64.wrap ((k : Int) + 1) = (k : Int) + 1 := IntWalk.i64_in _ (by omega)
      have kd : (k : Int) < (n : Int) := by omega
      have hkl : k < xs.length := by rw [← HN.out]; exact hlt
      have hb8 := (HX.out.1.at hkl).1
      have t1 := tks_small HX.out.2.1 HX.out.2.2 (k := k) (by omega)
      have t2 := tkOk_at hkl HX.out.2.2
      have sa : IntKind.i64.wrap (m + tks xs k + st xs k) = m + tks xs (k + 1) := by rw [IntWalk.i64_in _ (by omega), Int.add_assoc]; rfl
      have SS := slC_size HX.out.1
      have hle : k * 9 + 9 ≤ (slC xs).size := by rw [SS]; omega
      have hsl := slC_slot HX.out.1 hkl (k := k * 9) rfl
      have S1 := sl1_size hb8 (st xs k)
      clear SS
      generalize sb xs k = bb at hb8 hsl S1
      have N0 := At.new wr #[.bool false, .bool false, .bool false, .bool false, .bool false, .bool false, .bool false, .bool false, .int .i64 0] 107
      have N1 := N0.setRow (sl1 bb (st xs k))
      have A2 := (A1.alloc (.cells #[.bool false, .bool false, .bool false, .bool false, .bool false, .bool false, .bool false, .bool false, .int .i64 0] 107)).setRow_other (k := wr.heap.size) (Nat.ne_of_lt A1.lt) (sl1 bb (st xs k))
      have B2 := Lib.hid (bset (bnew B1.out (.cells #[.bool false, .bool false, .bool false, .bool false, .bool false, .bool false, .bool false, .bool false, .int .i64 0] 107)) (g := wr.heap.size) B1.out.size (sl1 bb (st xs k)))
      clear B1
      go_wp2_with (first | ((with_reducible refine is_load 107 _ rfl ?_); refine wpList_load_part rfl 107 _ rfl _ (k * 9) rfl (slC xs) _ (by with_reducible assumption) 9 (hle) _ Try.underlying107 rfl (by kernel_rfl) (sl1 bb (st xs k)) (hsl) ?_) | ((with_reducible refine is_store 107 _ _ rfl ?_); refine wpList_store_at rfl 107 _ _ rfl _ rfl (sl1 bb (st xs k)) rfl (#[.bool false, .bool false, .bool false, .bool false, .bool false, .bool false, .bool false, .bool false, .int .i64 0]) _ (by with_reducible assumption) 9 (S1) (rfl) (by kernel_rfl) (sl1_one _ _) ?_) | ((with_reducible refine is_load 2 _ rfl ?_); refine wpList_load_cell rfl 2 _ rfl _ 8 rfl (sl1 bb (st xs k)) _ (by with_reducible assumption) _ Try.underlying2 rfl (.int .i64 (st xs k)) (sl1_ticks hb8 _) ?_))
      exact ⟨⟨k + 1, by omega, by go_num, rfl, A2, B2⟩, by simp [intOf]; omega⟩
    · obtain rfl : n = k := by omega
      have ev : cyc xs b = m + tks xs n := by rw [HM.out, HN.out]; rfl
      go_wp2
      go_ret
      exact ⟨by rw [ev]; rfl, B1.out⟩

end Go.Proofs.Ytboahhipobcabab

/-
  CONTRACTS: valid plans, as the model asks it.
-/
namespace Go.Proofs.Ytboahhipobcabab
open Go Go.ChangeShapes Go.WideShapes Go.ChangeAt Go.RowKit
set_option maxRecDepth 100000

/-- has a plan a right cycle? -/
def cOk (xs : Slots) (b : Int) : Bool := btw b && (tkOk xs xs.length && decide (cyc xs b ≤ 240))
/-- what the model's cycle is -/
def CycS (xs : Slots) (b s : Int) : Prop := (cOk xs b = true → s = cyc xs b) ∧ (cOk xs b = false → 240 < s) ∧ 0 ≤ s ∧ s ≤ 1000
theorem cOk_btw {xs : Slots} {b : Int} (h : btw b = false) : cOk xs b = false := by unfold cOk; rw [h]; rfl
theorem cOk_tk {xs : Slots} {b : Int} {k : Nat} (hk : k < xs.length) (h : tkOne (st xs k) = false) : cOk xs b = false := by unfold cOk; rw [tkOk_no hk h]; simp
theorem tks_mono {xs : Slots} : ∀ {n m : Nat}, m ≤ n → tkOk xs n = true → tks xs m ≤ tks xs n
  | 0, m, hm, _ => by obtain rfl : m = 0 := by omega
                      exact Int.le_refl _
  | n + 1, m, hm, h => by
    by_cases c : m = n + 1
    · subst c; exact Int.le_refl _
    · have h1 := tkOk_at (k := n) (by omega) h
      have h2 : tkOk xs n = true := by unfold tkOk at h; rw [Bool.and_eq_true] at h; exact h.1
      have := tks_mono (m := m) (n := n) (by omega) h2
      show _ ≤ tks xs n + st xs n
      omega
theorem mul_mono {n m : Nat} {b : Int} (h : m ≤ n) (hb : 0 ≤ b) : (m : Int) * b ≤ (n : Int) * b := Int.mul_le_mul_of_nonneg_right (by omega) hb
theorem cOk_big {xs : Slots} {b s : Int} {k : Nat} (hk : k ≤ xs.length) (hb : btw b = true) (hs : s = (k : Int) * b + tks xs k) (h : 240 < s) : cOk xs b = false := by
  have hb' : 0 ≤ b ∧ b ≤ 240 := by simpa [btw] using hb
  cases h2 : tkOk xs xs.length
  · unfold cOk; rw [h2]; simp
  · have h3 := tks_mono hk h2
    have h4 := mul_mono (b := b) hk hb'.1
    unfold cOk
    rw [hb, h2]
    have h5 : 240 < cyc xs b := by unfold cyc; omega
    rw [decide_eq_false (by omega)]; rfl
theorem cOk_end {xs : Slots} {b s : Int} (hb : btw b = true) (ht : tkOk xs xs.length = true) (hs : s = (xs.length : Int) * b + tks xs xs.length) (h : s ≤ 240) : cOk xs b = true ∧ s = cyc xs b := by
  have e : s = cyc xs b := hs
  refine ⟨?_, e⟩
  unfold cOk; rw [hb, ht, decide_eq_true (by omega)]; rfl

set_option maxHeartbeats 400000 in
theorem l04Cycle_any (g : Nat) (T' : TypeId) (G : Nat) (xs : Slots) (b o : Int) (hW : SlW xs) (T : TypeId) (h1 : 1 ≤ xs.length) (hn : xs.length ≤ 8) (w : World) (P0 : At w g (plC (.slice (some ⟨G, 0, none⟩) xs.length xs.length) b o) T') (A0 : At w G (slC xs) T) :
    Calls Try.prog 55 #[.pointer (some ⟨g, 0, none⟩)] w fun e w' => ∃ s, e = .returned (.int .i64 s) ∧ CycS xs b s ∧ Below w.heap.size w w' := by
  have HX := Lib.hid (And.intro hW h1)
  have B0 := Lib.hid (Below.refl w.heap.size w)
  obtain ⟨n, hnn⟩ : ∃ n, n = xs.length := ⟨_, rfl⟩
  have HN := Lib.hid hnn
  rw [← hnn] at hn P0
  clear hnn hW h1
  go_enter Try.func55, Try.ntmps55
  go_wp2
  go_loopw [3, 4] (fun c i wr => ∃ (k : Nat) (m : Int), k ≤ n ∧ i = .int .i64 (k : Int) ∧ c = .int .i64 m ∧ Hid (m = (k : Int) * b + tks xs k) ∧ (0 ≤ m ∧ m ≤ 240) ∧ Hid (tkOk xs k = true ∧ (k = 0 ∨ btw b = true)) ∧ At wr g (plC (.slice (some ⟨G, 0, none⟩) n n) b o) T' ∧ At wr G (slC xs) T ∧ Hid (Below w.heap.size w wr)) (fun _ i _ => n - (intOf i).toNat)
  case atStart => exact ⟨0, 0, by omega, rfl, rfl, Lib.hid (by simp [tks]), by omega, Lib.hid ⟨rfl, .inl rfl⟩, P0, A0, B0⟩
  case round =>
    clear P0 A0 B0
    obtain ⟨k, m, hk, rfl, rfl, hm, hmr, hT, P1, A1, B1⟩ := hrel
    have c0 : wr.cell? ⟨g, 0, none⟩ = some (.slice (some ⟨G, 0, none⟩) n n) := P1.cell (plC_0 _ _ _)
    by_cases hlt : k < n
    · have s2 : IntKind.i64.wrap ((k : Int) + 1) = (k : Int) + 1 := IntWalk.i64_in _ (by omega)
      have kd : (k : Int) < (n : Int) := by omega
      have hkl : k < xs.length := by rw [← HN.out]; exact hlt
      have ct : wr.cell? ⟨G, k * 9 + 8, none⟩ = some (.int .i64 (st xs k)) := A1.cell (slC_ticks HX.out.1 hkl rfl)
      have c1 : wr.cell? ⟨g, 1, none⟩ = some (.int .i64 b) := P1.cell (plC_1 _ _ _)
      have KT := l00In_b (st xs k) 1 240 wr
      cases ht : tkOne (st xs k)
      · rw [show inB 1 240 (st xs k) = false from ht] at KT
        have hno := Lib.hid (cOk_tk (b := b) hkl ht)
        clear ht
        go_wp2_with fail
        refine KT.mono ?_
        rintro e w1 ⟨rfl, n1, rfl⟩
        go_wp2_with fail
        go_ret
        exact ⟨_, rfl, ⟨fun h => (by rw [hno.out] at h; cases h), fun _ => by omega, by omega, by omega⟩, bdrew B1.out _⟩
      · rw [show inB 1 240 (st xs k) = true from ht] at KT
        have htr : 1 ≤ st xs k ∧ st xs k ≤ 240 := by simpa [tkOne] using ht
        have hTn := Lib.hid (tkOk_next hT.out.1 ht)
        clear ht
        go_wp2_with fail
        refine KT.mono ?_
        rintro e w1 ⟨rfl, n1, rfl⟩
        clear KT
        have KB := l00In_b b 0 240 (wr.drewN n1)
        have c1' : (wr.drewN n1).cell? ⟨g, 1, none⟩ = some (.int .i64 b) := c1
        cases hb : btw b
        · rw [show inB 0 240 b = false from hb] at KB
          have hno := Lib.hid (cOk_btw (xs := xs) hb)
          clear hb
          go_wp2_with fail
          refine KB.mono ?_
          rintro e w2 ⟨rfl, n2, rfl⟩
          go_wp2_with fail
          go_ret
          exact ⟨_, rfl, ⟨fun h => (by rw [hno.out] at h; cases h), fun _ => by omega, by omega, by omega⟩, bdrew B1.out _⟩
        · rw [show inB 0 240 b = true from hb] at KB
          have hbr : 0 ≤ b ∧ b ≤ 240 := by simpa [btw] using hb
          have HB := Lib.hid hb
          clear hb
          go_wp2_with fail
          refine KB.mono ?_
          rintro e w2 ⟨rfl, n2, rfl⟩
          clear KB c1'
          have P2 := (P1.drewN n1).drewN n2
          have A2 := (A1.drewN n1).drewN n2
          have B2 := Lib.hid (bdrew (bdrew B1.out n1) n2)
          generalize hw2 : (wr.drewN n1).drewN n2 = w2 at P2 A2 B2 ⊢
          clear hw2 c0 c1 ct P1 A1 B1
          have c0 : w2.cell? ⟨g, 0, none⟩ = some (.slice (some ⟨G, 0, none⟩) n n) := P2.cell (plC_0 _ _ _)
          have c1 : w2.cell? ⟨g, 1, none⟩ = some (.int .i64 b) := P2.cell (plC_1 _ _ _)
          have ct : w2.cell? ⟨G, k * 9 + 8, none⟩ = some (.int .i64 (st xs k)) := A2.cell (slC_ticks HX.out.1 hkl rfl)
          have sa : IntKind.i64.wrap (st xs k + b) = st xs k + b := IntWalk.i64_in _ (by omega)
          have sb : IntKind.i64.wrap (m + (st xs k + b)) = m + (st xs k + b) := IntWalk.i64_in _ (by omega)
          have hm2 := Lib.hid (show m + (st xs k + b) = ((k + 1 : Nat) : Int) * b + tks xs (k + 1) from by
            rw [hm.out, show tks xs (k + 1) = tks xs k + st xs k from rfl, show ((k + 1 : Nat) : Int) * b = (k : Int) * b + b from by rw [Int.natCast_add, Int.add_mul]; simp]; omega)
          have hmr2 : 0 ≤ m + (st xs k + b) ∧ m + (st xs k + b) ≤ 1000 := by omega
          by_cases hbig : 240 < m + (st xs k + b)
          · have hno := Lib.hid (cOk_big (k := k + 1) (by omega) HB.out hm2.out hbig)
            go_wp2
            go_quiet (fail)
            go_wp2
            go_ret
            exact ⟨_, rfl, ⟨fun h => (by rw [hno.out] at h; cases h), fun _ => hbig, hmr2.1, hmr2.2⟩, bdrew B2.out _⟩
          · go_wp2
            go_quiet (fail)
            go_wp2
            exact ⟨⟨k + 1, m + (st xs k + b), by omega, by go_num, rfl, hm2, by omega, Lib.hid ⟨hTn.out, .inr HB.out⟩, P2.drewN _, A2.drewN _, Lib.hid (bdrew B2.out _)⟩, by simp [intOf]; omega⟩
    · obtain rfl : n = k := by omega
      have hend : cOk xs b = true ∧ m = cyc xs b := by
        have h := hT.out
        have h3 := hm.out
        rw [HN.out] at h h3
        have hb : btw b = true := h.2.elim (fun h0 => by have := HX.out.2; omega) id
        exact cOk_end hb h.1 h3 hmr.2
      go_wp2
      go_ret
      exact ⟨_, rfl, ⟨fun _ => hend.2, fun h => (by rw [hend.1] at h; cases h), by omega, by omega⟩, B1.out⟩

end Go.Proofs.Ytboahhipobcabab

/-
  CONTRACTS: valid plans, as the model asks it.
-/
namespace Go.Proofs.Ytboahhipobcabab
open Go Go.ChangeShapes Go.WideShapes Go.ChangeAt Go.RowKit
set_option maxRecDepth 100000

theorem okP_cOk {xs : Slots} {b o : Int} (h : lenOk xs = true) : okP xs b o = (cOk xs b && decide (0 ≤ o ∧ o < cyc xs b)) := by
  unfold okP cOk; rw [h]; cases btw b <;> cases tkOk xs xs.length <;> simp

theorem lenOk_in (xs : Slots) : inB 1 8 ((xs.length : Nat) : Int) = lenOk xs := by unfold inB lenOk; exact decide_eq_decide.2 (by omega)

theorem l04Ok_any (g : Nat) (T' : TypeId) (G : Nat) (xs : Slots) (b o : Int) (hW : SlW xs) (T : TypeId) (w : World) (P0 : At w g (plC (.slice (some ⟨G, 0, none⟩) xs.length xs.length) b o) T') (A0 : At w G (slC xs) T) :
    Calls Try.prog 97 #[.pointer (some ⟨g, 0, none⟩)] w fun e w' => e = .returned (.bool (okP xs b o)) ∧ Below w.heap.size w w' := by
  have KL := l00In_b ((xs.length : Nat) : Int) 1 8 w
  rw [lenOk_in] at KL
  have c0 : w.cell? ⟨g, 0, none⟩ = some (.slice (some ⟨G, 0, none⟩) xs.length xs.length) := P0.cell (plC_0 _ _ _)
  cases hl : lenOk xs
  · rw [hl] at KL
    have hno := Lib.hid (okP_len (b := b) (o := o) hl)
    generalize xs.length = n at c0 KL
    clear P0 A0
    go_enter Try.func97, Try.ntmps97
    go_wp2_with fail
    refine KL.mono ?_
    rintro e w1 ⟨rfl, n1, rfl⟩
    go_wp2_with fail
    go_ret
    exact ⟨by rw [hno.out]; rfl, bdrew (Below.refl _ _) _⟩
  · rw [hl] at KL
    have hlr : 1 ≤ xs.length ∧ xs.length ≤ 8 := by simpa [lenOk] using hl
    have hyes := Lib.hid (okP_cOk (b := b) (o := o) hl)
    have KC := fun n1 => l04Cycle_any g T' G xs b o hW T hlr.1 hlr.2 (w.drewN n1) (P0.drewN n1) (A0.drewN n1)
    have HP := Lib.hid P0
    generalize hnn : xs.length = n at c0 KL P0
    clear P0 A0 hlr hl
    go_enter Try.func97, Try.ntmps97
    go_wp2_with fail
    refine KL.mono ?_
    rintro e w1 ⟨rfl, n1, rfl⟩
    have B1 := Lib.hid (bdrew (Below.refl w.heap.size w) n1)
    go_wp2_with fail
    refine (KC n1).mono ?_
    rintro e w2 ⟨s, rfl, ⟨hs1, hs2, hs3⟩, hb2⟩
    have P2 := (HP.out.drewN n1).step hb2
    have B2 := Lib.hid (bthen B1.out hb2)
    clear KC HP B1 hb2 c0 KL
    have c2 : w2.cell? ⟨g, 2, none⟩ = some (.int .i64 o) := P2.cell (plC_2 _ _ _)
    clear P2
    cases hc : cOk xs b
    · rw [hc] at hyes
      have h240 := hs2 hc
      clear hs1 hs2 hc
      go_wp2
      go_ret
      exact ⟨by rw [hyes.out]; rfl, B2.out⟩
    · rw [hc] at hyes
      obtain rfl := hs1 hc
      have h240 : cyc xs b ≤ 240 := by
        unfold cOk at hc
        simp only [Bool.and_eq_true, decide_eq_true_eq] at hc
        exact hc.2.2
      clear hs1 hs2 hc
      have KI := l00In_b o 0 (cyc xs b - 1) w2
      have he : inB 0 (cyc xs b - 1) o = decide (0 ≤ o ∧ o < cyc xs b) := by unfold inB; exact decide_eq_decide.2 (by omega)
      rw [he] at KI
      generalize decide (0 ≤ o ∧ o < cyc xs b) = dd at KI hyes
      clear he
      generalize cyc xs b = cc at *
      have sc : IntKind.i64.wrap (cc - 1) = cc - 1 := IntWalk.i64_in _ (by omega)
      go_wp2_with fail
      refine KI.mono ?_
      rintro e w3 ⟨rfl, n3, rfl⟩
      go_wp2_with fail
      go_ret
      exact ⟨by rw [hyes.out]; rfl, bdrew B2.out _⟩

end Go.Proofs.Ytboahhipobcabab
