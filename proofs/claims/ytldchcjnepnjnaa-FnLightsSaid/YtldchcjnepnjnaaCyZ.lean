/-
  CONTRACTS: the model's cycle and valid plans, at slots with a capacity.
-/
import Derived.Test.YtldchcjnepnjnaaCycZ
import Derived.Test.YtldchcjnepnjnaaVPlanS
namespace Go.Proofs.Ytldchcjnepnjnaa
open Go Go.ChangeShapes Go.WideShapes Go.ChangeAt Go.RowKit
set_option maxRecDepth 100000

theorem slY_ticks {xs : Slots} {zs : Array Value} (h : SlW xs) {i k : Nat} (hi : i < xs.length) (hk : k = i * 9 + 8) : (slY xs zs)[k]? = some (.int .i64 (st xs i)) := by
  unfold slY
  rw [Array.getElem?_append_left (by rw [slC_size h]; omega)]
  exact slC_ticks h hi hk

theorem slY_phase {xs : Slots} {zs : Array Value} (h : SlW xs) {i k : Nat} (hi : i < xs.length) (hk : k = i * 9) : (slY xs zs).extract k (k + 8) = bl (sb xs i) := by
  rw [← slC_phase h hi hk]
  subst hk
  have hs := slC_size h
  have hy := slY_size (xs := xs) (zs := zs) h
  apply Array.ext_getElem?
  intro j
  rw [Array.getElem?_extract, Array.getElem?_extract]
  by_cases c : j < 8
  · rw [if_pos (by omega), if_pos (by omega)]
    unfold slY
    rw [Array.getElem?_append_left (by omega)]
  · rw [if_neg (by omega), if_neg (by omega)]

set_option maxHeartbeats 400000 in
theorem l04CycleZ_any (cp : Nat) (zs : Array Value) (g : Nat) (T' : TypeId) (G : Nat) (xs : Slots) (b o : Int) (hW : SlW xs) (T : TypeId) (h1 : 1 ≤ xs.length) (hn : xs.length ≤ 8) (w : World) (P0 : At w g (plC (.slice (some ⟨G, 0, none⟩) xs.length cp) b o) T') (A0 : At w G (slY xs zs) T) :
    Calls Try.prog 25 #[.pointer (some ⟨g, 0, none⟩)] w fun e w' => ∃ s, e = .returned (.int .i64 s) ∧ CycS xs b s ∧ Below w.heap.size w w' := by
  have HX := Lib.hid (And.intro hW h1)
  have B0 := Lib.hid (Below.refl w.heap.size w)
  obtain ⟨n, hnn⟩ : ∃ n, n = xs.length := ⟨_, rfl⟩
  have HN := Lib.hid hnn
  rw [← hnn] at hn P0
  clear hnn hW h1
  go_enter Try.func25, Try.ntmps25
  go_wp2
  go_loopw [3, 4] (fun c i wr => ∃ (k : Nat) (m : Int), k ≤ n ∧ i = .int .i64 (k : Int) ∧ c = .int .i64 m ∧ Hid (m = (k : Int) * b + tks xs k) ∧ (0 ≤ m ∧ m ≤ 240) ∧ Hid (tkOk xs k = true ∧ (k = 0 ∨ btw b = true)) ∧ At wr g (plC (.slice (some ⟨G, 0, none⟩) n cp) b o) T' ∧ At wr G (slY xs zs) T ∧ Hid (Below w.heap.size w wr)) (fun _ i _ => n - (intOf i).toNat)
  case atStart => exact ⟨0, 0, by omega, rfl, rfl, Lib.hid (by simp [tks]), by omega, Lib.hid ⟨rfl, .inl rfl⟩, P0, A0, B0⟩
  case round =>
    clear P0 A0 B0
    obtain ⟨k, m, hk, rfl, rfl, hm, hmr, hT, P1, A1, B1⟩ := hrel
    have c0 : wr.cell? ⟨g, 0, none⟩ = some (.slice (some ⟨G, 0, none⟩) n cp) := P1.cell (plC_0 _ _ _)
    by_cases hlt : k < n
    · have s2 : IntKind.i64.wrap ((k : Int) + 1) = (k : Int) + 1 := IntWalk.i64_in _ (by omega)
      have kd : (k : Int) < (n : Int) := by omega
      have hkl : k < xs.length := by rw [← HN.out]; exact hlt
      have ct : wr.cell? ⟨G, k * 9 + 8, none⟩ = some (.int .i64 (st xs k)) := A1.cell (slY_ticks (zs := zs) HX.out.1 hkl rfl)
      have c1 : wr.cell? ⟨g, 1, none⟩ = some (.int .i64 b) := P1.cell (plC_1 _ _ _)
      have KT := l00In_b (st xs k) 1 240 wr
      cases ht : tkOne (st xs k)
      · rw [show inB 1 240 (st xs k) = false from ht] at KT
        have hno := Lib.hid (cOk_tk (b := b) hkl ht)
        clear ht
        go_wp2_with fail
        refine KT.mono ?_
        rintro e w1 ⟨rfl, n1, rfl⟩
        go_wp2_with fail
        go_ret
        exact ⟨_, rfl, ⟨fun h => (by rw [hno.out] at h; cases h), fun _ => by omega, by omega, by omega⟩, bdrew B1.out _⟩
      · rw [show inB 1 240 (st xs k) = true from ht] at KT
        have htr : 1 ≤ st xs k ∧ st xs k ≤ 240 := by simpa [tkOne] using ht
        have hTn := Lib.hid (tkOk_next hT.out.1 ht)
        clear ht
        go_wp2_with fail
        refine KT.mono ?_
        rintro e w1 ⟨rfl, n1, rfl⟩
        clear KT
        have KB := l00In_b b 0 240 (wr.drewN n1)
        have c1' : (wr.drewN n1).cell? ⟨g, 1, none⟩ = some (.int .i64 b) := c1
        cases hb : btw b
        · rw [show inB 0 240 b = false from hb] at KB
          have hno := Lib.hid (cOk_btw (xs := xs) hb)
          clear hb
          go_wp2_with fail
          refine KB.mono ?_
          rintro e w2 ⟨rfl, n2, rfl⟩
          go_wp2_with fail
          go_ret
          exact ⟨_, rfl, ⟨fun h => (by rw [hno.out] at h; cases h), fun _ => by omega, by omega, by omega⟩, bdrew B1.out _⟩
        · rw [show inB 0 240 b = true from hb] at KB
          have hbr : 0 ≤ b ∧ b ≤ 240 := by simpa [btw] using hb
          have HB := Lib.hid hb
          clear hb
          go_wp2_with fail
          refine KB.mono ?_
          rintro e w2 ⟨rfl, n2, rfl⟩
          clear KB c1'
          have P2 := (P1.drewN n1).drewN n2
          have A2 := (A1.drewN n1).drewN n2
          have B2 := Lib.hid (bdrew (bdrew B1.out n1) n2)
          generalize hw2 : (wr.drewN n1).drewN n2 = w2 at P2 A2 B2 ⊢
          clear hw2 c0 c1 ct P1 A1 B1
          have c0 : w2.cell? ⟨g, 0, none⟩ = some (.slice (some ⟨G, 0, none⟩) n cp) := P2.cell (plC_0 _ _ _)
          have c1 : w2.cell? ⟨g, 1, none⟩ = some (.int .i64 b) := P2.cell (plC_1 _ _ _)
          have ct : w2.cell? ⟨G, k * 9 + 8, none⟩ = some (.int .i64 (st xs k)) := A2.cell (slY_ticks (zs := zs) HX.out.1 hkl rfl)
          have sa : IntKind.i64.wrap (st xs k + b) = st xs k + b := IntWalk.i64_in _ (by omega)
          have sb : IntKind.i64.wrap (m + (st xs k + b)) = m + (st xs k + b) := IntWalk.i64_in _ (by omega)
          have hm2 := Lib.hid (show m + (st xs k + b) = ((k + 1 : Nat) : Int) * b + tks xs (k + 1) from by
            rw [hm.out, show tks xs (k + 1) = tks xs k + st xs k from rfl, show ((k + 1 : Nat) : Int) * b = (k : Int) * b + b from by rw [Int.natCast_add, Int.add_mul]; simp]; omega)
          have hmr2 : 0 ≤ m + (st xs k + b) ∧ m + (st xs k + b) ≤ 1000 := by omega
          by_cases hbig : 240 < m + (st xs k + b)
          · have hno := Lib.hid (cOk_big (k := k + 1) (by omega) HB.out hm2.out hbig)
            go_wp2
            go_quiet (fail)
            go_wp2
            go_ret
            exact ⟨_, rfl, ⟨fun h => (by rw [hno.out] at h; cases h), fun _ => hbig, hmr2.1, hmr2.2⟩, bdrew B2.out _⟩
          · go_wp2
            go_quiet (fail)
            go_wp2
            exact ⟨⟨k + 1, m + (st xs k + b), by omega, by go_num, rfl, hm2, by omega, Lib.hid ⟨hTn.out, .inr HB.out⟩, P2.drewN _, A2.drewN _, Lib.hid (bdrew B2.out _)⟩, by simp [intOf]; omega⟩
    · obtain rfl : n = k := by omega
      have hend : cOk xs b = true ∧ m = cyc xs b := by
        have h := hT.out
        have h3 := hm.out
        rw [HN.out] at h h3
        have hb : btw b = true := h.2.elim (fun h0 => by have := HX.out.2; omega) id
        exact cOk_end hb h.1 h3 hmr.2
      go_wp2
      go_ret
      exact ⟨_, rfl, ⟨fun _ => hend.2, fun h => (by rw [hend.1] at h; cases h), by omega, by omega⟩, B1.out⟩

theorem l04OkZ_any (cp : Nat) (zs : Array Value) (g : Nat) (T' : TypeId) (G : Nat) (xs : Slots) (b o : Int) (hW : SlW xs) (T : TypeId) (w : World) (P0 : At w g (plC (.slice (some ⟨G, 0, none⟩) xs.length cp) b o) T') (A0 : At w G (slY xs zs) T) :
    Calls Try.prog 33 #[.pointer (some ⟨g, 0, none⟩)] w fun e w' => e = .returned (.bool (okP xs b o)) ∧ Below w.heap.size w w' := by
  have KL := l00In_b ((xs.length : Nat) : Int) 1 8 w
  rw [lenOk_in] at KL
  have c0 : w.cell? ⟨g, 0, none⟩ = some (.slice (some ⟨G, 0, none⟩) xs.length cp) := P0.cell (plC_0 _ _ _)
  cases hl : lenOk xs
  · rw [hl] at KL
    have hno := Lib.hid (okP_len (b := b) (o := o) hl)
    generalize xs.length = n at c0 KL
    clear P0 A0
    go_enter Try.func33, Try.ntmps33
    go_wp2_with fail
    refine KL.mono ?_
    rintro e w1 ⟨rfl, n1, rfl⟩
    go_wp2_with fail
    go_ret
    exact ⟨by rw [hno.out]; rfl, bdrew (Below.refl _ _) _⟩
  · rw [hl] at KL
    have hlr : 1 ≤ xs.length ∧ xs.length ≤ 8 := by simpa [lenOk] using hl
    have hyes := Lib.hid (okP_cOk (b := b) (o := o) hl)
    have KC := fun n1 => l04CycleZ_any cp zs g T' G xs b o hW T hlr.1 hlr.2 (w.drewN n1) (P0.drewN n1) (A0.drewN n1)
    have HP := Lib.hid P0
    generalize hnn : xs.length = n at c0 KL P0
    clear P0 A0 hlr hl
    go_enter Try.func33, Try.ntmps33
    go_wp2_with fail
    refine KL.mono ?_
    rintro e w1 ⟨rfl, n1, rfl⟩
    have B1 := Lib.hid (bdrew (Below.refl w.heap.size w) n1)
    go_wp2_with fail
    refine (KC n1).mono ?_
    rintro e w2 ⟨s, rfl, ⟨hs1, hs2, hs3⟩, hb2⟩
    have P2 := (HP.out.drewN n1).step hb2
    have B2 := Lib.hid (bthen B1.out hb2)
    clear KC HP B1 hb2 c0 KL
    have c2 : w2.cell? ⟨g, 2, none⟩ = some (.int .i64 o) := P2.cell (plC_2 _ _ _)
    clear P2
    cases hc : cOk xs b
    · rw [hc] at hyes
      have h240 := hs2 hc
      clear hs1 hs2 hc
      go_wp2
      go_ret
      exact ⟨by rw [hyes.out]; rfl, B2.out⟩
    · rw [hc] at hyes
      obtain rfl := hs1 hc
      have h240 : cyc xs b ≤ 240 := by
        unfold cOk at hc
        simp only [Bool.and_eq_true, decide_eq_true_eq] at hc
        exact hc.2.2
      clear hs1 hs2 hc
      have KI := l00In_b o 0 (cyc xs b - 1) w2
      have he : inB 0 (cyc xs b - 1) o = decide (0 ≤ o ∧ o < cyc xs b) := by unfold inB; exact decide_eq_decide.2 (by omega)
      rw [he] at KI
      generalize decide (0 ≤ o ∧ o < cyc xs b) = dd at KI hyes
      clear he
      generalize cyc xs b = cc at *
      have sc : IntKind.i64.wrap (cc - 1) = cc - 1 := IntWalk.i64_in _ (by omega)
      go_wp2_with fail
      refine KI.mono ?_
      rintro e w3 ⟨rfl, n3, rfl⟩
      go_wp2_with fail
      go_ret
      exact ⟨by rw [hyes.out]; rfl, bdrew B2.out _⟩

end Go.Proofs.Ytldchcjnepnjnaa
