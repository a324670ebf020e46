/-
  CONTRACTS: a road, a number drawn from bytes: valid ones, whatever the bytes.
-/
import Derived.Test.YtcfoghckdloknaaDrawn
import Derived.Test.YtcfoghckdloknaaLawB
namespace Go.Proofs.Ytcfoghckdloknaa
open Go Go.RowKit
set_option maxRecDepth 100000

theorem P6Road_e (ad : Option Addr) (cp : Nat) (bs : List Nat) (w : World) (h : BSl w ad bs) :
    Calls Try.prog 5 #[.slice ad bs.length cp] w fun e w' => ∃ cs p b l, e = .returned (.agg (rd cs p b l)) ∧ cs.length = 16 ∧ okB cs p b l = true ∧ Below w.heap.size w w' := by
  have R0 := At.new w (rd (zeros 16) 0 0 0) 28
  have B0 := b0 w (.cells (rd (zeros 16) 0 0 0) 28)
  have h0 := h.step B0 (Nat.le_refl _)
  go_enter Try.func5, Try.ntmps5
  go_wp2_with fail
  refine (l00From_b ad cp bs _).mono ?_
  rintro e w1 ⟨rfl, B1, A1⟩
  have R1 := R0.step B1
  have D1 : Draws w (w.alloc (.cells (rd (zeros 16) 0 0 0) 28)).heap.size ad cp bs 0 w1 := ⟨h, B0.size, bthen B0 B1, ⟨0, 0, Nat.le_refl _, A1⟩⟩
  have hs1 : (w.alloc (.cells (rd (zeros 16) 0 0 0) 28)).heap.size = w.heap.size + 1 := by simp
  have BW := Lib.hid (bthen B0 B1)
  clear B0 B1 A1 R0 h0
  rw [hs1] at D1
  clear hs1
  go_wp2_with fail
  refine (drawn_e D1 (by omega)).mono ?_
  rintro e w2 ⟨cs, p, b, l, rfl, hcs, hok, B2⟩
  have R2 := (B2.block w.heap.size (by omega)).trans R1
  have R2' : At w2 w.heap.size (rd (zeros 16) 0 0 0) 28 := R2
  have R3 := R2'.setRow (rd cs p b l)
  have B3 := bset (BW.out.trans (B2.mono (by omega))) (g := w.heap.size) (Nat.le_refl _) (rd cs p b l)
  have h1c : (rd cs p b l).all (·.oneCell') = true := rd_one cs p b l
  go_wp2_with ((with_reducible refine is_store 28 (.tmp 2) (.tmp 5) rfl ?_); refine wpList_store_at rfl 28 (.tmp 2) (.tmp 5) rfl _ rfl (rd cs p b l) rfl (rd (zeros 16) 0 0 0) _ R2' 19 (rd_size hcs p b l) (rd_size (zeros_len 16) 0 0 0) (by kernel_rfl) h1c ?_)
  exact bodyPost_ret (v := .agg (rd cs p b l)) (results_at (p := 2) (ty := 28) rfl _ _ _ (rd cs p b l) _ rfl R3 _ Try.underlying28 rfl 19 (rd_size hcs p b l) (by kernel_rfl)) rfl ⟨cs, p, b, l, rfl, hcs, hok, B3⟩


theorem f6big_any (a : Option Addr) (n c : Nat) (hn : n ≤ maxLen) (w : World) : Calls Try.prog 4 #[.slice a n c] w fun e w' => e = .returned (.bool (decide (4096 < n))) ∧ w' = w := by
  have hm : n ≤ 9223372036854775807 := Nat.le_trans hn (by decide)
  by_cases h : 4096 < n
  · have h1 : (n : Int) > 4096 := by omega
    rw [decide_eq_true h]
    go_enter Try.func4, Try.ntmps4
    go_wp2
    go_ret
    exact ⟨rfl, rfl⟩
  · have h1 : ¬ (n : Int) > 4096 := by omega
    rw [decide_eq_false h]
    go_enter Try.func4, Try.ntmps4
    go_wp2
    go_ret
    exact ⟨rfl, rfl⟩

theorem from_draws {ad : Option Addr} {cp : Nat} {bs : List Nat} {w w1 : World} (hC : BSl w ad bs) (hb : Below w.heap.size w w1) (hA : At w1 w.heap.size (srcC ad bs.length cp 0 0) 73) : Draws w w.heap.size ad cp bs 0 w1 :=
  ⟨hC, Nat.le_refl _, hb, ⟨0, 0, Nat.le_refl _, hA⟩⟩

theorem P6Pick_e (ad : Option Addr) (cp : Nat) (bs : List Nat) (n : Nat) (h1 : 1 < n) (h2 : n ≤ 200) (w : World) (hC : BSl w ad bs) :
    Calls Try.prog 6 #[.slice ad bs.length cp, .int .i64 (n : Int)] w fun e w' => ∃ m : Nat, e = .returned (.int .i64 (m : Int)) ∧ m < n ∧ Below w.heap.size w w' := by
  have K := l00From_b ad cp bs w
  go_enter Try.func6, Try.ntmps6
  go_wp2_with fail
  refine K.mono ?_
  rintro e w1 ⟨rfl, hb1, A1⟩
  have D1 := from_draws hC hb1 A1
  clear K A1
  go_wp2_with fail
  refine (pick_e D1 (by omega) n h1 h2).mono ?_
  rintro e w2 ⟨m, rfl, hm, hO, hD⟩
  go_wp2_with fail
  go_ret
  exact ⟨m, rfl, hm, hD.below⟩

theorem pick_big {w0 w : World} {g : Nat} {ad : Option Addr} {cp : Nat} {bs : List Nat} {k : Nat} (h : Draws w0 g ad cp bs k w) (hk : k < 1000000) :
    Calls Try.prog 20 #[.pointer (some ⟨g, 0, none⟩), .int .i64 2000] w fun e w' => ∃ m : Nat, e = .returned (.int .i64 (m : Int)) ∧ m < 2000 ∧ Below w0.heap.size w0 w' := by
  obtain ⟨k', sd, hk', hA⟩ := h.src
  have h8 := h.c.lt
  obtain ⟨v0, v1⟩ := nextV_in h8 k' sd
  have K1 := next_b g ad cp k' bs sd w (by omega) h8 hA h.bsl
  go_enter Try.func20, Try.ntmps20
  go_wp2_with fail
  refine K1.mono ?_
  rintro e w1 ⟨rfl, B1, A1⟩
  clear K1
  have hb1 := h.below.trans (B1.below.mono h.lo)
  have hC1 : BSl w1 ad bs := h.c.step hb1 (Nat.le_refl _)
  obtain ⟨u0, u1⟩ := nextV_in h8 (k' + 1) (seedOf sd (byteAt bs k'))
  have K2 := next_b g ad cp (k' + 1) bs (seedOf sd (byteAt bs k')) w1 (by omega) h8 A1 hC1
  generalize nextV bs k' sd = x at v0 v1 ⊢
  generalize nextV bs (k' + 1) (seedOf sd (byteAt bs k')) = y at u0 u1 K2
  have s1 : IntKind.i64.wrap (x * 256) = x * 256 := IntWalk.i64_in _ (by omega)
  have s2 : IntKind.i64.wrap (x * 256 + y) = x * 256 + y := IntWalk.i64_in _ (by omega)
  have hlo := h.lo
  clear A1 hC1 hA h8 hk'
  go_wp2_with fail
  refine K2.mono ?_
  rintro e w2 ⟨rfl, B2, A2⟩
  clear K2 A2
  have hb2 := Lib.hid (hb1.trans (B2.below.mono hlo))
  clear hb1 B1 B2 h hlo
  go_wp2_with fail
  go_ret
  exact ⟨((x * 256 + y) % 2000).toNat, by show Ending.returned (Value.int IntKind.i64 ((x * 256 + y) % 2000)) = _; rw [Int.toNat_of_nonneg (Int.emod_nonneg _ (by omega))], by have := Int.emod_lt_of_pos (x * 256 + y) (b := 2000) (by omega); omega, hb2.out⟩

theorem P6Big_e (ad : Option Addr) (cp : Nat) (bs : List Nat) (w : World) (hC : BSl w ad bs) :
    Calls Try.prog 6 #[.slice ad bs.length cp, .int .i64 2000] w fun e w' => ∃ m : Nat, e = .returned (.int .i64 (m : Int)) ∧ m < 2000 ∧ Below w.heap.size w w' := by
  have K := l00From_b ad cp bs w
  go_enter Try.func6, Try.ntmps6
  go_wp2_with fail
  refine K.mono ?_
  rintro e w1 ⟨rfl, hb1, A1⟩
  have D1 := from_draws hC hb1 A1
  clear K A1
  go_wp2_with fail
  refine (pick_big D1 (by omega)).mono ?_
  rintro e w2 ⟨m, rfl, hm, hb⟩
  go_wp2_with fail
  go_ret
  exact ⟨m, rfl, hm, hb⟩

end Go.Proofs.Ytcfoghckdloknaa
