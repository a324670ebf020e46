/-
  CONTRACTS: shares and roads drawn from bytes: valid ones, whatever the bytes.
-/
import Derived.Test.YtiaflomabgnmaaaBytes
import Derived.Test.YtiaflomabgnmaaaG4
import Derived.Test.YtiaflomabgnmaaaG5
import Derived.OwnWalk
namespace Go.Proofs.Ytiaflomabgnmaaa
open Go Go.RowKit
set_option maxRecDepth 100000

/-- drawing goes on: the bytes lie as they lay, the source is at some turn up to k -/
structure Draws (w0 : World) (g : Nat) (ad : Option Addr) (cp : Nat) (bs : List Nat) (k : Nat) (w : World) : Prop where
  c : BSl w0 ad bs
  lo : w0.heap.size ≤ g
  below : Below w0.heap.size w0 w
  src : ∃ k' sd, k' ≤ k ∧ At w g (srcC ad bs.length cp k' sd) 62
section
variable {w0 w : World} {g : Nat} {ad : Option Addr} {cp : Nat} {bs : List Nat} {k : Nat}
theorem Draws.bsl (h : Draws w0 g ad cp bs k w) : BSl w ad bs := h.c.step h.below (Nat.le_refl _)

theorem Draws.lt (h : Draws w0 g ad cp bs k w) : g < w.heap.size := by obtain ⟨k', sd, -, hA⟩ := h.src; exact hA.lt

theorem Draws.step {w' : World} (h : Draws w0 g ad cp bs k w) (hb : Below w.heap.size w w') : Draws w0 g ad cp bs k w' :=
  ⟨h.c, h.lo, h.below.trans (hb.mono h.below.size), by obtain ⟨k', sd, h1, hA⟩ := h.src; exact ⟨k', sd, h1, hA.step hb⟩⟩

theorem Draws.row {r : Nat} (h : Draws w0 g ad cp bs k w) (hr : w0.heap.size ≤ r) (hn : g ≠ r) (c : Array Value) : Draws w0 g ad cp bs k (w.setRow r c) :=
  ⟨h.c, h.lo, bset h.below hr c, by obtain ⟨k', sd, h1, hA⟩ := h.src; exact ⟨k', sd, h1, hA.setRow_other hn c⟩⟩

theorem Draws.more {k2 : Nat} (h : Draws w0 g ad cp bs k w) (hk : k ≤ k2) : Draws w0 g ad cp bs k2 w :=
  ⟨h.c, h.lo, h.below, by obtain ⟨k', sd, h1, hA⟩ := h.src; exact ⟨k', sd, by omega, hA⟩⟩

/-- a number below n -/
theorem pick_e (h : Draws w0 g ad cp bs k w) (hk : k < 1000000) (n : Nat) (h1 : 1 < n) (h2 : n ≤ 200) :
    Calls Try.prog 30 #[.pointer (some ⟨g, 0, none⟩), .int .i64 (n : Int)] w fun e w' => ∃ m : Nat, e = .returned (.int .i64 (m : Int)) ∧ m < n ∧ Only g w w' ∧ Draws w0 g ad cp bs (k + 1) w' := by
  obtain ⟨k', sd, hk', hA⟩ := h.src
  refine (pick_b g ad cp k' bs sd n w (by omega) h.c.lt (by omega) hA h.bsl).mono ?_
  rintro e w' ⟨rfl, hO, hA'⟩
  obtain ⟨v0, v1⟩ := nextV_in h.c.lt k' sd
  have hv : pickV bs k' sd (n : Int) = ((pickV bs k' sd (n : Int)).toNat : Int) ∧ (pickV bs k' sd (n : Int)).toNat < n := by
    unfold pickV
    rw [if_neg (by omega)]
    have a1 := Int.emod_nonneg (nextV bs k' sd) (b := (n : Int)) (by omega)
    have a2 := Int.emod_lt_of_pos (nextV bs k' sd) (b := (n : Int)) (by omega)
    omega
  refine ⟨_, by rw [hv.1]; rfl, hv.2, hO, ⟨h.c, h.lo, h.below.trans (hO.below.mono h.lo), ⟨_, _, ?_, hA'⟩⟩⟩
  unfold pickK
  split <;> omega
end

theorem q32_facts : ∀ m : Fin 33, ∃ q, FloatKind.f32.format.div (FloatKind.f32.nearest (m.val : Int)) 1107296256 = some q ∧ q ≤ 1065353216 := by
  have h : ∀ m : Fin 33, ((FloatKind.f32.format.div (FloatKind.f32.nearest (m.val : Int)) 1107296256).map fun q => decide (q ≤ 1065353216)) = some true := by decide
  intro m
  have := h m
  cases hq : FloatKind.f32.format.div (FloatKind.f32.nearest (m.val : Int)) 1107296256 with
  | none => rw [hq] at this; cases this
  | some q => rw [hq] at this; exact ⟨q, rfl, by simpa using this⟩

theorem qpace_facts : ∀ m : Fin 16, ∃ q, FloatKind.f32.format.div (FloatKind.f32.nearest (1 + (m.val : Int))) 1098907648 = some q ∧ (1015021568 ≤ q ∧ q ≤ 1065353216) := by
  have h : ∀ m : Fin 16, ((FloatKind.f32.format.div (FloatKind.f32.nearest (1 + (m.val : Int))) 1098907648).map fun q => decide (1015021568 ≤ q ∧ q ≤ 1065353216)) = some true := by decide
  intro m
  have := h m
  cases hq : FloatKind.f32.format.div (FloatKind.f32.nearest (1 + (m.val : Int))) 1098907648 with
  | none => rw [hq] at this; cases this
  | some q => rw [hq] at this; exact ⟨q, rfl, by simpa using this⟩

theorem qlane_facts : ∀ m : Fin 12, ∃ q, FloatKind.f32.format.div (FloatKind.f32.nearest (1 + (m.val : Int))) 1082130432 = some q ∧ (1048576000 ≤ q ∧ q ≤ 1090519040) := by
  have h : ∀ m : Fin 12, ((FloatKind.f32.format.div (FloatKind.f32.nearest (1 + (m.val : Int))) 1082130432).map fun q => decide (1048576000 ≤ q ∧ q ≤ 1090519040)) = some true := by decide
  intro m
  have := h m
  cases hq : FloatKind.f32.format.div (FloatKind.f32.nearest (1 + (m.val : Int))) 1082130432 with
  | none => rw [hq] at this; cases this
  | some q => rw [hq] at this; exact ⟨q, rfl, by simpa using this⟩

theorem run_conv64 (n : Int) (W : World) : (convert 2 24 (.int .i64 n)).run Try.prog W = .ok (.float .f32 (FloatKind.f32.nearest n)) W := by kernel_rfl

/-- a share drawn -/
theorem plain_e {w0 w : World} {g : Nat} {ad : Option Addr} {cp : Nat} {bs : List Nat} {k : Nat} (h : Draws w0 g ad cp bs k w) (hk : k < 1000000) :
    Calls Try.prog 29 #[.pointer (some ⟨g, 0, none⟩)] w fun e w' => ∃ x : Nat, e = .returned (.float .f32 x) ∧ x ≤ 1065353216 ∧ Only g w w' ∧ Draws w0 g ad cp bs (k + 1) w' := by
  have K := pick_e h hk 33 (by omega) (by omega)
  have hD := Lib.hid h
  clear h
  go_enter Try.func29, Try.ntmps29
  go_wp2_with fail
  refine K.mono ?_
  rintro e w1 ⟨m, rfl, hm, hO, hD1⟩
  obtain ⟨q, hq, hq2⟩ := q32_facts ⟨m, hm⟩
  have hcv := run_conv64 (m : Int)
  have hqr : ∀ t W, (binOp .quo t (.float .f32 (FloatKind.f32.nearest (m : Int))) (.float .f32 1107296256)).run Try.prog W = .ok (.float .f32 q) W := fun t W => run_float_arith W .quo t .f32 _ _ _ hq
  go_wp2_with fail
  go_ret
  exact ⟨q, rfl, hq2, hO, hD1⟩

def GoodC (cs : List Nat) : Prop := cs.length = 16 ∧ cs.all shrB = true

theorem good_zeros : GoodC (zeros 16) := by unfold GoodC; decide

theorem good_set {cs : List Nat} {i x : Nat} (h : GoodC cs) (hx : x ≤ 1065353216) : GoodC (cs.set i x) := by
  refine ⟨by rw [List.length_set]; exact h.1, List.all_eq_true.2 fun y hy => ?_⟩
  rcases List.mem_or_eq_of_mem_set hy with h1 | rfl
  · exact List.all_eq_true.1 h.2 y h1
  · unfold shrB; simpa using hx

theorem okB_mk {cs : List Nat} {p b l : Nat} (h : GoodC cs) (hp : 1015021568 ≤ p ∧ p ≤ 1065353216) (hb : 1015021568 ≤ b ∧ b ≤ 1065353216) (hl : 1048576000 ≤ l ∧ l ≤ 1090519040) : okB cs p b l = true := by
  unfold okB paceB lanesB
  rw [h.2, decide_eq_true hp, decide_eq_true hb, decide_eq_true hl]; rfl

theorem built_road (p b l : Nat) : Try.prog.built 28 [(1, .float .f32 p), (2, .float .f32 b), (3, .float .f32 l)] = some (rd (zeros 16) p b l) := by kernel_rfl

theorem rd_one (cs : List Nat) (p b l : Nat) : (rd cs p b l).all (·.oneCell') = true := by
  simp [rd, fl, Value.oneCell']

set_option maxHeartbeats 2000000 in
theorem drawn_e {w0 w : World} {g : Nat} {ad : Option Addr} {cp : Nat} {bs : List Nat} {k : Nat} (h : Draws w0 g ad cp bs k w) (hk : k < 1000) :
    Calls Try.prog 15 #[.pointer (some ⟨g, 0, none⟩)] w fun e w' => ∃ cs p b l, e = .returned (.agg (rd cs p b l)) ∧ cs.length = 16 ∧ okB cs p b l = true ∧ Below g w w' := by
  have hgw := h.lt
  have hlo := h.lo
  have hsz0 := h.below.size
  have R0 := At.new w (rd (zeros 16) 0 0 0) 28
  have D0 := h.step (b0 w (.cells (rd (zeros 16) 0 0 0) 28))
  have B0 := Lib.hid ((b0 w (.cells (rd (zeros 16) 0 0 0) 28)).mono (Nat.le_of_lt hgw))
  clear h
  go_enter Try.func15, Try.ntmps15
  go_wp2_with fail
  refine (pick_e D0 (by omega) 16 (by omega) (by omega)).mono ?_
  rintro e w1 ⟨m1, rfl, hm1, O1, D1⟩
  obtain ⟨p, hq1, hp⟩ := qpace_facts ⟨m1, hm1⟩
  have sw1 : IntKind.i64.wrap (1 + (m1 : Int)) = 1 + (m1 : Int) := IntWalk.i64_in _ (by omega)
  have qr1 : ∀ t W, (binOp .quo t (.float .f32 (FloatKind.f32.nearest (1 + (m1 : Int)))) (.float .f32 1098907648)).run Try.prog W = .ok (.float .f32 p) W := fun t W => run_float_arith W .quo t .f32 _ _ _ hq1
  have cv1 := run_conv64 (1 + (m1 : Int))
  have R1 := O1.at R0 (by omega)
  have B1 := Lib.hid (B0.out.trans O1.below)
  clear R0 D0 B0 O1 hq1
  go_wp2_with fail
  refine (pick_e D1 (by omega) 16 (by omega) (by omega)).mono ?_
  rintro e w2 ⟨m2, rfl, hm2, O2, D2⟩
  obtain ⟨b, hq2, hb⟩ := qpace_facts ⟨m2, hm2⟩
  have sw2 : IntKind.i64.wrap (1 + (m2 : Int)) = 1 + (m2 : Int) := IntWalk.i64_in _ (by omega)
  have qr2 : ∀ t W, (binOp .quo t (.float .f32 (FloatKind.f32.nearest (1 + (m2 : Int)))) (.float .f32 1098907648)).run Try.prog W = .ok (.float .f32 b) W := fun t W => run_float_arith W .quo t .f32 _ _ _ hq2
  have cv2 := run_conv64 (1 + (m2 : Int))
  have R2 := O2.at R1 (by omega)
  have B2 := Lib.hid (B1.out.trans O2.below)
  clear R1 D1 B1 O2 hq2 qr1 cv1 sw1
  go_wp2_with fail
  refine (pick_e D2 (by omega) 12 (by omega) (by omega)).mono ?_
  rintro e w3 ⟨m3, rfl, hm3, O3, D3⟩
  obtain ⟨l, hq3, hl⟩ := qlane_facts ⟨m3, hm3⟩
  have sw3 : IntKind.i64.wrap (1 + (m3 : Int)) = 1 + (m3 : Int) := IntWalk.i64_in _ (by omega)
  have qr3 : ∀ t W, (binOp .quo t (.float .f32 (FloatKind.f32.nearest (1 + (m3 : Int)))) (.float .f32 1082130432)).run Try.prog W = .ok (.float .f32 l) W := fun t W => run_float_arith W .quo t .f32 _ _ _ hq3
  have cv3 := run_conv64 (1 + (m3 : Int))
  have R3 := O3.at R2 (by omega)
  have B3 := Lib.hid (B2.out.trans O3.below)
  clear R2 D2 B2 O3 hq3 qr2 cv2 sw2
  have hr3 := R3.lt
  have L0 := At.new w3 (rd (zeros 16) 0 0 0) 28
  have L4 := L0.setRow (rd (zeros 16) p b l)
  have R4 := (R3.alloc (.cells (rd (zeros 16) 0 0 0) 28)).setRow_other (k := w3.heap.size) (by omega) (rd (zeros 16) p b l)
  have DD := (D3.step (b0 w3 (.cells (rd (zeros 16) 0 0 0) 28))).row (r := w3.heap.size) (by omega) (by omega) (rd (zeros 16) p b l)
  have BB := Lib.hid (bset (B3.out.alloc (by omega) (.cells (rd (zeros 16) 0 0 0) 28)) (g := w3.heap.size) (by omega) (rd (zeros 16) p b l))
  have h1z : (rd (zeros 16) p b l).all (·.oneCell') = true := rd_one _ p b l
  have hzz : (rd (zeros 16) p b l).size = 19 := rd_size (zeros_len 16) p b l
  have hzz0 : (rd (zeros 16) 0 0 0).size = 19 := rd_size (zeros_len 16) 0 0 0
  clear R3 D3 B3
  go_wp2_with (first | ((with_reducible refine is_build 28 _ rfl ?_); refine wpList_buildTo rfl 28 _ rfl (some 24) rfl (rd (zeros 16) p b l) (built_road p b l) ?_) | ((with_reducible refine is_store 28 (.tmp 3) (.tmp 24) rfl ?_); refine wpList_store_at rfl 28 (.tmp 3) (.tmp 24) rfl _ rfl (rd (zeros 16) p b l) rfl (rd (zeros 16) 0 0 0) _ L0 19 hzz hzz0 (by kernel_rfl) h1z ?_))
  clear qr3 cv3 sw3 L0 h1z hzz hzz0
  rw [show (#[.float .f32 0, .float .f32 0, .float .f32 0, .float .f32 0, .float .f32 0, .float .f32 0, .float .f32 0, .float .f32 0, .float .f32 0, .float .f32 0, .float .f32 0, .float .f32 0, .float .f32 0, .float .f32 0, .float .f32 0, .float .f32 0, .float .f32 0, .float .f32 0, .float .f32 0] : Array Value) = rd (zeros 16) 0 0 0 from by kernel_rfl]
  generalize World.setRow _ _ _ = w4 at L4 R4 DD BB ⊢
  refine (pick_e DD (by omega) 4 (by omega) (by omega)).mono ?_
  rintro e w5 ⟨m, rfl, hm, O5, D5⟩
  have L4' := O5.at L4 (by omega)
  have R4' := O5.at R4 (by omega)
  have BB' := Lib.hid (BB.out.trans O5.below)
  clear L4 R4 BB DD
  have L4 := L4'
  have R4 := R4'
  have BB := BB'
  have DD := D5
  clear L4' R4' BB' D5 O5
  by_cases h0 : m = 0
  · subst h0
    go_wp2_with fail
    refine (plain_e DD (by omega)).mono ?_
    rintro e w6 ⟨x, rfl, hx, O6, D6⟩
    have L4' := O6.at L4 (by omega)
    have R4' := O6.at R4 (by omega)
    have BB' := Lib.hid (BB.out.trans O6.below)
    clear L4 R4 BB DD
    have L4 := L4'
    have R4 := R4'
    have BB := BB'
    have DD := D6
    clear L4' R4' BB' D6
    go_wp2_with fail
    go_loopw [5] (fun n wr => ∃ i : Nat, ∃ cs : List Nat, i ≤ 16 ∧ n = .int .i64 (i : Int) ∧ GoodC cs ∧ At wr w3.heap.size (rd cs p b l) 28 ∧ At wr w.heap.size (rd (zeros 16) 0 0 0) 28 ∧ Draws w0 g ad cp bs (k + 5 + i) wr ∧ Hid (Below g w wr)) (fun n _ => 16 - (intOf n).toNat)
    case atStart => exact ⟨0, zeros 16, by omega, rfl, good_zeros, L4, R4, DD, BB⟩
    case round =>
      clear L4 R4 DD BB
      obtain ⟨i, cs, hi, rfl, hcs, L5, R5, D5, B5⟩ := hrel
      by_cases hlt : i < 16
      · have s2 : IntKind.i64.wrap ((i : Int) + 1) = (i : Int) + 1 := IntWalk.i64_in _ (by omega)
        have ki : decide ((i : Int) < 16) = true := decide_eq_true (by omega)
        have L6 := L5.setRow (rd (cs.set i x) p b l)
        have R6 := R5.setRow_other (k := w3.heap.size) (by omega) (rd (cs.set i x) p b l)
        have D6 := (D5.row (r := w3.heap.size) (by have := D5.lo; omega) (by omega) (rd (cs.set i x) p b l)).more (k2 := k + 5 + (i + 1)) (by omega)
        have B6 := Lib.hid (bset B5 (g := w3.heap.size) (by omega) (rd (cs.set i x) p b l))
        have GS := rd_put hcs.1 p b l hlt x
        clear ki
        have ki : decide ((i : Int) < 16) = true := decide_eq_true (by omega)
        go_wp2_with (((with_reducible refine is_store 24 _ _ rfl ?_); refine wpList_store_cell rfl 24 _ _ rfl w3.heap.size i rfl (.float .f32 x) rfl (rd cs p b l) _ L5 (by rw [rd_size hcs.1]; omega) (by kernel_rfl) rfl (rd (cs.set i (x)) p b l) (rd_put hcs.1 p b l (by omega) _) ?_))
        exact ⟨⟨i + 1, cs.set i x, by omega, by go_num, good_set hcs hx, L6, R6, D6, B6⟩, by simp [intOf]; omega⟩
      · obtain rfl : i = 16 := by omega
        have R9 := R5.setRow (rd cs p b l)
        have B9 := bset B5.out (g := w.heap.size) (Nat.le_of_lt hgw) (rd cs p b l)
        have hc16 := hcs.1
        have h1c : (rd cs p b l).all (·.oneCell') = true := rd_one cs p b l
        go_wp2_with (first | ((with_reducible refine is_load 28 _ rfl ?_); refine wpList_load_at rfl 28 _ rfl _ rfl (rd cs p b l) _ L5 19 (rd_size hc16 p b l) _ Try.underlying28 rfl (by kernel_rfl) ?_) | ((with_reducible refine is_store 28 (.tmp 2) (.tmp 62) rfl ?_); refine wpList_store_at rfl 28 (.tmp 2) (.tmp 62) rfl _ rfl (rd cs p b l) rfl (rd (zeros 16) 0 0 0) _ R5 19 (rd_size hc16 p b l) (rd_size (zeros_len 16) 0 0 0) (by kernel_rfl) h1c ?_))
        exact bodyPost_ret (v := .agg (rd cs p b l)) (results_at (p := 2) (ty := 28) rfl _ _ _ (rd cs p b l) _ rfl R9 _ Try.underlying28 rfl 19 (rd_size hc16 p b l) (by kernel_rfl)) rfl ⟨cs, p, b, l, rfl, hc16, okB_mk hcs hp hb hl, B9⟩
  · by_cases h1 : m = 1
    · subst h1
      go_wp2_with fail
      refine (pick_e DD (by omega) 16 (by omega) (by omega)).mono ?_
      rintro e w6 ⟨a, rfl, ha, O6, D6⟩
      have L4' := O6.at L4 (by omega)
      have R4' := O6.at R4 (by omega)
      have BB' := Lib.hid (BB.out.trans O6.below)
      clear L4 R4 BB DD
      have L4 := L4'
      have R4 := R4'
      have BB := BB'
      have DD := D6
      clear L4' R4' BB' D6
      go_wp2_with fail
      go_loopw [7] (fun n wr => ∃ i : Nat, ∃ cs : List Nat, i ≤ 16 ∧ n = .int .i64 (i : Int) ∧ GoodC cs ∧ At wr w3.heap.size (rd cs p b l) 28 ∧ At wr w.heap.size (rd (zeros 16) 0 0 0) 28 ∧ Draws w0 g ad cp bs (k + 5 + i) wr ∧ Hid (Below g w wr)) (fun n _ => 16 - (intOf n).toNat)
      case atStart => exact ⟨0, zeros 16, by omega, rfl, good_zeros, L4, R4, DD, BB⟩
      case round =>
        clear L4 R4 DD BB
        obtain ⟨i, cs, hi, rfl, hcs, L5, R5, D5, B5⟩ := hrel
        by_cases hlt : i < 16
        · have s2 : IntKind.i64.wrap ((i : Int) + 1) = (i : Int) + 1 := IntWalk.i64_in _ (by omega)
          have ki : decide ((i : Int) < 16) = true := decide_eq_true (by omega)
          by_cases hai : a ≤ i
          · have kai : decide ((a : Int) ≤ (i : Int)) = true := decide_eq_true (by omega)
            have L6 := L5.setRow (rd (cs.set i 1065353216) p b l)
            have R6 := R5.setRow_other (k := w3.heap.size) (by omega) (rd (cs.set i 1065353216) p b l)
            have D6 := (D5.row (r := w3.heap.size) (by have := D5.lo; omega) (by omega) (rd (cs.set i 1065353216) p b l)).more (k2 := k + 5 + (i + 1)) (by omega)
            have B6 := Lib.hid (bset B5 (g := w3.heap.size) (by omega) (rd (cs.set i 1065353216) p b l))
            go_wp2_with (((with_reducible refine is_store 24 _ _ rfl ?_); refine wpList_store_cell rfl 24 _ _ rfl w3.heap.size i rfl (.float .f32 1065353216) rfl (rd cs p b l) _ L5 (by rw [rd_size hcs.1]; omega) (by kernel_rfl) rfl (rd (cs.set i (1065353216)) p b l) (rd_put hcs.1 p b l (by omega) _) ?_))
            exact ⟨⟨i + 1, cs.set i 1065353216, by omega, by go_num, good_set hcs (Nat.le_refl _), L6, R6, D6, B6⟩, by simp [intOf]; omega⟩
          · have kai : decide ((a : Int) ≤ (i : Int)) = false := decide_eq_false (by omega)
            go_wp2_with fail
            exact ⟨⟨i + 1, cs, by omega, by go_num, hcs, L5, R5, D5.more (by omega), B5⟩, by simp [intOf]; omega⟩
        · obtain rfl : i = 16 := by omega
          have R9 := R5.setRow (rd cs p b l)
          have B9 := bset B5.out (g := w.heap.size) (Nat.le_of_lt hgw) (rd cs p b l)
          have hc16 := hcs.1
          have h1c : (rd cs p b l).all (·.oneCell') = true := rd_one cs p b l
          go_wp2_with (first | ((with_reducible refine is_load 28 _ rfl ?_); refine wpList_load_at rfl 28 _ rfl _ rfl (rd cs p b l) _ L5 19 (rd_size hc16 p b l) _ Try.underlying28 rfl (by kernel_rfl) ?_) | ((with_reducible refine is_store 28 (.tmp 2) (.tmp 62) rfl ?_); refine wpList_store_at rfl 28 (.tmp 2) (.tmp 62) rfl _ rfl (rd cs p b l) rfl (rd (zeros 16) 0 0 0) _ R5 19 (rd_size hc16 p b l) (rd_size (zeros_len 16) 0 0 0) (by kernel_rfl) h1c ?_))
          exact bodyPost_ret (v := .agg (rd cs p b l)) (results_at (p := 2) (ty := 28) rfl _ _ _ (rd cs p b l) _ rfl R9 _ Try.underlying28 rfl 19 (rd_size hc16 p b l) (by kernel_rfl)) rfl ⟨cs, p, b, l, rfl, hc16, okB_mk hcs hp hb hl, B9⟩
    · have t0 : decide ((m : Int) = 0) = false := decide_eq_false (by omega)
      have t0' : ((m : Int) == 0) = false := by simpa using h0
      have t1 : decide ((m : Int) = 1) = false := decide_eq_false (by omega)
      have t1' : ((m : Int) == 1) = false := by simp; omega
      have DD' := DD.more (k2 := k + 5) (by omega)
      clear DD
      have DD := DD'
      clear DD'
      go_wp2_with fail
      go_loopw [8] (fun n wr => ∃ i : Nat, ∃ cs : List Nat, i ≤ 16 ∧ n = .int .i64 (i : Int) ∧ GoodC cs ∧ At wr w3.heap.size (rd cs p b l) 28 ∧ At wr w.heap.size (rd (zeros 16) 0 0 0) 28 ∧ Draws w0 g ad cp bs (k + 5 + i) wr ∧ Hid (Below g w wr)) (fun n _ => 16 - (intOf n).toNat)
      case atStart => exact ⟨0, zeros 16, by omega, rfl, good_zeros, L4, R4, DD, BB⟩
      case round =>
        clear L4 R4 DD BB
        obtain ⟨i, cs, hi, rfl, hcs, L5, R5, D5, B5⟩ := hrel
        by_cases hlt : i < 16
        · have s2 : IntKind.i64.wrap ((i : Int) + 1) = (i : Int) + 1 := IntWalk.i64_in _ (by omega)
          have ki : decide ((i : Int) < 16) = true := decide_eq_true (by omega)
          go_wp2_with fail
          refine (plain_e D5 (by omega)).mono ?_
          rintro e w7 ⟨x, rfl, hx, O7, D7⟩
          have L5' := O7.at L5 (by omega)
          have R5' := O7.at R5 (by omega)
          have B5' := B5.out.trans O7.below
          clear L5 R5
          have L5 := L5'
          have R5 := R5'
          have L6 := L5.setRow (rd (cs.set i x) p b l)
          have R6 := R5.setRow_other (k := w3.heap.size) (by omega) (rd (cs.set i x) p b l)
          have D6 := (D7.row (r := w3.heap.size) (by have := D5.lo; omega) (by omega) (rd (cs.set i x) p b l)).more (k2 := k + 5 + (i + 1)) (by omega)
          have B6 := Lib.hid (bset B5' (g := w3.heap.size) (by omega) (rd (cs.set i x) p b l))
          clear L5' R5' B5' B5
          go_wp2_with (((with_reducible refine is_store 24 _ _ rfl ?_); refine wpList_store_cell rfl 24 _ _ rfl w3.heap.size i rfl (.float .f32 x) rfl (rd cs p b l) _ L5 (by rw [rd_size hcs.1]; omega) (by kernel_rfl) rfl (rd (cs.set i (x)) p b l) (rd_put hcs.1 p b l (by omega) _) ?_))
          exact ⟨⟨i + 1, cs.set i x, by omega, by go_num, good_set hcs hx, L6, R6, D6, B6⟩, by simp [intOf]; omega⟩
        · obtain rfl : i = 16 := by omega
          have R9 := R5.setRow (rd cs p b l)
          have B9 := bset B5.out (g := w.heap.size) (Nat.le_of_lt hgw) (rd cs p b l)
          have hc16 := hcs.1
          have h1c : (rd cs p b l).all (·.oneCell') = true := rd_one cs p b l
          go_wp2_with (first | ((with_reducible refine is_load 28 _ rfl ?_); refine wpList_load_at rfl 28 _ rfl _ rfl (rd cs p b l) _ L5 19 (rd_size hc16 p b l) _ Try.underlying28 rfl (by kernel_rfl) ?_) | ((with_reducible refine is_store 28 (.tmp 2) (.tmp 62) rfl ?_); refine wpList_store_at rfl 28 (.tmp 2) (.tmp 62) rfl _ rfl (rd cs p b l) rfl (rd (zeros 16) 0 0 0) _ R5 19 (rd_size hc16 p b l) (rd_size (zeros_len 16) 0 0 0) (by kernel_rfl) h1c ?_))
          exact bodyPost_ret (v := .agg (rd cs p b l)) (results_at (p := 2) (ty := 28) rfl _ _ _ (rd cs p b l) _ rfl R9 _ Try.underlying28 rfl 19 (rd_size hc16 p b l) (by kernel_rfl)) rfl ⟨cs, p, b, l, rfl, hc16, okB_mk hcs hp hb hl, B9⟩

/-- a road drawn from bytes is a valid road -/
theorem A2Road_e (ad : Option Addr) (cp : Nat) (bs : List Nat) (w : World) (h : BSl w ad bs) :
    Calls Try.prog 5 #[.slice ad bs.length cp] w fun e w' => ∃ cs p b l, e = .returned (.agg (rd cs p b l)) ∧ cs.length = 16 ∧ okB cs p b l = true ∧ Below w.heap.size w w' := by
  have R0 := At.new w (rd (zeros 16) 0 0 0) 28
  have B0 := b0 w (.cells (rd (zeros 16) 0 0 0) 28)
  have h0 := h.step B0 (Nat.le_refl _)
  go_enter Try.func5, Try.ntmps5
  go_wp2_with fail
  refine (l00From_b ad cp bs _).mono ?_
  rintro e w1 ⟨rfl, B1, A1⟩
  have R1 := R0.step B1
  have D1 : Draws w (w.alloc (.cells (rd (zeros 16) 0 0 0) 28)).heap.size ad cp bs 0 w1 := ⟨h, B0.size, bthen B0 B1, ⟨0, 0, Nat.le_refl _, A1⟩⟩
  have hs1 : (w.alloc (.cells (rd (zeros 16) 0 0 0) 28)).heap.size = w.heap.size + 1 := by simp
  have BW := Lib.hid (bthen B0 B1)
  clear B0 B1 A1 R0 h0
  rw [hs1] at D1
  clear hs1
  go_wp2_with fail
  refine (drawn_e D1 (by omega)).mono ?_
  rintro e w2 ⟨cs, p, b, l, rfl, hcs, hok, B2⟩
  have R2 := (B2.block w.heap.size (by omega)).trans R1
  have R2' : At w2 w.heap.size (rd (zeros 16) 0 0 0) 28 := R2
  have R3 := R2'.setRow (rd cs p b l)
  have B3 := bset (BW.out.trans (B2.mono (by omega))) (g := w.heap.size) (Nat.le_refl _) (rd cs p b l)
  have h1c : (rd cs p b l).all (·.oneCell') = true := rd_one cs p b l
  go_wp2_with ((with_reducible refine is_store 28 (.tmp 2) (.tmp 5) rfl ?_); refine wpList_store_at rfl 28 (.tmp 2) (.tmp 5) rfl _ rfl (rd cs p b l) rfl (rd (zeros 16) 0 0 0) _ R2' 19 (rd_size hcs p b l) (rd_size (zeros_len 16) 0 0 0) (by kernel_rfl) h1c ?_)
  exact bodyPost_ret (v := .agg (rd cs p b l)) (results_at (p := 2) (ty := 28) rfl _ _ _ (rd cs p b l) _ rfl R3 _ Try.underlying28 rfl 19 (rd_size hcs p b l) (by kernel_rfl)) rfl ⟨cs, p, b, l, rfl, hcs, hok, B3⟩

/-- a share drawn from bytes is a share -/
theorem A2Share_e (ad : Option Addr) (cp : Nat) (bs : List Nat) (w : World) (h : BSl w ad bs) :
    Calls Try.prog 14 #[.slice ad bs.length cp] w fun e w' => ∃ x : Nat, e = .returned (.float .f32 x) ∧ x ≤ 1065353216 ∧ Below w.heap.size w w' := by
  go_enter Try.func14, Try.ntmps14
  go_wp2_with fail
  refine (l00From_b ad cp bs _).mono ?_
  rintro e w1 ⟨rfl, B1, A1⟩
  have D1 : Draws w w.heap.size ad cp bs 0 w1 := ⟨h, Nat.le_refl _, B1, ⟨0, 0, Nat.le_refl _, A1⟩⟩
  go_wp2_with fail
  refine (plain_e D1 (by omega)).mono ?_
  rintro e w2 ⟨x, rfl, hx, O2, -⟩
  go_wp2_with fail
  go_ret
  exact ⟨x, rfl, hx, B1.trans O2.below⟩

end Go.Proofs.Ytiaflomabgnmaaa
