/-
  CONTRACTS: junctions and four amounts drawn from bytes, whatever the bytes.
-/
import Derived.Test.YthljppdkplkohaaDrawn
import Derived.Test.YthljppdkplkohaaEven
import Derived.Test.YthljppdkplkohaaEvenJn
import Derived.Test.YthljppdkplkohaaMrgN
import Derived.Test.YthljppdkplkohaaIfc
import Derived.Test.YthljppdkplkohaaG2
namespace Go.Proofs.Ythljppdkplkohaa
open Go Go.RowKit
set_option maxRecDepth 100000

theorem pick_ge {w0 w : World} {g : Nat} {ad : Option Addr} {cp : Nat} {bs : List Nat} {k : Nat} (h : Draws w0 g ad cp bs k w) (hk : k < 1000000) (n : Nat) (h1 : 1 ≤ n) (h2 : n ≤ 200) :
    Calls Try.prog 14 #[.pointer (some ⟨g, 0, none⟩), .int .i64 (n : Int)] w fun e w' => ∃ m : Nat, e = .returned (.int .i64 (m : Int)) ∧ m < n ∧ Only g w w' ∧ Draws w0 g ad cp bs (k + 1) w' := by
  by_cases c : 1 < n
  · exact pick_e h hk n c h2
  · obtain rfl : n = 1 := by omega
    rw [show ((1 : Nat) : Int) = 1 from rfl]
    have hD := Lib.hid h
    clear h
    go_enter Try.func14, Try.ntmps14
    go_wp2
    go_ret
    exact ⟨0, rfl, by omega, Only.refl _ _, hD.out.more (by omega)⟩

theorem fromD {ad : Option Addr} {cp : Nat} {bs : List Nat} {w w1 : World} (hC : BSl w ad bs) (hb : Below w.heap.size w w1) (hA : At w1 w.heap.size (srcC ad bs.length cp 0 0) 60) : Draws w w.heap.size ad cp bs 0 w1 :=
  ⟨hC, Nat.le_refl _, hb, ⟨0, 0, Nat.le_refl _, hA⟩⟩

theorem pick33_e (ad : Option Addr) (cp : Nat) (bs : List Nat) (n : Nat) (h1 : 1 < n) (h2 : n ≤ 200) (w : World) (hC : BSl w ad bs) :
    Calls Try.prog 5 #[.slice ad bs.length cp, .int .i64 (n : Int)] w fun e w' => ∃ m : Nat, e = .returned (.int .i64 (m : Int)) ∧ m < n ∧ Below w.heap.size w w' := by
  have K := l00From_b ad cp bs w
  go_enter Try.func5, Try.ntmps5
  go_wp2_with fail
  refine K.mono ?_
  rintro e w1 ⟨rfl, hb1, A1⟩
  have D1 := fromD hC hb1 A1
  clear K A1
  go_wp2_with fail
  refine (pick_e D1 (by omega) n h1 h2).mono ?_
  rintro e w2 ⟨m, rfl, hm, hO, hD⟩
  go_wp2_with fail
  go_ret
  exact ⟨m, rfl, hm, hD.below⟩

/-- sixteenths up to a number -/
def Q16 (n x : Nat) : Prop := ∃ a, a ≤ n ∧ x = qs a

theorem Q16.zero (n : Nat) : Q16 n 0 := ⟨0, by omega, qs_zero.symm⟩

theorem nth_set4 {xs : List Nat} {i j y : Nat} (hi : i < xs.length) : nth (xs.set i y) j = if i = j then y else nth xs j := by
  unfold nth
  rw [List.getD_eq_getElem?_getD, List.getD_eq_getElem?_getD, List.getElem?_set]
  by_cases c : i = j
  · rw [if_pos c, if_pos c, if_pos hi]; rfl
  · rw [if_neg c, if_neg c]

theorem nth_z4 (j : Nat) : nth (zeros 4) j = 0 := by
  unfold nth zeros
  rw [List.getD_eq_getElem?_getD]
  rcases Nat.lt_or_ge j 4 with h | h
  · rw [List.getElem?_replicate_of_lt h]; rfl
  · rw [List.getElem?_eq_none (by simpa using h)]; rfl

set_option maxHeartbeats 1000000 in
theorem P6Four_e (ad : Option Addr) (cp : Nat) (bs : List Nat) (w : World) (hC : BSl w ad bs) :
    Calls Try.prog 10 #[.slice ad bs.length cp, .int .i64 4] w fun e w' => ∃ xs : List Nat, e = .returned (.agg (fl xs)) ∧ xs.length = 4 ∧ (∀ k, Q16 32 (nth xs k)) ∧ Below w.heap.size w w' := by
  have R0 := At.new w (#[.float .f32 0, .float .f32 0, .float .f32 0, .float .f32 0]) 32
  have BB := b0 w (.cells (#[.float .f32 0, .float .f32 0, .float .f32 0, .float .f32 0]) 32)
  have B0 := Lib.hid BB
  have hC0 := hC.step BB (Nat.le_refl _)
  have K := l00From_b ad cp bs (w.alloc (.cells (#[.float .f32 0, .float .f32 0, .float .f32 0, .float .f32 0]) 32))
  have hsz : (w.alloc (.cells (#[.float .f32 0, .float .f32 0, .float .f32 0, .float .f32 0]) 32)).heap.size = w.heap.size + 1 := by simp
  clear hC BB
  go_enter Try.func10, Try.ntmps10
  go_wp2_with fail
  refine K.mono ?_
  rintro e w1 ⟨rfl, hb1, A1⟩
  have R1 := R0.step hb1
  have B1 := Lib.hid (bthen B0.out hb1)
  have D1 := fromD hC0 hb1 A1
  rw [hsz] at D1
  have HZ := Lib.hid hsz
  clear R0 B0 K A1 hb1 hC0 hsz
  rw [HZ.out]
  generalize hw0 : w.alloc (.cells (#[.float .f32 0, .float .f32 0, .float .f32 0, .float .f32 0]) 32) = v0 at D1 HZ
  clear hw0
  have hg := D1.lt
  have F0 := At.new w1 (#[.float .f32 0, .float .f32 0, .float .f32 0, .float .f32 0]) 32
  have F1 := F0.setRow (fl (zeros 4))
  have R2 := (R1.alloc (.cells (#[.float .f32 0, .float .f32 0, .float .f32 0, .float .f32 0]) 32)).setRow_other (k := w1.heap.size) (by omega) (fl (zeros 4))
  have D2 := (D1.step (b0 w1 (.cells (#[.float .f32 0, .float .f32 0, .float .f32 0, .float .f32 0]) 32))).row (r := w1.heap.size) (by have := HZ.out; omega) (by omega) (fl (zeros 4))
  have B2 := Lib.hid (bset (bnew B1.out (.cells (#[.float .f32 0, .float .f32 0, .float .f32 0, .float .f32 0]) 32)) (g := w1.heap.size) (by omega) (fl (zeros 4)))
  clear R1 D1 B1
  go_wp2_with (first | ((with_reducible refine is_bld 32 _ rfl ?_); refine wpList_bld rfl 32 _ rfl #[] (by kernel_rfl) (fl (zeros 4)) (by kernel_rfl) ?_) | ((with_reducible refine is_store 32 _ _ rfl ?_); refine wpList_store_at rfl 32 _ _ rfl _ rfl (fl (zeros 4)) rfl (#[.float .f32 0, .float .f32 0, .float .f32 0, .float .f32 0]) _ (by with_reducible assumption) 4 (rfl) (rfl) (by kernel_rfl) (fl_one _) ?_))
  generalize World.setRow _ w1.heap.size (fl (zeros 4)) = w2 at F1 R2 D2 B2 ⊢
  clear F0
  generalize hG : w1.heap.size = G at *
  clear hG
  go_loopw [7] (fun n wr => ∃ (i : Nat) (xs : List Nat), i ≤ 4 ∧ n = .int .i64 (i : Int) ∧ xs.length = 4 ∧ Hid (∀ k, Q16 32 (nth xs k)) ∧ At wr G (fl xs) 32 ∧ At wr w.heap.size (#[.float .f32 0, .float .f32 0, .float .f32 0, .float .f32 0]) 32 ∧ Draws v0 (w.heap.size + 1) ad cp bs i wr ∧ Hid (Below w.heap.size w wr)) (fun n _ => 4 - (intOf n).toNat)
  case atStart => exact ⟨0, zeros 4, by omega, rfl, zeros_len 4, Lib.hid (fun k => by rw [nth_z4]; exact Q16.zero 32), F1, R2, D2, B2⟩
  case round =>
    clear F1 R2 D2 B2
    obtain ⟨i, xs, hi, rfl, hxl, hE, F1, R1, D1, B1⟩ := hrel
    by_cases hlt : i < 4
    · have s2 : IntKind.i64.wrap ((i : Int) + 1) = (i : Int) + 1 := IntWalk.i64_in _ (by omega)
      have kd : (i : Int) < 4 := by omega
      go_wp2_with fail
      refine (pick_e D1 (by omega) 33 (by omega) (by omega)).mono ?_
      rintro e w3 ⟨m, rfl, hm, O3, D3⟩
      have F3 := O3.at F1 (by omega)
      have R3 := O3.at R1 (by omega)
      have B3 := Lib.hid (B1.out.trans (O3.below.mono (by omega)))
      have f1 := floatOfInt_nat m
      have hq := fun t w => run_float_arith (P := Try.prog) w .quo t .f32 _ _ _ (qs_op (a := m) (by omega))
      have F4 := F3.setRow (fl (xs.set i (qs m)))
      have R4 := R3.setRow_other (k := G) (by omega) (fl (xs.set i (qs m)))
      have D4 := D3.row (r := G) (by have := HZ.out; omega) (by omega) (fl (xs.set i (qs m)))
      have B4 := Lib.hid (bset B3.out (g := G) (by omega) (fl (xs.set i (qs m))))
      have hE2 := Lib.hid (fun j => show Q16 32 (nth (xs.set i (qs m)) j) from by
        rw [nth_set4 (by omega)]
        by_cases c : i = j
        · rw [if_pos c]; exact ⟨m, by omega, rfl⟩
        · rw [if_neg c]; exact hE.out j)
      have hfs : (fl xs).size = 4 := by rw [fl_size, hxl]
      clear F1 R1 D1 B1 O3 D3 R3 B3
      go_wp2_with (((with_reducible refine is_store 24 _ _ rfl ?_); refine wpList_store_cell rfl 24 _ _ rfl _ i rfl (.float .f32 (qs m)) rfl (fl xs) _ (by with_reducible assumption) (by rw [hfs]; omega) (by kernel_rfl) rfl (fl (xs.set i (qs m))) (fl_set _ _ _) ?_))
      exact ⟨⟨i + 1, xs.set i (qs m), by omega, by go_num, by rw [List.length_set]; exact hxl, hE2, F4, R4, D4, B4⟩, by simp [intOf]; omega⟩
    · obtain rfl : i = 4 := by omega
      rw [show ((4 : Nat) : Int) = 4 from rfl]
      have hfs : (fl xs).size = 4 := by rw [fl_size, hxl]
      have R3 := R1.setRow (fl xs)
      have B3 := Lib.hid (bset B1.out (g := w.heap.size) (Nat.le_refl _) (fl xs))
      go_wp2_with (first | ((with_reducible refine is_load 32 _ rfl ?_); refine wpList_load_at rfl 32 _ rfl _ rfl (fl xs) _ (by with_reducible assumption) 4 (hfs) _ Try.underlying32 rfl (by kernel_rfl) ?_) | ((with_reducible refine is_store 32 _ _ rfl ?_); refine wpList_store_at rfl 32 _ _ rfl _ rfl (fl xs) rfl (#[.float .f32 0, .float .f32 0, .float .f32 0, .float .f32 0]) _ (by with_reducible assumption) 4 (hfs) (rfl) (by kernel_rfl) (fl_one _) ?_))
      exact bodyPost_ret (v := .agg (fl xs)) (results_at (p := 4) (ty := 32) rfl _ _ _ (fl xs) _ rfl R3 _ Try.underlying32 rfl 4 hfs (by kernel_rfl)) rfl ⟨xs, rfl, hxl, hE.out, B3.out⟩

/-- the turns of the first way in, so far drawn, are sixteenths -/
def GT (ts : List Nat) (c i n : Nat) : Prop := ∀ j, j < 4 → (c ≤ j ∨ 0 < i ∨ j < n) → Q16 16 (nth ts j)

theorem GT.start (q c m : Nat) : GT (evT q c m 0) c 0 0 := by
  intro j hj h
  unfold evT
  rw [rowOf_nth _ _ (by omega), if_neg (by omega)]
  exact Q16.zero 16

theorem GT.next {ts : List Nat} {c i n x : Nat} (h : GT ts c i n) (hl : ts.length = 16) (hi : i < 4) (hn : n < 4) (hx : Q16 16 x) : GT (ts.set (4 * i + n) x) c i (n + 1) := by
  intro j hj hc
  rw [nth_set4 (by omega)]
  by_cases e : 4 * i + n = j
  · rw [if_pos e]; exact hx
  · rw [if_neg e]; exact h j hj (by omega)

theorem GT.row {ts : List Nat} {c i : Nat} (h : GT ts c i c) : GT ts c (i + 1) 0 := fun j hj _ => h j hj (by omega)

theorem GT.all {ts : List Nat} {c i : Nat} (h : GT ts c i 0) (hi : 0 < i) : ∀ j, j < 4 → Q16 16 (nth ts j) := fun j hj => h j hj (by omega)

theorem quarters_op (a : Nat) (h : a ≤ 1048576) : floatBits .quo .f32 (fN a) 1082130432 = some (divB (fN a) 1082130432) :=
  (div_some (by have := fN_le h; omega) (by omega) (by omega)).1

set_option maxHeartbeats 4000000 in
theorem l03Drawn_e {w0 w : World} {g : Nat} {ad : Option Addr} {cp : Nat} {bs : List Nat} {k : Nat} (h : Draws w0 g ad cp bs k w) (hk : k < 1000) :
    Calls Try.prog 26 #[.pointer (some ⟨g, 0, none⟩)] w fun e w' => ∃ (M C : Nat) (ts ps : List Nat), e = .returned (.agg (jn (M : Int) (C : Int) ts ps)) ∧ ts.length = 16 ∧ ps.length = 4 ∧ (∀ j, j < 4 → Q16 16 (nth ts j)) ∧ Below g w w' := by
  have hgw := h.lt
  have hlo := h.lo
  have hsz0 := h.below.size
  have R0 := At.new w (#[.int .i64 0, .int .i64 0, .float .f32 0, .float .f32 0, .float .f32 0, .float .f32 0, .float .f32 0, .float .f32 0, .float .f32 0, .float .f32 0, .float .f32 0, .float .f32 0, .float .f32 0, .float .f32 0, .float .f32 0, .float .f32 0, .float .f32 0, .float .f32 0, .float .f32 0, .float .f32 0, .float .f32 0, .float .f32 0]) 34
  have D0 := h.step (b0 w (.cells (#[.int .i64 0, .int .i64 0, .float .f32 0, .float .f32 0, .float .f32 0, .float .f32 0, .float .f32 0, .float .f32 0, .float .f32 0, .float .f32 0, .float .f32 0, .float .f32 0, .float .f32 0, .float .f32 0, .float .f32 0, .float .f32 0, .float .f32 0, .float .f32 0, .float .f32 0, .float .f32 0, .float .f32 0, .float .f32 0]) 34))
  have B0 := Lib.hid ((b0 w (.cells (#[.int .i64 0, .int .i64 0, .float .f32 0, .float .f32 0, .float .f32 0, .float .f32 0, .float .f32 0, .float .f32 0, .float .f32 0, .float .f32 0, .float .f32 0, .float .f32 0, .float .f32 0, .float .f32 0, .float .f32 0, .float .f32 0, .float .f32 0, .float .f32 0, .float .f32 0, .float .f32 0, .float .f32 0, .float .f32 0]) 34)).mono (Nat.le_of_lt hgw))
  clear h
  go_enter Try.func26, Try.ntmps26
  go_wp2_with fail
  refine (pick_e D0 (by omega) 4 (by omega) (by omega)).mono ?_
  rintro e w1 ⟨m1, rfl, hm1, O1, D1⟩
  have s1 : IntKind.i64.wrap (1 + (m1 : Int)) = ((m1 + 1 : Nat) : Int) := by rw [IntWalk.i64_in _ (by omega)]; omega
  have R1 := O1.at R0 (by omega)
  have B1 := Lib.hid (B0.out.trans O1.below)
  clear R0 D0 B0 O1
  go_wp2_with fail
  refine (pick_e D1 (by omega) 4 (by omega) (by omega)).mono ?_
  rintro e w2 ⟨m2, rfl, hm2, O2, D2⟩
  have s2 : IntKind.i64.wrap (1 + (m2 : Int)) = ((m2 + 1 : Nat) : Int) := by rw [IntWalk.i64_in _ (by omega)]; omega
  have R2 := O2.at R1 (by omega)
  have B2 := Lib.hid (B1.out.trans O2.below)
  clear R1 D1 B1 O2
  go_wp2_with fail
  obtain ⟨M, hM⟩ : ∃ M, M = m1 + 1 := ⟨_, rfl⟩
  obtain ⟨C, hC⟩ : ∃ C, C = m2 + 1 := ⟨_, rfl⟩
  rw [show (m1 : Int) + 1 = (M : Int) from by omega, show (m2 : Int) + 1 = (C : Int) from by omega]
  obtain ⟨fo, q, hcv, hq, -, -⟩ := even_facts (C : Int) (by omega)
  refine (sEven_core M C fo q (by omega) (by omega) hcv hq _).mono ?_
  rintro e w3 ⟨rfl, hb3⟩
  have hMM : 1 ≤ M ∧ M ≤ 4 := by omega
  have hCC : 1 ≤ C ∧ C ≤ 4 := by omega
  have R3 := R2.step hb3
  have D3 := D2.step hb3
  have B3 := Lib.hid (B2.out.trans (hb3.mono (by have := D2.lt; omega)))
  clear R2 D2 B2 hb3 s1 s2 hM hC hm1 hm2 hcv hq
  have hT0 := Lib.hid (GT.start q C M)
  have hl0 : (evT q C M 0).length = 16 := evT_len _ _ _ _
  have hp0 : (evP M).length = 4 := evP_len _
  generalize evT q C M 0 = ts0 at hT0 hl0 ⊢
  generalize evP M = ps0 at hp0 ⊢
  have hr3 := R3.lt
  have hd3 := D3.lt
  have L0 := At.new w3 (#[.int .i64 0, .int .i64 0, .float .f32 0, .float .f32 0, .float .f32 0, .float .f32 0, .float .f32 0, .float .f32 0, .float .f32 0, .float .f32 0, .float .f32 0, .float .f32 0, .float .f32 0, .float .f32 0, .float .f32 0, .float .f32 0, .float .f32 0, .float .f32 0, .float .f32 0, .float .f32 0, .float .f32 0, .float .f32 0]) 34
  have L4 := L0.setRow (jn (M : Int) (C : Int) ts0 ps0)
  have R4 := (R3.alloc (.cells (#[.int .i64 0, .int .i64 0, .float .f32 0, .float .f32 0, .float .f32 0, .float .f32 0, .float .f32 0, .float .f32 0, .float .f32 0, .float .f32 0, .float .f32 0, .float .f32 0, .float .f32 0, .float .f32 0, .float .f32 0, .float .f32 0, .float .f32 0, .float .f32 0, .float .f32 0, .float .f32 0, .float .f32 0, .float .f32 0]) 34)).setRow_other (k := w3.heap.size) (by omega) (jn (M : Int) (C : Int) ts0 ps0)
  have D4 := (D3.step (b0 w3 (.cells (#[.int .i64 0, .int .i64 0, .float .f32 0, .float .f32 0, .float .f32 0, .float .f32 0, .float .f32 0, .float .f32 0, .float .f32 0, .float .f32 0, .float .f32 0, .float .f32 0, .float .f32 0, .float .f32 0, .float .f32 0, .float .f32 0, .float .f32 0, .float .f32 0, .float .f32 0, .float .f32 0, .float .f32 0, .float .f32 0]) 34))).row (r := w3.heap.size) (by omega) (by omega) (jn (M : Int) (C : Int) ts0 ps0)
  have B4 := Lib.hid (bset (B3.out.alloc (by omega) (.cells (#[.int .i64 0, .int .i64 0, .float .f32 0, .float .f32 0, .float .f32 0, .float .f32 0, .float .f32 0, .float .f32 0, .float .f32 0, .float .f32 0, .float .f32 0, .float .f32 0, .float .f32 0, .float .f32 0, .float .f32 0, .float .f32 0, .float .f32 0, .float .f32 0, .float .f32 0, .float .f32 0, .float .f32 0, .float .f32 0]) 34)) (g := w3.heap.size) (by omega) (jn (M : Int) (C : Int) ts0 ps0))
  have hj0 : (jn (M : Int) (C : Int) ts0 ps0).size = 22 := jn_size hl0 hp0 _ _
  clear R3 D3 B3
  go_wp2_with ((with_reducible refine is_store 34 _ _ rfl ?_); refine wpList_store_at rfl 34 _ _ rfl _ rfl (jn (M : Int) (C : Int) ts0 ps0) rfl (#[.int .i64 0, .int .i64 0, .float .f32 0, .float .f32 0, .float .f32 0, .float .f32 0, .float .f32 0, .float .f32 0, .float .f32 0, .float .f32 0, .float .f32 0, .float .f32 0, .float .f32 0, .float .f32 0, .float .f32 0, .float .f32 0, .float .f32 0, .float .f32 0, .float .f32 0, .float .f32 0, .float .f32 0, .float .f32 0]) _ (by with_reducible assumption) 22 (hj0) (rfl) (by kernel_rfl) (jn_one _ _ _ _) ?_)
  clear L0 hj0
  generalize World.setRow _ w3.heap.size (jn (M : Int) (C : Int) ts0 ps0) = w4 at L4 R4 D4 B4 ⊢
  generalize hG : w3.heap.size = G at *
  clear hG
  go_loopw [4] (fun n wr => ∃ (i : Nat) (ts ps : List Nat), i ≤ M ∧ n = .int .i64 (i : Int) ∧ ts.length = 16 ∧ ps.length = 4 ∧ Hid (GT ts C i 0) ∧ At wr G (jn (M : Int) (C : Int) ts ps) 34 ∧ At wr w.heap.size (#[.int .i64 0, .int .i64 0, .float .f32 0, .float .f32 0, .float .f32 0, .float .f32 0, .float .f32 0, .float .f32 0, .float .f32 0, .float .f32 0, .float .f32 0, .float .f32 0, .float .f32 0, .float .f32 0, .float .f32 0, .float .f32 0, .float .f32 0, .float .f32 0, .float .f32 0, .float .f32 0, .float .f32 0, .float .f32 0]) 34 ∧ Draws w0 g ad cp bs (k + 2 + 5 * i) wr ∧ Hid (Below g w wr)) (fun n _ => 4 - (intOf n).toNat)
  case atStart => exact ⟨0, ts0, ps0, by omega, rfl, hl0, hp0, hT0, L4, R4, D4, B4⟩
  case round =>
    clear L4 R4 D4 B4 hT0 hl0 hp0
    obtain ⟨i, ts, ps, hi, rfl, hl, hp, hT, L1, R1, D1, B1⟩ := hrel
    by_cases hlt : i < M
    · have s2 : IntKind.i64.wrap ((i : Int) + 1) = (i : Int) + 1 := IntWalk.i64_in _ (by omega)
      have kd : decide ((i : Int) < (M : Int)) = true := decide_eq_true (by omega)
      go_wp2_with (first | ((with_reducible refine is_load 2 _ rfl ?_); refine wpList_load_cell rfl 2 _ rfl _ 0 rfl (jn (M : Int) (C : Int) ts ps) _ (by with_reducible assumption) _ Try.underlying2 rfl (.int .i64 (M : Int)) (jn_ins _ _ _ _) ?_) | ((with_reducible refine is_load 2 _ rfl ?_); refine wpList_load_cell rfl 2 _ rfl _ 1 rfl (jn (M : Int) (C : Int) ts ps) _ (by with_reducible assumption) _ Try.underlying2 rfl (.int .i64 (C : Int)) (jn_outs _ _ _ _) ?_))
      go_loopw [5, 6] (fun lv n wr => ∃ (l j : Nat) (ts : List Nat), l ≤ 16 ∧ j ≤ C ∧ lv = .int .i64 (l : Int) ∧ n = .int .i64 (j : Int) ∧ ts.length = 16 ∧ Hid (GT ts C i j) ∧ At wr G (jn (M : Int) (C : Int) ts ps) 34 ∧ At wr w.heap.size (#[.int .i64 0, .int .i64 0, .float .f32 0, .float .f32 0, .float .f32 0, .float .f32 0, .float .f32 0, .float .f32 0, .float .f32 0, .float .f32 0, .float .f32 0, .float .f32 0, .float .f32 0, .float .f32 0, .float .f32 0, .float .f32 0, .float .f32 0, .float .f32 0, .float .f32 0, .float .f32 0, .float .f32 0, .float .f32 0]) 34 ∧ Draws w0 g ad cp bs (k + 2 + 5 * i + j) wr ∧ Hid (Below g w wr)) (fun _ n _ => 4 - (intOf n).toNat)
      case atStart => exact ⟨16, 0, ts, by omega, by omega, rfl, rfl, hl, hT, L1, R1, D1, B1⟩
      case round =>
        clear L1 R1 D1 B1 hT hl
        obtain ⟨l, j, ts, hl16, hj, rfl, rfl, hl, hT, L1, R1, D1, B1⟩ := hrel
        by_cases hjc : j < C
        · have s3 : IntKind.i64.wrap ((j : Int) + 1) = (j : Int) + 1 := IntWalk.i64_in _ (by omega)
          have s4 : IntKind.i64.wrap ((l : Int) + 1) = ((l + 1 : Nat) : Int) := by rw [IntWalk.i64_in _ (by omega)]; omega
          have s5 : IntKind.i64.wrap ((C : Int) - 1) = (C : Int) - 1 := IntWalk.i64_in _ (by omega)
          have kc : decide ((j : Int) < (C : Int)) = true := decide_eq_true (by omega)
          go_wp2_with (first | ((with_reducible refine is_load 2 _ rfl ?_); refine wpList_load_cell rfl 2 _ rfl _ 0 rfl (jn (M : Int) (C : Int) ts ps) _ (by with_reducible assumption) _ Try.underlying2 rfl (.int .i64 (M : Int)) (jn_ins _ _ _ _) ?_) | ((with_reducible refine is_load 2 _ rfl ?_); refine wpList_load_cell rfl 2 _ rfl _ 1 rfl (jn (M : Int) (C : Int) ts ps) _ (by with_reducible assumption) _ Try.underlying2 rfl (.int .i64 (C : Int)) (jn_outs _ _ _ _) ?_))
          refine (pick_ge D1 (by omega) (l + 1) (by omega) (by omega)).mono ?_
          rintro e w5 ⟨n, rfl, hn, O5, D5⟩
          have L5 := O5.at L1 (by omega)
          have R5 := O5.at R1 (by omega)
          have B5 := Lib.hid (B1.out.trans O5.below)
          clear L1 R1 D1 B1 O5
          by_cases hlast : j + 1 = C
          · have ke : ((j : Int) == (C : Int) - 1) = true := by rw [beq_iff_eq]; omega
            have f1 := floatOfInt_nat l
            have hq := fun t w => run_float_arith (P := Try.prog) w .quo t .f32 _ _ _ (qs_op (a := l) (by omega))
            have s7 : IntKind.i64.wrap ((l : Int) - (l : Int)) = ((0 : Nat) : Int) := by rw [IntWalk.i64_in _ (by omega)]; omega
            have L6 := L5.setRow (jn (M : Int) (C : Int) (ts.set (4 * i + j) (qs l)) ps)
            have R6 := R5.setRow_other (k := G) (by omega) (jn (M : Int) (C : Int) (ts.set (4 * i + j) (qs l)) ps)
            have D6 := (D5.row (r := G) (by omega) (by omega) (jn (M : Int) (C : Int) (ts.set (4 * i + j) (qs l)) ps)).more (k2 := k + 2 + 5 * i + (j + 1)) (by omega)
            have B6 := Lib.hid (bset B5.out (g := G) (by omega) (jn (M : Int) (C : Int) (ts.set (4 * i + j) (qs l)) ps))
            have hT6 := Lib.hid (hT.out.next hl (by omega) (by omega) ⟨l, by omega, rfl⟩)
            clear R5 D5 B5
            go_wp2_with (first | ((with_reducible refine is_load 2 _ rfl ?_); refine wpList_load_cell rfl 2 _ rfl _ 0 rfl (jn (M : Int) (C : Int) ts ps) _ (by with_reducible assumption) _ Try.underlying2 rfl (.int .i64 (M : Int)) (jn_ins _ _ _ _) ?_) | ((with_reducible refine is_load 2 _ rfl ?_); refine wpList_load_cell rfl 2 _ rfl _ 1 rfl (jn (M : Int) (C : Int) ts ps) _ (by with_reducible assumption) _ Try.underlying2 rfl (.int .i64 (C : Int)) (jn_outs _ _ _ _) ?_) | ((with_reducible refine is_store 24 _ _ rfl ?_); refine wpList_store_cell rfl 24 _ _ rfl _ _ rfl (.float .f32 (qs l)) rfl (jn (M : Int) (C : Int) ts ps) _ (by with_reducible assumption) (by rw [jn_size hl hp]; omega) (by kernel_rfl) rfl (jn (M : Int) (C : Int) (ts.set (4 * i + j) (qs l)) ps) (by rw [jn_setTurn hl M C (k := 4 * i + j) (by omega) (by omega)]) ?_))
            exact ⟨⟨0, j + 1, ts.set (4 * i + j) (qs l), by omega, by omega, rfl, by go_num, by rw [List.length_set]; exact hl, hT6, L6, R6, D6, B6⟩, by simp [intOf]; omega⟩
          · have ke : ((j : Int) == (C : Int) - 1) = false := by rw [beq_eq_false_iff_ne]; omega
            have f1 := floatOfInt_nat n
            have hq := fun t w => run_float_arith (P := Try.prog) w .quo t .f32 _ _ _ (qs_op (a := n) (by omega))
            have s7 : IntKind.i64.wrap ((l : Int) - (n : Int)) = (((l - n) : Nat) : Int) := by rw [IntWalk.i64_in _ (by omega)]; omega
            have L6 := L5.setRow (jn (M : Int) (C : Int) (ts.set (4 * i + j) (qs n)) ps)
            have R6 := R5.setRow_other (k := G) (by omega) (jn (M : Int) (C : Int) (ts.set (4 * i + j) (qs n)) ps)
            have D6 := (D5.row (r := G) (by omega) (by omega) (jn (M : Int) (C : Int) (ts.set (4 * i + j) (qs n)) ps)).more (k2 := k + 2 + 5 * i + (j + 1)) (by omega)
            have B6 := Lib.hid (bset B5.out (g := G) (by omega) (jn (M : Int) (C : Int) (ts.set (4 * i + j) (qs n)) ps))
            have hT6 := Lib.hid (hT.out.next hl (by omega) (by omega) ⟨n, by omega, rfl⟩)
            clear R5 D5 B5
            go_wp2_with (first | ((with_reducible refine is_load 2 _ rfl ?_); refine wpList_load_cell rfl 2 _ rfl _ 0 rfl (jn (M : Int) (C : Int) ts ps) _ (by with_reducible assumption) _ Try.underlying2 rfl (.int .i64 (M : Int)) (jn_ins _ _ _ _) ?_) | ((with_reducible refine is_load 2 _ rfl ?_); refine wpList_load_cell rfl 2 _ rfl _ 1 rfl (jn (M : Int) (C : Int) ts ps) _ (by with_reducible assumption) _ Try.underlying2 rfl (.int .i64 (C : Int)) (jn_outs _ _ _ _) ?_) | ((with_reducible refine is_store 24 _ _ rfl ?_); refine wpList_store_cell rfl 24 _ _ rfl _ _ rfl (.float .f32 (qs n)) rfl (jn (M : Int) (C : Int) ts ps) _ (by with_reducible assumption) (by rw [jn_size hl hp]; omega) (by kernel_rfl) rfl (jn (M : Int) (C : Int) (ts.set (4 * i + j) (qs n)) ps) (by rw [jn_setTurn hl M C (k := 4 * i + j) (by omega) (by omega)]) ?_))
            exact ⟨⟨(l - n), j + 1, ts.set (4 * i + j) (qs n), by omega, by omega, rfl, by go_num, by rw [List.length_set]; exact hl, hT6, L6, R6, D6, B6⟩, by simp [intOf]; omega⟩
        · obtain rfl : j = C := by omega
          have kc : decide ((j : Int) < (j : Int)) = false := decide_eq_false (by omega)
          go_wp2_with (first | ((with_reducible refine is_load 2 _ rfl ?_); refine wpList_load_cell rfl 2 _ rfl _ 0 rfl (jn (M : Int) (j : Int) ts ps) _ (by with_reducible assumption) _ Try.underlying2 rfl (.int .i64 (M : Int)) (jn_ins _ _ _ _) ?_) | ((with_reducible refine is_load 2 _ rfl ?_); refine wpList_load_cell rfl 2 _ rfl _ 1 rfl (jn (M : Int) (j : Int) ts ps) _ (by with_reducible assumption) _ Try.underlying2 rfl (.int .i64 (j : Int)) (jn_outs _ _ _ _) ?_))
          refine (pick_e D1 (by omega) 8 (by omega) (by omega)).mono ?_
          rintro e w5 ⟨n, rfl, hn, O5, D5⟩
          have L5 := O5.at L1 (by omega)
          have R5 := O5.at R1 (by omega)
          have B5 := Lib.hid (B1.out.trans O5.below)
          clear L1 R1 D1 B1 O5
          have s6 : IntKind.i64.wrap (1 + (n : Int)) = ((n + 1 : Nat) : Int) := by rw [IntWalk.i64_in _ (by omega)]; omega
          have f1 : floatOfInt .f32 ((n : Int) + 1) = fN (n + 1) := floatOfInt_nat (n + 1)
          have hq := fun t w => run_float_arith (P := Try.prog) w .quo t .f32 _ _ _ (quarters_op (n + 1) (by omega))
          generalize divB (fN (n + 1)) 1082130432 = x at hq
          have L6 := L5.setRow (jn (M : Int) (j : Int) ts (ps.set i x))
          have R6 := R5.setRow_other (k := G) (by omega) (jn (M : Int) (j : Int) ts (ps.set i x))
          have D6 := (D5.row (r := G) (by omega) (by omega) (jn (M : Int) (j : Int) ts (ps.set i x))).more (k2 := k + 2 + 5 * (i + 1)) (by omega)
          have B6 := Lib.hid (bset B5.out (g := G) (by omega) (jn (M : Int) (j : Int) ts (ps.set i x)))
          clear R5 D5 B5
          go_wp2_with (((with_reducible refine is_store 24 _ _ rfl ?_); refine wpList_store_cell rfl 24 _ _ rfl _ _ rfl (.float .f32 x) rfl (jn (M : Int) (j : Int) ts ps) _ (by with_reducible assumption) (by rw [jn_size hl hp]; omega) (by kernel_rfl) rfl (jn (M : Int) (j : Int) ts (ps.set i x)) (by rw [jn_setPrior hl M j (k := i) (by omega)]) ?_))
          exact ⟨⟨i + 1, ts, ps.set i x, by omega, by go_num, hl, by rw [List.length_set]; exact hp, Lib.hid hT.out.row, L6, R6, D6, B6⟩, by simp [intOf]; omega⟩
    · obtain rfl : i = M := by omega
      have kd : decide ((i : Int) < (i : Int)) = false := decide_eq_false (by omega)
      have hjs : (jn (i : Int) (C : Int) ts ps).size = 22 := jn_size hl hp _ _
      have R9 := R1.setRow (jn (i : Int) (C : Int) ts ps)
      have B9 := Lib.hid (bset B1.out (g := w.heap.size) (Nat.le_of_lt hgw) (jn (i : Int) (C : Int) ts ps))
      go_wp2_with (first | ((with_reducible refine is_load 2 _ rfl ?_); refine wpList_load_cell rfl 2 _ rfl _ 0 rfl (jn (i : Int) (C : Int) ts ps) _ (by with_reducible assumption) _ Try.underlying2 rfl (.int .i64 (i : Int)) (jn_ins _ _ _ _) ?_) | ((with_reducible refine is_load 34 _ rfl ?_); refine wpList_load_at rfl 34 _ rfl _ rfl (jn (i : Int) (C : Int) ts ps) _ (by with_reducible assumption) 22 (hjs) _ Try.underlying34 rfl (by kernel_rfl) ?_) | ((with_reducible refine is_store 34 _ _ rfl ?_); refine wpList_store_at rfl 34 _ _ rfl _ rfl (jn (i : Int) (C : Int) ts ps) rfl (#[.int .i64 0, .int .i64 0, .float .f32 0, .float .f32 0, .float .f32 0, .float .f32 0, .float .f32 0, .float .f32 0, .float .f32 0, .float .f32 0, .float .f32 0, .float .f32 0, .float .f32 0, .float .f32 0, .float .f32 0, .float .f32 0, .float .f32 0, .float .f32 0, .float .f32 0, .float .f32 0, .float .f32 0, .float .f32 0]) _ (by with_reducible assumption) 22 (hjs) (rfl) (by kernel_rfl) (jn_one _ _ _ _) ?_))
      exact bodyPost_ret (v := .agg (jn (i : Int) (C : Int) ts ps)) (results_at (p := 2) (ty := 34) rfl _ _ _ (jn (i : Int) (C : Int) ts ps) _ rfl R9 _ Try.underlying34 rfl 22 hjs (by kernel_rfl)) rfl ⟨i, C, ts, ps, rfl, hl, hp, hT.out.all (by omega), B9.out⟩

theorem P6Junction_e (ad : Option Addr) (cp : Nat) (bs : List Nat) (w : World) (hC : BSl w ad bs) :
    Calls Try.prog 9 #[.slice ad bs.length cp] w fun e w' => ∃ (M C : Nat) (ts ps : List Nat), e = .returned (.agg (jn (M : Int) (C : Int) ts ps)) ∧ ts.length = 16 ∧ ps.length = 4 ∧ (∀ j, j < 4 → Q16 16 (nth ts j)) ∧ Below w.heap.size w w' := by
  have R0 := At.new w (#[.int .i64 0, .int .i64 0, .float .f32 0, .float .f32 0, .float .f32 0, .float .f32 0, .float .f32 0, .float .f32 0, .float .f32 0, .float .f32 0, .float .f32 0, .float .f32 0, .float .f32 0, .float .f32 0, .float .f32 0, .float .f32 0, .float .f32 0, .float .f32 0, .float .f32 0, .float .f32 0, .float .f32 0, .float .f32 0]) 34
  have BB := b0 w (.cells (#[.int .i64 0, .int .i64 0, .float .f32 0, .float .f32 0, .float .f32 0, .float .f32 0, .float .f32 0, .float .f32 0, .float .f32 0, .float .f32 0, .float .f32 0, .float .f32 0, .float .f32 0, .float .f32 0, .float .f32 0, .float .f32 0, .float .f32 0, .float .f32 0, .float .f32 0, .float .f32 0, .float .f32 0, .float .f32 0]) 34)
  have B0 := Lib.hid BB
  have hC0 := hC.step BB (Nat.le_refl _)
  have K := l00From_b ad cp bs (w.alloc (.cells (#[.int .i64 0, .int .i64 0, .float .f32 0, .float .f32 0, .float .f32 0, .float .f32 0, .float .f32 0, .float .f32 0, .float .f32 0, .float .f32 0, .float .f32 0, .float .f32 0, .float .f32 0, .float .f32 0, .float .f32 0, .float .f32 0, .float .f32 0, .float .f32 0, .float .f32 0, .float .f32 0, .float .f32 0, .float .f32 0]) 34))
  have hsz : (w.alloc (.cells (#[.int .i64 0, .int .i64 0, .float .f32 0, .float .f32 0, .float .f32 0, .float .f32 0, .float .f32 0, .float .f32 0, .float .f32 0, .float .f32 0, .float .f32 0, .float .f32 0, .float .f32 0, .float .f32 0, .float .f32 0, .float .f32 0, .float .f32 0, .float .f32 0, .float .f32 0, .float .f32 0, .float .f32 0, .float .f32 0]) 34)).heap.size = w.heap.size + 1 := by simp
  clear hC BB
  go_enter Try.func9, Try.ntmps9
  go_wp2_with fail
  refine K.mono ?_
  rintro e w1 ⟨rfl, hb1, A1⟩
  have R1 := R0.step hb1
  have B1 := Lib.hid (bthen B0.out hb1)
  have D1 := fromD hC0 hb1 A1
  rw [hsz] at D1
  rw [hsz]
  clear R0 B0 K A1 hb1 hC0 hsz
  go_wp2_with fail
  refine (l03Drawn_e D1 (by omega)).mono ?_
  rintro e w2 ⟨M, C, ts, ps, rfl, hl, hp, hT, hb2⟩
  have hjs : (jn (M : Int) (C : Int) ts ps).size = 22 := jn_size hl hp _ _
  have R2 : At w2 w.heap.size (#[.int .i64 0, .int .i64 0, .float .f32 0, .float .f32 0, .float .f32 0, .float .f32 0, .float .f32 0, .float .f32 0, .float .f32 0, .float .f32 0, .float .f32 0, .float .f32 0, .float .f32 0, .float .f32 0, .float .f32 0, .float .f32 0, .float .f32 0, .float .f32 0, .float .f32 0, .float .f32 0, .float .f32 0, .float .f32 0]) 34 := (hb2.block _ (by omega)).trans R1
  have B2 := Lib.hid (B1.out.trans (hb2.mono (by omega)))
  have R3 := R2.setRow (jn (M : Int) (C : Int) ts ps)
  have B3 := Lib.hid (bset B2.out (g := w.heap.size) (Nat.le_refl _) (jn (M : Int) (C : Int) ts ps))
  clear R1 D1 B1 hb2
  go_wp2_with ((with_reducible refine is_store 34 _ _ rfl ?_); refine wpList_store_at rfl 34 _ _ rfl _ rfl (jn (M : Int) (C : Int) ts ps) rfl (#[.int .i64 0, .int .i64 0, .float .f32 0, .float .f32 0, .float .f32 0, .float .f32 0, .float .f32 0, .float .f32 0, .float .f32 0, .float .f32 0, .float .f32 0, .float .f32 0, .float .f32 0, .float .f32 0, .float .f32 0, .float .f32 0, .float .f32 0, .float .f32 0, .float .f32 0, .float .f32 0, .float .f32 0, .float .f32 0]) _ (by with_reducible assumption) 22 (hjs) (rfl) (by kernel_rfl) (jn_one _ _ _ _) ?_)
  exact bodyPost_ret (v := .agg (jn (M : Int) (C : Int) ts ps)) (results_at (p := 2) (ty := 34) rfl _ _ _ (jn (M : Int) (C : Int) ts ps) _ rfl R3 _ Try.underlying34 rfl 22 hjs (by kernel_rfl)) rfl ⟨M, C, ts, ps, rfl, hl, hp, hT, B3.out⟩

end Go.Proofs.Ythljppdkplkohaa
