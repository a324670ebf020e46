/-
  CONTRACTS: the flows of a step.
-/
import Derived.Test.YtapnkkbkhifmeaaRefuse
import Derived.Test.YtapnkkbkhifmeaaG10
import Derived.Deep.LoopGhost
import Derived.IntWalk
namespace Go.Proofs.Ytapnkkbkhifmeaa
open Go Go.RowKit
set_option maxRecDepth 100000

/-- the code of a road and of two amounts -/
def givenC (ok : Bool) (o m : Nat) : Int := if ok then (if amtB o && amtB m then 0 else 2) else 1

theorem fluxChk_any (gr go gm : Nat) (cs : List Nat) (p b l : Nat) (hl : cs.length = 16) (hc : ∀ x ∈ cs, x < 4294967296) (hp : p < 4294967296) (hb : b < 4294967296) (hla : l < 4294967296) (o m : Nat) (ho : o < 4294967296) (hm : m < 4294967296) (w : World) (Ar : At w gr (rd cs p b l) 28) (Ao : At w go #[.float .f32 o] 24) (Am : At w gm #[.float .f32 m] 24) :
    Calls Try.prog 24 #[.pointer (some ⟨gr, 0, none⟩), .pointer (some ⟨go, 0, none⟩), .pointer (some ⟨gm, 0, none⟩)] w fun e w' => Chk (givenC (okB cs p b l) o m) e ∧ Below w.heap.size w w' := by
  cases h : okB cs p b l
  · rw [show givenC false o m = 1 from rfl]
    go_enter Try.func24, Try.ntmps24
    go_wp2_with (((with_reducible refine is_load 28 _ rfl ?_); refine wpList_load_at rfl 28 _ rfl _ rfl (rd cs p b l) _ (by assumption) 19 (rd_size hl p b l) _ Try.underlying28 rfl (by kernel_rfl) ?_))
    have KV := ValidRoad_any cs p b l hl hc hp hb hla w
    rw [h] at KV
    refine KV.mono ?_
    rintro e w1 ⟨rfl, hb1⟩
    clear KV
    go_wp2_with fail
    refine (need_bad 1 w1).mono ?_
    rintro e w2 ⟨rfl, rfl⟩
    go_wp2
    exact ⟨rfl, .inr ⟨by decide, _, .inl rfl, rfl⟩, hb1⟩
  · rw [show givenC true o m = amtC [o, m] from by simp [givenC, amtC]]
    go_enter Try.func24, Try.ntmps24
    go_wp2_with (((with_reducible refine is_load 28 _ rfl ?_); refine wpList_load_at rfl 28 _ rfl _ rfl (rd cs p b l) _ (by assumption) 19 (rd_size hl p b l) _ Try.underlying28 rfl (by kernel_rfl) ?_))
    have KV := ValidRoad_any cs p b l hl hc hp hb hla w
    rw [h] at KV
    refine KV.mono ?_
    rintro e w1 ⟨rfl, hb1⟩
    clear KV
    have Ao1 := Ao.step hb1
    have Am1 := Am.step hb1
    have co := Ao1.cell (k := 0) (v := .float .f32 o) rfl
    have cm := Am1.cell (k := 0) (v := .float .f32 m) rfl
    go_wp2_with fail
    refine (need_ok 1 w1).mono ?_
    rintro e w2 ⟨rfl, rfl⟩
    go_wp2_with fail
    refine (needNew_any [o, m] (by simp; exact ⟨ho, hm⟩) (by simp) w2 24).mono ?_
    rintro e w3 ⟨⟨h0, rfl⟩ | ⟨h0, x, hx, rfl⟩, hb3⟩
    · go_wp2
      go_end0
      exact ⟨.inl ⟨h0, rfl⟩, bthen hb1 hb3⟩
    · go_wp2
      exact ⟨rfl, .inr ⟨h0, x, hx, rfl⟩, bthen hb1 hb3⟩

/-- the flows of a step -/
def fluxL (p b : Nat) (cs : List Nat) (o m : Nat) : List Nat := rowOf 17 fun k => if k = 0 then min o (takesW p b (nth cs 0)) else if k = 16 then min (sendsW p b (nth cs 15)) m else flowW p b cs (k - 1)

theorem fluxL_len (p b : Nat) (cs : List Nat) (o m : Nat) : (fluxL p b cs o m).length = 17 := rowOf_len _ _

theorem fluxL_0 (p b : Nat) (cs : List Nat) (o m : Nat) : nth (fluxL p b cs o m) 0 = min o (takesW p b (nth cs 0)) := by
  unfold fluxL; rw [rowOf_nth 17 _ (by omega), if_pos rfl]

theorem fluxL_16 (p b : Nat) (cs : List Nat) (o m : Nat) : nth (fluxL p b cs o m) 16 = min (sendsW p b (nth cs 15)) m := by
  unfold fluxL; rw [rowOf_nth 17 _ (by omega), if_neg (by omega), if_pos rfl]

theorem fluxL_mid (p b : Nat) (cs : List Nat) (o m : Nat) {k : Nat} (hk : k < 15) : nth (fluxL p b cs o m) (k + 1) = flowW p b cs k := by
  unfold fluxL; rw [rowOf_nth 17 _ (by omega), if_neg (by omega), if_neg (by omega), Nat.add_sub_cancel]

theorem fluxL_le {cs : List Nat} {p b l : Nat} (ok : OkR cs p b l) (o m : Nat) : ∀ x ∈ fluxL p b cs o m, x ≤ 1065353216 := by
  intro x hx
  obtain ⟨k, -, rfl⟩ := rowOf_mem hx
  have h1 := sendsW_le (b := b) ok.pace (ok.car 15)
  have h2 := takesW_le (a := nth cs 0) ok.pace ok.back
  have h3 := flowW_le (k := k - 1) ok
  by_cases c : k = 0
  · rw [if_pos c]; omega
  · rw [if_neg c]
    by_cases c2 : k = 16
    · rw [if_pos c2]; omega
    · rw [if_neg c2]; exact h3

theorem nth_le {xs : List Nat} {c : Nat} (h : ∀ x ∈ xs, x ≤ c) (k : Nat) : nth xs k ≤ c := by
  show (xs[k]?).getD 0 ≤ c
  by_cases hk : k < xs.length
  · rw [List.getElem?_eq_getElem hk, Option.getD_some]; exact h _ (List.getElem_mem hk)
  · rw [List.getElem?_eq_none (by omega)]; exact Nat.zero_le _

theorem fluxesOf_any (cs : List Nat) (p b l : Nat) (ok : OkR cs p b l) (o m : Nat) (ho : o < 2139095040) (hm : m < 2139095040) (w : World) :
    Calls Try.prog 27 #[.agg (rd cs p b l), .float .f32 o, .float .f32 m] w fun e w' => e = .returned (.agg (fl (fluxL p b cs o m))) ∧ Below w.heap.size w w' := by
  have hl := ok.len
  obtain ⟨ns, hns⟩ : ∃ ns, ns = fluxL p b cs o m := ⟨_, rfl⟩
  have hn17 : ns.length = 17 := by rw [hns]; exact fluxL_len _ _ _ _ _
  have e0 : nth ns 0 = min o (takesW p b (nth cs 0)) := by rw [hns]; exact fluxL_0 _ _ _ _ _
  have e16 : nth ns 16 = min (sendsW p b (nth cs 15)) m := by rw [hns]; exact fluxL_16 _ _ _ _ _
  have em : ∀ k, k < 15 → nth ns (k + 1) = flowW p b cs k := fun k hk => by rw [hns]; exact fluxL_mid _ _ _ _ _ hk
  have HE := Lib.hid (And.intro e0 (And.intro e16 (And.intro em hns)))
  rw [← hns]
  clear e0 e16 em hns
  have h1 := sendsW_le (b := b) ok.pace (ok.car 15)
  have h2 := takesW_le (a := nth cs 0) ok.pace ok.back
  have A0 : At (((w.alloc (.cells (rd cs p b l) 28)).alloc (.cells (fl (zeros 17)) 33)).alloc (.cells (fl (zeros 17)) 33)) w.heap.size (rd cs p b l) 28 := ((At.new w _ _).alloc _).alloc _
  have R0 : At (((w.alloc (.cells (rd cs p b l) 28)).alloc (.cells (fl (zeros 17)) 33)).alloc (.cells (fl (zeros 17)) 33)) (w.heap.size + 1) (fl (zeros 17)) 33 := (At.last1 w _ _ _).alloc _
  have L0 : At (((w.alloc (.cells (rd cs p b l) 28)).alloc (.cells (fl (zeros 17)) 33)).alloc (.cells (fl (zeros 17)) 33)) (w.heap.size + 1 + 1) (fl (zeros 17)) 33 := At.last2 w _ _ _ _
  have B0 := Lib.hid (bnew (bnew (b0 w (.cells (rd cs p b l) 28)) (.cells (fl (zeros 17)) 33)) (.cells (fl (zeros 17)) 33))
  have m0 : ∀ ts t w, (Builtin.min_ ts t #[.float .f32 o, .float .f32 (takesW p b (nth cs 0))]).run Try.prog w = .ok (.float .f32 (nth ns 0)) w := fun ts t w => by rw [HE.out.1]; exact run_min_amt w ts t (by omega) (by omega)
  have m16 : ∀ ts t w, (Builtin.min_ ts t #[.float .f32 (sendsW p b (nth cs 15)), .float .f32 m]).run Try.prog w = .ok (.float .f32 (nth ns 16)) w := fun ts t w => by rw [HE.out.2.1]; exact run_min_amt w ts t (by omega) (by omega)
  clear h1 h2
  go_enter Try.func27, Try.ntmps27
  go_wp2_with (((with_reducible refine is_load 28 _ rfl ?_); refine wpList_load_at rfl 28 _ rfl _ rfl (rd cs p b l) _ (by assumption) 19 (rd_size hl p b l) _ Try.underlying28 rfl (by kernel_rfl) ?_))
  refine (takesAt_any 0 (by omega) cs p b l ok _).mono ?_
  rintro e w1 ⟨rfl, hb1⟩
  have A1 := A0.step hb1
  have R1 := R0.step hb1
  have L1 := L0.step hb1
  have B1 := Lib.hid (bthen B0.out hb1)
  clear A0 R0 L0 B0 hb1
  have G0 := run_store_one (P := Try.prog) w1 (w.heap.size + 1 + 1) 0 33 (fl (zeros 17)) (.float .f32 (nth ns 0)) L1 (by rw [fl_size, zeros_len]; omega) rfl
  have e1 : (zeros 17).set 0 (nth ns 0) = mixTo ns (zeros 17) (0 + 1) := by
    rw [← mixTo_set hn17 (zeros_len 17) (by omega), mixTo_zero]
  rw [fl_set, e1] at G0
  have A2 := A1.setRow_other (k := w.heap.size + 1 + 1) (by omega) (fl (mixTo ns (zeros 17) (0 + 1)))
  have R2 := R1.setRow_other (k := w.heap.size + 1 + 1) (by omega) (fl (mixTo ns (zeros 17) (0 + 1)))
  have L2 := L1.setRow (fl (mixTo ns (zeros 17) (0 + 1)))
  have B2 := Lib.hid (bset B1.out (g := w.heap.size + 1 + 1) (by omega) (fl (mixTo ns (zeros 17) (0 + 1))))
  have E1 := Lib.hid e1
  clear A1 R1 L1 B1 e1
  go_wp2
  have BB2 := B2
  go_loopw [14] (fun i wr => ∃ k : Nat, k ≤ 15 ∧ i = .int .i64 k ∧ At wr w.heap.size (rd cs p b l) 28 ∧ At wr (w.heap.size + 1) (fl (zeros 17)) 33 ∧ At wr (w.heap.size + 1 + 1) (fl (mixTo ns (zeros 17) (k + 1))) 33 ∧ Hid (Below w.heap.size w wr)) (fun i _ => 16 - (intOf i).toNat)
  case atStart => exact ⟨0, by omega, rfl, A2, R2, L2, BB2⟩
  case round =>
    obtain ⟨k, hk, rfl, A4, R4, L4, B4⟩ := hrel
    clear A2 R2 L2 B2 BB2 G0
    by_cases hlt : k < 15
    · have s2 : IntKind.i64.wrap ((k : Int) + 1) = (k : Int) + 1 := IntWalk.i64_in _ (by omega)
      have hki : (k : Int) < 15 := by omega
      go_wp2_with (((with_reducible refine is_load 28 _ rfl ?_); refine wpList_load_at rfl 28 _ rfl _ rfl (rd cs p b l) _ (by assumption) 19 (rd_size hl p b l) _ Try.underlying28 rfl (by kernel_rfl) ?_))
      refine (flowBetween_any k (by omega) cs p b l ok _).mono ?_
      rintro e w5 ⟨rfl, hb5⟩
      have A5 := A4.step hb5
      have R5 := R4.step hb5
      have L5 := L4.step hb5
      have B5 := Lib.hid (bthen B4.out hb5)
      clear A4 R4 L4 B4 hb5
      have G := run_store_one (P := Try.prog) w5 (w.heap.size + 1 + 1) (k + 1) 33 (fl (mixTo ns (zeros 17) (k + 1))) (.float .f32 (flowW p b cs k)) L5 (by rw [fl_size, mixTo_len hn17 (zeros_len 17) (by omega)]; omega) rfl
      rw [fl_set, ← HE.out.2.2.1 k hlt, mixTo_set hn17 (zeros_len 17) (by omega), HE.out.2.2.1 k hlt] at G
      have A6 := A5.setRow_other (k := w.heap.size + 1 + 1) (by omega) (fl (mixTo ns (zeros 17) (k + 1 + 1)))
      have R6 := R5.setRow_other (k := w.heap.size + 1 + 1) (by omega) (fl (mixTo ns (zeros 17) (k + 1 + 1)))
      have L6 := L5.setRow (fl (mixTo ns (zeros 17) (k + 1 + 1)))
      have B6 := Lib.hid (bset B5.out (g := w.heap.size + 1 + 1) (by omega) (fl (mixTo ns (zeros 17) (k + 1 + 1))))
      clear A5 R5 L5 B5
      go_wp2
      exact ⟨⟨k + 1, by omega, by go_num, A6, R6, L6, B6⟩, by simp [intOf]; omega⟩
    · obtain rfl : k = 15 := by omega
      go_wp2_with (((with_reducible refine is_load 28 _ rfl ?_); refine wpList_load_at rfl 28 _ rfl _ rfl (rd cs p b l) _ (by assumption) 19 (rd_size hl p b l) _ Try.underlying28 rfl (by kernel_rfl) ?_))
      refine (sendsAt_any 15 (by omega) cs p b l ok _).mono ?_
      rintro e w5 ⟨rfl, hb5⟩
      have R5 := R4.step hb5
      have L5 := L4.step hb5
      have B5 := Lib.hid (bthen B4.out hb5)
      clear A4 R4 L4 B4 hb5
      have G := run_store_one (P := Try.prog) w5 (w.heap.size + 1 + 1) 16 33 (fl (mixTo ns (zeros 17) (15 + 1))) (.float .f32 (nth ns 16)) L5 (by rw [fl_size, mixTo_len hn17 (zeros_len 17) (by omega)]; omega) rfl
      rw [fl_set, mixTo_set hn17 (zeros_len 17) (by omega), mixTo_all hn17 (zeros_len 17)] at G
      have R6 := R5.setRow_other (k := w.heap.size + 1 + 1) (by omega) (fl ns)
      have L6 := L5.setRow (fl ns)
      have B6 := Lib.hid (bset B5.out (g := w.heap.size + 1 + 1) (by omega) (fl ns))
      have SZ : (fl ns).size = 17 := by rw [fl_size, hn17]
      have R9 := R6.setRow (fl ns)
      have B9 := Lib.hid (bset B6.out (g := w.heap.size + 1) (by omega) (fl ns))
      clear R5 L5 B5 B6
      go_wp2_with (first | ((with_reducible refine is_load 33 _ rfl ?_); refine wpList_load_at rfl 33 _ rfl _ rfl (fl ns) _ (by assumption) 17 SZ _ Try.underlying33 rfl (by kernel_rfl) ?_) | ((with_reducible refine is_store 33 (.tmp 6) (.tmp 29) rfl ?_); refine wpList_store_at rfl 33 (.tmp 6) (.tmp 29) rfl _ rfl (fl ns) rfl (fl (zeros 17)) _ (by assumption) 17 SZ (by rw [fl_size, zeros_len]) (by kernel_rfl) (fl_one _) ?_))
      exact bodyPost_ret (v := .agg (fl ns)) (results_at (p := 6) (ty := 33) rfl _ _ _ (fl ns) _ rfl R9 _ Try.underlying33 rfl 17 SZ (by kernel_rfl)) rfl ⟨rfl, B9.out⟩
end Go.Proofs.Ytapnkkbkhifmeaa
