/-
  FnSent: what a cell sends and takes; jams, queue; what flows. No condition.
-/
import Derived.Test.YtcnbccjkcaoflaaLawB
import Derived.Test.YtcnbccjkcaoflaaDrawnQ
import Derived.Test.YtcnbccjkcaoflaaG4
import Derived.Test.YtcnbccjkcaoflaaSentF
import Derived.Test.YtcnbccjkcaoflaaCoded
import Derived.Test.YtcnbccjkcaoflaaQueueOf
import Derived.Test.YtcnbccjkcaoflaaG5
import Derived.Test.YtcnbccjkcaoflaaJamsOf
import Derived.Test.YtcnbccjkcaoflaaSendsAt
import Derived.Test.YtcnbccjkcaoflaaTakesAt
import Derived.Test.YtcnbccjkcaoflaaSpeedAt
import Derived.Test.YtcnbccjkcaoflaaG6
import Derived.Test.YtcnbccjkcaoflaaIfc
namespace Go.Proofs.Ytcnbccjkcaoflaa.lawFnSent
open Go Go.ChangeShapes Go.WideShapes Go.ChangeAt Go.RowKit

set_option maxRecDepth 100000
theorem hold {p : Prop} (h : Hid p) : p := h.out

theorem to_rest {K : Act → World → Prop} {u : World} {A : Act} (F : (Nat → Value) → Act) (h : ∀ v, K (F v) u) (e : F (fun n => A.tmps.getD n (.bool false)) = A) : K A u := by
  rw [← e]; exact h _

theorem flow_facts {f sn tn : Nat} (hf : f ≤ sn ∧ f ≤ tn ∧ (f = sn ∨ f = tn)) (hs : sn ≤ 1065353216) (ht : tn ≤ 1065353216) : (FloatKind.f32.format.order f sn == some .gt) = false ∧ (FloatKind.f32.format.order f tn == some .gt) = false ∧ ((FloatKind.f32.format.order f sn != some .eq) = false ∨ ((FloatKind.f32.format.order f sn != some .eq) = true ∧ (FloatKind.f32.format.order f tn != some .eq) = false)) := by
  obtain ⟨h1, h2, h3⟩ := hf
  refine ⟨by rw [gt_amt (by omega) (by omega)]; exact decide_eq_false (by omega), by rw [gt_amt (by omega) (by omega)]; exact decide_eq_false (by omega), ?_⟩
  have e1 := eq_amt (x := f) (y := sn) (by omega) (by omega)
  have e2 := eq_amt (x := f) (y := tn) (by omega) (by omega)
  by_cases c : f = sn
  · rw [decide_eq_true c] at e1
    exact .inl (congrArg not e1)
  · rw [decide_eq_false c] at e1
    rw [decide_eq_true (by omega)] at e2
    exact .inr ⟨congrArg not e1, congrArg not e2⟩

theorem is_dst {P : Program} {ops : Array Oper} {rest : List Oper} {o : Oper} {a : Act} {w : World} {Q : Exit → Act → World → Prop} (n : Nat) (_ho : o.dst = some n) (h : wpList P ops Q (o :: rest) a w) : wpList P ops Q (o :: rest) a w := h

set_option maxHeartbeats 8000000 in
theorem walk (W : World) (a0 : Option Addr) (c0 : Nat) (x0 : List Nat) (h0 : BSl W a0 x0) (a1 : Option Addr) (c1 : Nat) (x1 : List Nat) (h1 : BSl W a1 x1) :
    Calls Try.prog 3 #[.slice a0 x0.length c0, .slice a1 x1.length c1] W (True? W) := by
  have KL := a2Long_any a0 a1 x0.length c0 x1.length c1 W
  have BW := Lib.hid (Below.refl W.heap.size W)
  go_enter Try.func3, Try.ntmps3
  go_wp2_with fail
  refine KL.mono ?_
  rintro e w0 ⟨B, rfl, rfl⟩
  clear KL
  cases B
  case true =>
    go_wp2_with fail
    go_ret
    exact ⟨rfl, Below.refl _ _⟩
  go_wp2_with fail
  refine (A2RoadQ_e a0 c0 x0 _ h0).mono ?_
  rintro e w1 ⟨cs, p, b, l, rfl, hl, hok, hqp, hqb, hb⟩
  have ok := OkR.of hl hok
  have HQ := Lib.hid (And.intro hqp hqb)
  clear h0 hqp hqb
  replace BW := Lib.hid (BW.out.trans (hb.mono BW.out.size))
  clear hb
  have L := At.new w1 (rd (zeros 16) 0 0 0) 28
  have A5 := L.setRow (rd cs p b l)
  replace BW := Lib.hid (bset (BW.out.alloc BW.out.size (.cells (rd (zeros 16) 0 0 0) 28)) (g := w1.heap.size) BW.out.size (rd cs p b l))
  have hone : (rd cs p b l).all (·.oneCell') = true := rd_one cs p b l
  go_wp2_with (first | ((with_reducible refine is_load 28 _ rfl ?_); refine wpList_load_at rfl 28 _ rfl _ rfl (rd cs p b l) _ A5 19 (rd_size hl p b l) _ Try.underlying28 rfl (by kernel_rfl) ?_) | ((with_reducible refine is_store 28 (.tmp 5) (.tmp 37) rfl ?_); refine wpList_store_at rfl 28 (.tmp 5) (.tmp 37) rfl _ rfl (rd cs p b l) rfl (rd (zeros 16) 0 0 0) _ L 19 (rd_size hl p b l) (rd_size (zeros_len 16) 0 0 0) (by kernel_rfl) hone ?_))
  rw [show (#[.float .f32 0, .float .f32 0, .float .f32 0, .float .f32 0, .float .f32 0, .float .f32 0, .float .f32 0, .float .f32 0, .float .f32 0, .float .f32 0, .float .f32 0, .float .f32 0, .float .f32 0, .float .f32 0, .float .f32 0, .float .f32 0, .float .f32 0, .float .f32 0, .float .f32 0] : Array Value) = rd (zeros 16) 0 0 0 from by kernel_rfl]
  clear L hone
  generalize World.setRow _ _ _ = w2 at A5 BW ⊢
  have hcs16 := ok.cars
  have hc : ∀ x ∈ cs, x < 4294967296 := fun x hx => by have := hcs16 x hx; omega
  have hp := ok.pace
  have hb := ok.back
  have hla := ok.lanes
  have KB := fun w => BestShare_any cs p b l hl hc (by omega) (by omega) (by omega) w
  have KM := fun w => MostFlow_any cs p b l hl hc (by omega) (by omega) (by omega) w
  have KQ := fun w => QueueOf_any cs p b l hl hc (by omega) (by omega) (by omega) w
  have KF := fun w => IsFree_any cs p b l hl hc (by omega) (by omega) (by omega) w
  have KJ := fun w => JamsOf_any cs p b l hl hc (by omega) (by omega) (by omega) w
  rw [vBestShare_yes hok] at KB
  rw [vMostFlow_yes hok] at KM
  rw [vQueueOf_yes hok] at KQ
  rw [vIsFree_yes hok, free_jam] at KF
  obtain ⟨fb, hfb⟩ : ∃ fb, fb = decide ((jf (bestW p b) cs 16).length = 0) := ⟨_, rfl⟩
  rw [← hfb] at KF
  have HFB := Lib.hid hfb
  clear hfb
  rw [show vJams cs p b l = jf (bestW p b) cs 16 from by unfold vJams; rw [if_pos hok], if_pos hok] at KJ
  have HC := Lib.hid (And.intro hc hcs16)
  have HB := Lib.hid (And.intro hp (And.intro hb hla))
  clear hc hcs16 hp hb hla
  refine (KB _).mono ?_
  rintro e w3 ⟨rfl, hb⟩
  replace A5 := A5.step hb
  replace BW := Lib.hid (BW.out.trans (hb.mono BW.out.size))
  clear hb
  go_wp2_with ((with_reducible refine is_load 28 _ rfl ?_); refine wpList_load_at rfl 28 _ rfl _ rfl (rd cs p b l) _ A5 19 (rd_size hl p b l) _ Try.underlying28 rfl (by kernel_rfl) ?_)
  refine (KM _).mono ?_
  rintro e w4 ⟨rfl, hb⟩
  replace A5 := A5.step hb
  replace BW := Lib.hid (BW.out.trans (hb.mono BW.out.size))
  clear hb
  go_wp2_with ((with_reducible refine is_load 28 _ rfl ?_); refine wpList_load_at rfl 28 _ rfl _ rfl (rd cs p b l) _ A5 19 (rd_size hl p b l) _ Try.underlying28 rfl (by kernel_rfl) ?_)
  refine (KQ _).mono ?_
  rintro e w5 ⟨rfl, hb⟩
  replace A5 := A5.step hb
  replace BW := Lib.hid (BW.out.trans (hb.mono BW.out.size))
  clear hb
  go_wp2_with ((with_reducible refine is_load 28 _ rfl ?_); refine wpList_load_at rfl 28 _ rfl _ rfl (rd cs p b l) _ A5 19 (rd_size hl p b l) _ Try.underlying28 rfl (by kernel_rfl) ?_)
  refine (KF _).mono ?_
  rintro e w6 ⟨rfl, hb⟩
  replace A5 := A5.step hb
  replace BW := Lib.hid (BW.out.trans (hb.mono BW.out.size))
  clear hb
  go_wp2_with ((with_reducible refine is_load 28 _ rfl ?_); refine wpList_load_at rfl 28 _ rfl _ rfl (rd cs p b l) _ A5 19 (rd_size hl p b l) _ Try.underlying28 rfl (by kernel_rfl) ?_)
  refine (KJ _).mono ?_
  rintro e w7 ⟨v, nj, rfl, hO, hn16, hb⟩
  replace A5 := A5.step hb
  replace BW := Lib.hid (BW.out.trans (hb.mono BW.out.size))
  clear hb
  obtain ⟨ja, jc, rfl⟩ := hO.any
  have hJl := hO.len
  obtain ⟨n2, hn2, hin⟩ := jam_in (bestW p b) cs
  obtain rfl : n2 = nj := by omega
  have hqq := queue_all cs (bestW p b)
  have hbt : 0 < bestW p b ∧ bestW p b < 1065353216 := by
    obtain ⟨⟨m, hm, e1⟩, n, hn, e2⟩ := HQ.out
    have := (best_tab m hm n hn).1
    rw [← e1, ← e2] at this
    exact this
  have f1 : (FloatKind.f32.format.order (bestW p b) 0 == some .lt || FloatKind.f32.format.order (bestW p b) 0 == some .eq) = false := by rw [le_amt (by omega) (by omega)]; exact decide_eq_false (by omega)
  have f2 : (FloatKind.f32.format.order (bestW p b) 1065353216 == some .gt || FloatKind.f32.format.order (bestW p b) 1065353216 == some .eq) = false := by rw [ge_amt (by omega) (by omega)]; exact decide_eq_false (by omega)
  have f3 : ((n2 : Int) == 0) = fb := by
    rw [HFB.out, Bool.eq_iff_iff, beq_iff_eq, decide_eq_true_iff]; omega
  have f5 : (fb != fb) = false := by cases fb <;> rfl
  have f4 : ((queueW cs (bestW p b) : Nat) : Int) ≤ 16 := by have := hqq.1; omega
  have HIN := Lib.hid hin
  have HQQ := Lib.hid hqq
  have HO := Lib.hid (And.intro hO hn16)
  clear hin hqq hO hn16 hJl hn2 KB KM KQ KF KJ
  go_wp2_with fail
  clear f1 f2 f3 f4 f5
  have hmo : mostW p b ≤ 1065353216 := mostW_le (HB.out.1) (HB.out.2.1)
  generalize jf (bestW p b) cs 16 = J at HIN HO HFB
  go_loopw [16] (fun iv wr => ∃ i : Nat, i ≤ 16 ∧ iv = .int .i64 (i : Int) ∧ At wr w1.heap.size (rd cs p b l) 28  ∧ Hid (Own2 wr w6.heap.size (.slice ja n2 jc) n2 J) ∧ Hid (Below w0.heap.size w0 wr)) (fun iv _ => 16 - (intOf iv).toNat)
  case atStart => exact ⟨0, by omega, rfl, A5, Lib.hid HO.out.1, BW⟩
  case round =>
    clear A5 BW
    obtain ⟨i, hi, rfl, A5, OJ, BW⟩ := hrel
    by_cases hlt : i < 16
    · have kd : (i : Int) < 16 := by omega
      have s2 : IntKind.i64.wrap ((i : Int) + 1) = (i : Int) + 1 := IntWalk.i64_in _ (by omega)
      have KS := fun w => SendsAt_any cs p b l hl HC.out.1 (by have := HB.out; omega) (by have := HB.out; omega) (by have := HB.out; omega) (i : Int) (by omega) w
      have KT := fun w => TakesAt_any cs p b l hl HC.out.1 (by have := HB.out; omega) (by have := HB.out; omega) (by have := HB.out; omega) (i : Int) (by omega) w
      have KV := fun w => SpeedAt_any cs p b l hl HC.out.1 (by have := HB.out; omega) (by have := HB.out; omega) (by have := HB.out; omega) (i : Int) (by omega) w
      have KVs := fun w => sSpeedAt_any cs p b l hl HC.out.1 (by have := HB.out; omega) (by have := HB.out; omega) (by have := HB.out; omega) (i : Int) (by omega) w
      rw [vSendsAt_yes hok hlt] at KS
      rw [vTakesAt_yes hok hlt] at KT
      rw [vSpeedAt_yes hok hlt] at KV KVs
      go_wp2_with ((with_reducible refine is_load 28 _ rfl ?_); refine wpList_load_at rfl 28 _ rfl _ rfl (rd cs p b l) _ A5 19 (rd_size hl p b l) _ Try.underlying28 rfl (by kernel_rfl) ?_)
      refine (KS _).mono ?_
      rintro e u1 ⟨rfl, hb⟩
      replace A5 := A5.step hb
      replace OJ := Lib.hid (OJ.out.step hb)
      replace BW := Lib.hid (BW.out.trans (hb.mono BW.out.size))
      clear hb
      go_wp2_with ((with_reducible refine is_load 28 _ rfl ?_); refine wpList_load_at rfl 28 _ rfl _ rfl (rd cs p b l) _ A5 19 (rd_size hl p b l) _ Try.underlying28 rfl (by kernel_rfl) ?_)
      refine (KT _).mono ?_
      rintro e u2 ⟨rfl, hb⟩
      replace A5 := A5.step hb
      replace OJ := Lib.hid (OJ.out.step hb)
      replace BW := Lib.hid (BW.out.trans (hb.mono BW.out.size))
      clear hb
      go_wp2_with ((with_reducible refine is_load 28 _ rfl ?_); refine wpList_load_at rfl 28 _ rfl _ rfl (rd cs p b l) _ A5 19 (rd_size hl p b l) _ Try.underlying28 rfl (by kernel_rfl) ?_)
      refine (KV _).mono ?_
      rintro e u3 ⟨rfl, hb⟩
      replace A5 := A5.step hb
      replace OJ := Lib.hid (OJ.out.step hb)
      replace BW := Lib.hid (BW.out.trans (hb.mono BW.out.size))
      clear hb
      go_wp2_with ((with_reducible refine is_load 28 _ rfl ?_); refine wpList_load_at rfl 28 _ rfl _ rfl (rd cs p b l) _ A5 19 (rd_size hl p b l) _ Try.underlying28 rfl (by kernel_rfl) ?_)
      refine (KVs _).mono ?_
      rintro e u4 ⟨rfl, hb⟩
      replace A5 := A5.step hb
      replace OJ := Lib.hid (OJ.out.step hb)
      replace BW := Lib.hid (BW.out.trans (hb.mono BW.out.size))
      clear hb
      clear KS KT KV KVs
      have hsm : sendsW p b (nth cs i) ≤ mostW p b := Nat.min_le_right _ _
      have htm : takesW p b (nth cs i) ≤ mostW p b := Nat.min_le_right _ _
      have hsp := speed_pace (cs := cs) (p := p) (b := b) i
      have hp1 : p ≤ 1065353216 := HB.out.1.2
      have x1 : (FloatKind.f32.format.order (speedW p b cs i) (speedW p b cs i) != some .eq) = false := by
        have := eq_amt (x := speedW p b cs i) (y := speedW p b cs i) (by omega) (by omega)
        rw [decide_eq_true rfl] at this
        exact congrArg not this
      have x2 : (FloatKind.f32.format.order (sendsW p b (nth cs i)) 0 == some .lt) = false := by rw [lt_amt (by omega) (by omega)]; exact decide_eq_false (by omega)
      have x3 : (FloatKind.f32.format.order (sendsW p b (nth cs i)) (mostW p b) == some .gt) = false := by rw [gt_amt (by omega) (by omega)]; exact decide_eq_false (by omega)
      have x4 : (FloatKind.f32.format.order (takesW p b (nth cs i)) 0 == some .lt) = false := by rw [lt_amt (by omega) (by omega)]; exact decide_eq_false (by omega)
      have x5 : (FloatKind.f32.format.order (takesW p b (nth cs i)) (mostW p b) == some .gt) = false := by rw [gt_amt (by omega) (by omega)]; exact decide_eq_false (by omega)
      have x6 : (FloatKind.f32.format.order (speedW p b cs i) 0 == some .lt) = false := by rw [lt_amt (by omega) (by omega)]; exact decide_eq_false (by omega)
      have x7 : (FloatKind.f32.format.order (speedW p b cs i) p == some .gt) = false := by rw [gt_amt (by omega) (by omega)]; exact decide_eq_false (by omega)
      have cp := A5.cell (rd_pace hl p b l)
      go_wp2_with fail
      clear x1 x2 x3 x4 x5 x6 x7
      have HS := Lib.hid (And.intro hsm (And.intro htm hmo))
      clear hsm htm hsp hp1 hmo
      have dc := rd_cell hl p b l hlt
      have dp := rd_pace hl p b l
      have db := rd_back hl p b l
      have ha : nth cs i ≤ 1065353216 := ok.car i
      have s5 := fun t w => run_float_arith (P := Try.prog) w .mul t .f32 _ _ _ (mul_eq (x := p) (y := nth cs i) (by have := HB.out; omega) (by omega)).1
      have s6 := fun t w => run_float_arith (P := Try.prog) w .sub t .f32 _ _ _ (sub_eq (x := 1065353216) (y := nth cs i) (by omega) ha).1
      have hsb : subB 1065353216 (nth cs i) ≤ 1065353216 := sub_le (by omega) ha
      have s7 := fun t w => run_float_arith (P := Try.prog) w .mul t .f32 _ _ _ (mul_eq (x := b) (y := subB 1065353216 (nth cs i)) (by have := HB.out; omega) (by omega)).1
      have NA : nth cs i ≤ bestW p b → ∀ w, Calls Try.prog 15 #[.float .f32 (sendsW p b (nth cs i)), .float .f32 (mulB p (nth cs i)), .float .f32 953267991] w fun e w' => e = .returned (.bool true) ∧ w' = w := fun h w => by
        have e := sends_near (p := p) (b := b) (by have := HB.out; omega) h (by omega)
        have hm : mulB p (nth cs i) ≤ nth cs i := mul_share (by have := HB.out; omega) (by omega)
        rw [e]
        exact a2Near_yes _ _ (Nat.le_refl _) (by omega) (by rw [(sub_eq (by omega : mulB p (nth cs i) < 2139095040) (Nat.le_refl _)).2, Nat.sub_self, show RU 23 0 0 = 0 from by decide +kernel]; omega) w
      have NB : bestW p b ≤ nth cs i → ∀ w, Calls Try.prog 15 #[.float .f32 (takesW p b (nth cs i)), .float .f32 (mulB b (subB 1065353216 (nth cs i))), .float .f32 953267991] w fun e w' => e = .returned (.bool true) ∧ w' = w := fun h w => by
        have hm : mulB b (subB 1065353216 (nth cs i)) ≤ subB 1065353216 (nth cs i) := mul_share (by have := HB.out; omega) (by omega)
        obtain ⟨e1, e2⟩ := takes_near HQ.out.1 HQ.out.2 (by have := HB.out; omega) ha h
        exact a2Near_yes _ _ e1 (by omega) e2 w
      have HIi0 := HIN.out i hlt
      have HL := Lib.hid hl
      clear hl
      have HIi := Lib.hid HIi0
      clear HIi0
      have n16 := HO.out.2
      rename_i K1 hK1 K0 hK0
      have R_K1 : ∀ (v : Nat → Value) (u5 : World), At u5 w1.heap.size (rd cs p b l) 28 → Hid (Own2 u5 w6.heap.size (.slice ja n2 jc) n2 J) → Hid (Below w0.heap.size w0 u5) → K1 { tmps := #[Value.slice a0 x0.length c0, Value.slice a1 x1.length c1, undef, undef, v 4, Value.pointer (some ⟨w1.heap.size, 0, none⟩), Value.float FloatKind.f32 (bestW p b), Value.int IntKind.i64 0, Value.float FloatKind.f32 (mostW p b), Value.int IntKind.i64 0, Value.int IntKind.i64 ((queueW cs (bestW p b) : Nat) : Int), Value.int IntKind.i64 0, Value.bool fb, Value.int IntKind.i64 0, Value.slice ja n2 jc, Value.int IntKind.i64 0, .int .i64 (i : Int), .float .f32 (sendsW p b (nth cs i)), v 18, v 19, v 20, v 21, v 22, v 23, v 24, v 25, v 26, v 27, v 28, v 29, v 30, undef, undef, Value.slice a0 x0.length c0, Value.slice a1 x1.length c1, Value.bool false, Value.slice a0 x0.length c0, Value.agg (rd cs p b l), Value.tuple #[Value.float FloatKind.f32 (bestW p b), Value.int IntKind.i64 0], Value.agg (rd cs p b l), Value.tuple #[Value.float FloatKind.f32 (bestW p b), Value.int IntKind.i64 0], Value.float FloatKind.f32 (bestW p b), Value.int IntKind.i64 0, Value.tuple #[Value.float FloatKind.f32 (mostW p b), Value.int IntKind.i64 0], Value.agg (rd cs p b l), Value.tuple #[Value.float FloatKind.f32 (mostW p b), Value.int IntKind.i64 0], Value.float FloatKind.f32 (mostW p b), Value.int IntKind.i64 0, Value.tuple #[Value.int IntKind.i64 ((queueW cs (bestW p b) : Nat) : Int), Value.int IntKind.i64 0], Value.agg (rd cs p b l), Value.tuple #[Value.int IntKind.i64 ((queueW cs (bestW p b) : Nat) : Int), Value.int IntKind.i64 0], Value.int IntKind.i64 ((queueW cs (bestW p b) : Nat) : Int), Value.int IntKind.i64 0, Value.tuple #[Value.bool fb, Value.int IntKind.i64 0], Value.agg (rd cs p b l), Value.tuple #[Value.bool fb, Value.int IntKind.i64 0], Value.bool fb, Value.int IntKind.i64 0, Value.tuple #[Value.slice ja n2 jc, Value.int IntKind.i64 0], Value.agg (rd cs p b l), Value.tuple #[Value.slice ja n2 jc, Value.int IntKind.i64 0], Value.slice ja n2 jc, Value.int IntKind.i64 0, Value.int IntKind.i64 0, Value.bool false, Value.bool false, Value.int IntKind.i64 0, Value.bool false, Value.bool false, Value.bool false, Value.int IntKind.i64 0, Value.bool false, Value.bool false, Value.bool false, Value.int IntKind.i64 0, Value.bool false, Value.bool false, Value.bool false, Value.int IntKind.i64 0, Value.bool false, Value.bool false, Value.bool false, Value.float FloatKind.f32 (bestW p b), Value.bool false, Value.bool false, Value.bool false, Value.float FloatKind.f32 (bestW p b), Value.bool false, Value.bool false, Value.bool false, Value.bool fb, Value.slice ja n2 jc, Value.int IntKind.i64 (n2 : Int), Value.bool fb, Value.bool false, Value.bool false, Value.bool false, Value.int IntKind.i64 ((queueW cs (bestW p b) : Nat) : Int), Value.bool (decide (((queueW cs (bestW p b) : Nat) : Int) < 0)), Value.bool (decide (((queueW cs (bestW p b) : Nat) : Int) < 0)), Value.bool (decide (((queueW cs (bestW p b) : Nat) : Int) < 0)), Value.int IntKind.i64 ((queueW cs (bestW p b) : Nat) : Int), Value.bool (decide (16 < ((queueW cs (bestW p b) : Nat) : Int))), Value.bool (decide (((queueW cs (bestW p b) : Nat) : Int) < 0) || decide (16 < ((queueW cs (bestW p b) : Nat) : Int))), v 104, v 105, v 106, v 107, v 108, v 109, v 110, v 111, v 112, v 113, v 114, v 115, v 116, v 117, v 118, v 119, v 120, v 121, v 122, v 123, v 124, v 125, v 126, v 127, v 128, v 129, v 130, v 131, v 132, v 133, v 134, v 135, v 136, v 137, v 138, v 139, v 140, v 141, v 142, v 143, v 144, v 145, v 146, v 147, v 148, v 149, v 150, v 151, v 152, v 153, v 154, v 155, v 156, v 157, v 158, v 159, v 160, v 161, v 162, v 163, v 164, v 165, v 166, v 167, v 168, v 169, v 170, v 171, v 172, v 173, v 174, v 175, v 176, v 177, v 178, v 179, v 180, v 181, v 182, v 183, v 184, v 185, v 186, v 187, v 188, v 189, v 190, v 191, v 192, v 193, v 194, v 195, v 196, v 197, v 198, v 199, v 200, v 201, v 202, v 203, v 204, v 205, v 206, v 207, v 208, v 209, v 210, v 211, v 212, v 213, v 214, v 215, v 216, v 217, v 218, v 219, v 220, v 221, v 222, v 223, v 224, v 225, v 226, v 227, v 228, v 229, v 230, v 231, v 232, v 233, v 234, v 235, v 236, v 237, v 238, v 239, v 240, v 241, v 242, v 243, v 244, v 245, v 246, v 247, v 248, v 249, v 250, v 251, v 252, v 253, v 254, v 255, v 256, v 257, v 258, v 259, v 260, v 261, v 262, v 263, v 264, v 265, v 266, v 267, v 268, v 269, v 270, v 271, v 272, v 273, v 274, v 275, v 276, v 277, v 278, v 279, v 280, v 281, v 282, v 283, v 284, v 285, v 286, v 287, v 288, v 289, v 290, v 291, v 292, v 293, v 294, v 295, v 296, v 297, v 298, v 299, v 300, v 301, v 302, v 303, v 304, v 305, v 306, v 307, v 308, v 309, v 310, v 311, undef, undef, undef, undef, undef, undef, undef], defers := [] } u5 := by
        clear A5 OJ BW dp db s5 s6 s7 NA NB hsb
        as_aux_lemma =>
        intro v u5 A5 OJ BW
        refine hK1 _ _ ?_
        go_wp2_with fail
        go_loopw [25, 26] (fun s iv wr' => ∃ k : Nat, k ≤ n2 ∧ s = .bool (inJ J i k) ∧ iv = .int .i64 (k : Int) ∧ wr' = u5) (fun _ iv _ => n2 - (intOf iv).toNat)
        case atStart => exact ⟨0, by omega, rfl, rfl, rfl⟩
        case round =>
          obtain ⟨k, hk, rfl, rfl, hw⟩ := hrel
          subst hw
          by_cases hlk : k < n2
          · have kd2 : (k : Int) < (n2 : Int) := by omega
            have s8 : IntKind.i64.wrap ((k : Int) + 1) = (k : Int) + 1 := IntWalk.i64_in _ (by omega)
            obtain ⟨g, cap', cur, hv, -, hA, hsz, -, hcell, -⟩ := OJ.out.at (by omega)
            obtain ⟨rfl, rfl⟩ : ja = some ⟨g, 0, none⟩ ∧ jc = cap' := by simpa using hv
            have c0 := hA.cell (hcell (2 * k) (by omega))
            have c1 := hA.cell (hcell (2 * k + 1) (by omega))
            have hj : inJ J i (k + 1) = (inJ J i k || (decide (nth J (2 * k) ≤ i) && decide (i ≤ nth J (2 * k + 1)))) := rfl
            rw [Nat.mul_comm 2 k] at c0 c1 hj
            have HJ := Lib.hid hj
            clear hv hA hsz hcell hj
            generalize nth J (k * 2) = x0 at c0 HJ
            generalize nth J (k * 2 + 1) = x1 at c1 HJ
            generalize inJ J i k = b0 at HJ ⊢
            cases b0
            · by_cases h0 : x0 ≤ i
              · have e0 : (x0 : Int) ≤ (i : Int) := by omega
                by_cases h1 : i ≤ x1
                · have e1 : (i : Int) ≤ (x1 : Int) := by omega
                  have HJ2 : inJ J i (k + 1) = true := by rw [HJ.out, decide_eq_true h0, decide_eq_true h1]; rfl
                  replace HJ2 := Lib.hid HJ2
                  go_wp2_with fail
                  exact ⟨⟨k + 1, by omega, by rw [HJ2.out], by go_num, by first | rfl | trivial⟩, by simp [intOf]; omega⟩
                · have e1 : ¬ (i : Int) ≤ (x1 : Int) := by omega
                  have HJ2 : inJ J i (k + 1) = false := by rw [HJ.out, decide_eq_true h0, decide_eq_false h1]; rfl
                  replace HJ2 := Lib.hid HJ2
                  go_wp2_with fail
                  exact ⟨⟨k + 1, by omega, by rw [HJ2.out], by go_num, by first | rfl | trivial⟩, by simp [intOf]; omega⟩
              · have e0 : ¬ (x0 : Int) ≤ (i : Int) := by omega
                have HJ2 : inJ J i (k + 1) = false := by rw [HJ.out, decide_eq_false h0]; rfl
                replace HJ2 := Lib.hid HJ2
                go_wp2_with fail
                exact ⟨⟨k + 1, by omega, by rw [HJ2.out], by go_num, by first | rfl | trivial⟩, by simp [intOf]; omega⟩
            · have HJ2 : inJ J i (k + 1) = true := by rw [HJ.out]; rfl
              replace HJ2 := Lib.hid HJ2
              go_wp2_with fail
              exact ⟨⟨k + 1, by omega, by rw [HJ2.out], by go_num, by first | rfl | trivial⟩, by simp [intOf]; omega⟩
          · obtain rfl : k = n2 := by omega
            have kn : ¬ (k : Int) < (k : Int) := by omega
            go_wp2_with ((with_reducible refine is_load 24 _ rfl ?_); refine hold ?_)
            rename_i K2 hK2 K3 hK3
            have R_K2 : ∀ (v : Nat → Value) (u5 : World), At u5 w1.heap.size (rd cs p b l) 28 → Hid (Own2 u5 w6.heap.size (.slice ja k jc) k J) → Hid (Below w0.heap.size w0 u5) → K2 { tmps := #[Value.slice a0 x0.length c0, Value.slice a1 x1.length c1, undef, undef, v 4, Value.pointer (some ⟨w1.heap.size, 0, none⟩), Value.float FloatKind.f32 (bestW p b), Value.int IntKind.i64 0, Value.float FloatKind.f32 (mostW p b), Value.int IntKind.i64 0, Value.int IntKind.i64 ((queueW cs (bestW p b) : Nat) : Int), Value.int IntKind.i64 0, Value.bool fb, Value.int IntKind.i64 0, Value.slice ja k jc, Value.int IntKind.i64 0, .int .i64 (i : Int), .float .f32 (sendsW p b (nth cs i)), v 18, v 19, v 20, v 21, v 22, v 23, v 24, v 25, v 26, v 27, v 28, v 29, v 30, undef, undef, Value.slice a0 x0.length c0, Value.slice a1 x1.length c1, Value.bool false, Value.slice a0 x0.length c0, Value.agg (rd cs p b l), Value.tuple #[Value.float FloatKind.f32 (bestW p b), Value.int IntKind.i64 0], Value.agg (rd cs p b l), Value.tuple #[Value.float FloatKind.f32 (bestW p b), Value.int IntKind.i64 0], Value.float FloatKind.f32 (bestW p b), Value.int IntKind.i64 0, Value.tuple #[Value.float FloatKind.f32 (mostW p b), Value.int IntKind.i64 0], Value.agg (rd cs p b l), Value.tuple #[Value.float FloatKind.f32 (mostW p b), Value.int IntKind.i64 0], Value.float FloatKind.f32 (mostW p b), Value.int IntKind.i64 0, Value.tuple #[Value.int IntKind.i64 ((queueW cs (bestW p b) : Nat) : Int), Value.int IntKind.i64 0], Value.agg (rd cs p b l), Value.tuple #[Value.int IntKind.i64 ((queueW cs (bestW p b) : Nat) : Int), Value.int IntKind.i64 0], Value.int IntKind.i64 ((queueW cs (bestW p b) : Nat) : Int), Value.int IntKind.i64 0, Value.tuple #[Value.bool fb, Value.int IntKind.i64 0], Value.agg (rd cs p b l), Value.tuple #[Value.bool fb, Value.int IntKind.i64 0], Value.bool fb, Value.int IntKind.i64 0, Value.tuple #[Value.slice ja k jc, Value.int IntKind.i64 0], Value.agg (rd cs p b l), Value.tuple #[Value.slice ja k jc, Value.int IntKind.i64 0], Value.slice ja k jc, Value.int IntKind.i64 0, Value.int IntKind.i64 0, Value.bool false, Value.bool false, Value.int IntKind.i64 0, Value.bool false, Value.bool false, Value.bool false, Value.int IntKind.i64 0, Value.bool false, Value.bool false, Value.bool false, Value.int IntKind.i64 0, Value.bool false, Value.bool false, Value.bool false, Value.int IntKind.i64 0, Value.bool false, Value.bool false, Value.bool false, Value.float FloatKind.f32 (bestW p b), Value.bool false, Value.bool false, Value.bool false, Value.float FloatKind.f32 (bestW p b), Value.bool false, Value.bool false, Value.bool false, Value.bool fb, Value.slice ja k jc, Value.int IntKind.i64 (k : Int), Value.bool fb, Value.bool false, Value.bool false, Value.bool false, Value.int IntKind.i64 ((queueW cs (bestW p b) : Nat) : Int), Value.bool (decide (((queueW cs (bestW p b) : Nat) : Int) < 0)), Value.bool (decide (((queueW cs (bestW p b) : Nat) : Int) < 0)), Value.bool (decide (((queueW cs (bestW p b) : Nat) : Int) < 0)), Value.int IntKind.i64 ((queueW cs (bestW p b) : Nat) : Int), Value.bool (decide (16 < ((queueW cs (bestW p b) : Nat) : Int))), Value.bool (decide (((queueW cs (bestW p b) : Nat) : Int) < 0) || decide (16 < ((queueW cs (bestW p b) : Nat) : Int))), v 104, v 105, v 106, v 107, v 108, v 109, v 110, v 111, v 112, v 113, v 114, v 115, v 116, v 117, v 118, v 119, v 120, v 121, v 122, v 123, v 124, v 125, v 126, v 127, v 128, v 129, v 130, v 131, v 132, v 133, v 134, v 135, v 136, v 137, v 138, v 139, v 140, v 141, v 142, v 143, v 144, v 145, v 146, v 147, v 148, v 149, v 150, v 151, v 152, v 153, v 154, v 155, v 156, v 157, v 158, v 159, v 160, v 161, v 162, v 163, v 164, v 165, v 166, v 167, v 168, v 169, v 170, v 171, v 172, v 173, v 174, v 175, v 176, v 177, v 178, v 179, v 180, v 181, v 182, v 183, v 184, v 185, v 186, v 187, v 188, v 189, v 190, v 191, v 192, v 193, v 194, v 195, v 196, v 197, v 198, v 199, v 200, v 201, v 202, v 203, v 204, v 205, v 206, v 207, v 208, v 209, v 210, v 211, v 212, v 213, v 214, v 215, v 216, v 217, v 218, v 219, v 220, v 221, v 222, v 223, v 224, v 225, v 226, v 227, v 228, v 229, v 230, v 231, v 232, v 233, v 234, v 235, v 236, v 237, v 238, v 239, v 240, v 241, v 242, v 243, v 244, v 245, v 246, v 247, v 248, v 249, v 250, v 251, v 252, v 253, v 254, v 255, v 256, v 257, v 258, v 259, v 260, v 261, v 262, v 263, v 264, v 265, v 266, v 267, v 268, v 269, v 270, v 271, v 272, v 273, v 274, v 275, v 276, v 277, v 278, v 279, v 280, v 281, v 282, v 283, v 284, v 285, v 286, v 287, v 288, v 289, v 290, v 291, v 292, v 293, v 294, v 295, v 296, v 297, v 298, v 299, v 300, v 301, v 302, v 303, v 304, v 305, v 306, v 307, v 308, v 309, v 310, v 311, undef, undef, undef, undef, undef, undef, undef], defers := [] } u5 := by
              clear A5 OJ BW
              as_aux_lemma =>
              intro v u5 A5 OJ BW
              refine hK2 _ _ ?_
              by_cases h15 : i < 15
              · have kF := fun w => FlowBetween_any cs p b l HL.out HC.out.1 (by have := HB.out; omega) (by have := HB.out; omega) (by have := HB.out; omega) (i : Int) (by omega) w
                rw [vFlowBetween_yes hok h15] at kF
                have kT := fun w => TakesAt_any cs p b l HL.out HC.out.1 (by have := HB.out; omega) (by have := HB.out; omega) (by have := HB.out; omega) ((i : Int) + 1) (by omega) w
                rw [show vTakesAt cs p b l ((i : Int) + 1) = (takesW p b (nth cs (i + 1)), 0) from by rw [show ((i : Int) + 1) = ((i + 1 : Nat) : Int) from by omega]; exact vTakesAt_yes hok (by omega)] at kT
                have kd15 : (i : Int) < 15 := by omega
                go_wp2_with ((with_reducible refine is_load 28 _ rfl ?_); refine wpList_load_at rfl 28 _ rfl _ rfl (rd cs p b l) _ A5 19 (rd_size HL.out p b l) _ Try.underlying28 rfl (by kernel_rfl) ?_)
                refine (kF _).mono ?_
                rintro e u6 ⟨rfl, hb⟩
                replace A5 := A5.step hb
                replace OJ := Lib.hid (OJ.out.step hb)
                replace BW := Lib.hid (BW.out.trans (hb.mono BW.out.size))
                clear hb
                go_wp2_with ((with_reducible refine is_load 28 _ rfl ?_); refine wpList_load_at rfl 28 _ rfl _ rfl (rd cs p b l) _ A5 19 (rd_size HL.out p b l) _ Try.underlying28 rfl (by kernel_rfl) ?_)
                refine (kT _).mono ?_
                rintro e u7 ⟨rfl, hb⟩
                replace A5 := A5.step hb
                replace OJ := Lib.hid (OJ.out.step hb)
                replace BW := Lib.hid (BW.out.trans (hb.mono BW.out.size))
                clear hb
                clear kF kT
                have hf := flow_facts (flow_one p b cs i rfl) (Nat.le_trans HS.out.1 HS.out.2.2) (Nat.le_trans (Nat.min_le_right _ _ : takesW p b (nth cs (i + 1)) ≤ mostW p b) HS.out.2.2)
                clear kd15
                generalize flowW p b cs i = f at hf ⊢
                generalize takesW p b (nth cs (i + 1)) = tn at hf ⊢
                generalize sendsW p b (nth cs i) = sn at hf ⊢
                rcases hf with ⟨y1, y2, y3 | ⟨y3, y4⟩⟩
                · go_wp2_with fail
                  exact ⟨⟨i + 1, by omega, by go_num, A5, OJ, BW⟩, by simp [intOf]; omega⟩
                · go_wp2_with fail
                  exact ⟨⟨i + 1, by omega, by go_num, A5, OJ, BW⟩, by simp [intOf]; omega⟩
              · have kd15 : decide ((i : Int) < 15) = false := decide_eq_false (by omega)
                go_wp2_with fail
                exact ⟨⟨i + 1, by omega, by go_num, A5, OJ, BW⟩, by simp [intOf]; omega⟩
            clear hK2
            refine Lib.hid ?_
            have hq := HQQ.out
            have s9 : IntKind.i64.wrap (16 - ((queueW cs (bestW p b) : Nat) : Int)) = 16 - ((queueW cs (bestW p b) : Nat) : Int) := IntWalk.i64_in _ (by omega)
            have s10 : IntKind.i64.wrap (15 - ((queueW cs (bestW p b) : Nat) : Int)) = 15 - ((queueW cs (bestW p b) : Nat) : Int) := IntWalk.i64_in _ (by omega)
            have cc := A5.cell dc
            by_cases hgt : bestW p b < nth cs i
            · have g3 : (FloatKind.f32.format.order (nth cs i) (bestW p b) == some .gt) = true := by rw [gt_amt (by omega) (by omega)]; exact decide_eq_true hgt
              rw [HIi.out, decide_eq_true hgt]
              have nE : ((i : Int) == 15 - ((queueW cs (bestW p b) : Nat) : Int)) = false := by
                rw [beq_eq_false_iff_ne]
                intro h
                have h2 := hq.2.2 (by omega)
                rw [show 15 - queueW cs (bestW p b) = i from by omega] at h2
                exact h2 hgt
              by_cases h3 : 16 - ((queueW cs (bestW p b) : Nat) : Int) ≤ (i : Int)
              · clear hq hgt
                go_wp2_with fail
                exact to_rest _ (fun v => R_K2 v _ A5 OJ BW) (by kernel_rfl)
              · 
                clear hq hgt
                go_wp2_with fail
                exact to_rest _ (fun v => R_K2 v _ A5 OJ BW) (by kernel_rfl)
            · have g3 : (FloatKind.f32.format.order (nth cs i) (bestW p b) == some .gt) = false := by rw [gt_amt (by omega) (by omega)]; exact decide_eq_false hgt
              rw [HIi.out, decide_eq_false hgt]
              have nG : ¬ 16 - ((queueW cs (bestW p b) : Nat) : Int) ≤ (i : Int) := by
                intro h
                exact hgt (hq.2.1 i (by omega) hlt)
              by_cases h3 : ((i : Int) == 15 - ((queueW cs (bestW p b) : Nat) : Int)) = true
              · clear hq hgt
                go_wp2_with fail
                exact to_rest _ (fun v => R_K2 v _ A5 OJ BW) (by kernel_rfl)
              · rw [Bool.not_eq_true] at h3
                clear hq hgt
                go_wp2_with fail
                exact to_rest _ (fun v => R_K2 v _ A5 OJ BW) (by kernel_rfl)
      clear hK1
      rcases Nat.lt_trichotomy (nth cs i) (bestW p b) with hc3 | hc3 | hc3
      · have g1 : FloatKind.f32.format.order (nth cs i) (bestW p b) = some .lt := by rw [order_amt (by omega) (by omega), Nat.compare_eq_lt.2 hc3]
        have KA := NA (by omega)
        have HE := Lib.hid hc3
        clear hc3 NA NB ha hsb
        have hC := Cb.const u4
        refine wp_region_cb (by kernel_rfl) (by kernel_rfl) ?_
        repeat (first
          | go_big_quiet_skip
          | (go_big_quiet_want; first
            | (refine q_cell 24 _ rfl _ Try.underlying24 _ rfl A5 _ dc ?_; go_simp; go_big_quiet_on)
            | (refine q_cell 24 _ rfl _ Try.underlying24 _ rfl A5 _ dp ?_; go_simp; go_big_quiet_on)
            | (refine q_cell 24 _ rfl _ Try.underlying24 _ rfl A5 _ db ?_; go_simp; go_big_quiet_on)
            | (go_big_quiet_op; go_big_quiet_on)
            | (go_big_quiet_op; apply Exists.intro; refine ⟨fun w' hw' => ?_, ?_⟩; (go_at_call 15; exact (KA _).mono fun _ _ h => ⟨h.1, h.2 ▸ hw'⟩); go_big_quiet_on; clear KA)
        ))
        refine wpQuiet_nil ?_
        intro u5 hb
        replace A5 := A5.step hb
        replace OJ := Lib.hid (OJ.out.step hb)
        replace BW := Lib.hid (BW.out.trans (hb.mono BW.out.size))
        clear hb
        clear hC dp db s5 s6 s7
        go_wp2_with fail
        exact to_rest _ (fun v => R_K1 v u5 A5 OJ BW) (by kernel_rfl)
      · have g1 : FloatKind.f32.format.order (nth cs i) (bestW p b) = some .eq := by rw [order_amt (by omega) (by omega), Nat.compare_eq_eq.2 hc3]
        have KA := NA (by omega)
        have KB := NB (by omega)
        have HE := Lib.hid hc3
        clear hc3 NA NB ha hsb
        have hC := Cb.const u4
        refine wp_region_cb (by kernel_rfl) (by kernel_rfl) ?_
        repeat (first
          | go_big_quiet_skip
          | (go_big_quiet_want; first
            | (refine q_cell 24 _ rfl _ Try.underlying24 _ rfl A5 _ dc ?_; go_simp; go_big_quiet_on)
            | (refine q_cell 24 _ rfl _ Try.underlying24 _ rfl A5 _ dp ?_; go_simp; go_big_quiet_on)
            | (refine q_cell 24 _ rfl _ Try.underlying24 _ rfl A5 _ db ?_; go_simp; go_big_quiet_on)
            | (go_big_quiet_op; go_big_quiet_on)
            | (go_big_quiet_op; apply Exists.intro; refine ⟨fun w' hw' => ?_, ?_⟩; (go_at_call 15; exact (KA _).mono fun _ _ h => ⟨h.1, h.2 ▸ hw'⟩); go_big_quiet_on; clear KA)
            | (go_big_quiet_op; apply Exists.intro; refine ⟨fun w' hw' => ?_, ?_⟩; (go_at_call 15; exact (KB _).mono fun _ _ h => ⟨h.1, h.2 ▸ hw'⟩); go_big_quiet_on; clear KB)
        ))
        refine wpQuiet_nil ?_
        intro u5 hb
        replace A5 := A5.step hb
        replace OJ := Lib.hid (OJ.out.step hb)
        replace BW := Lib.hid (BW.out.trans (hb.mono BW.out.size))
        clear hb
        clear hC dp db s5 s6 s7
        go_wp2_with fail
        exact to_rest _ (fun v => R_K1 v u5 A5 OJ BW) (by kernel_rfl)
      · have g1 : FloatKind.f32.format.order (nth cs i) (bestW p b) = some .gt := by rw [order_amt (by omega) (by omega), Nat.compare_eq_gt.2 hc3]
        have KB := NB (by omega)
        have HE := Lib.hid hc3
        clear hc3 NA NB ha hsb
        have hC := Cb.const u4
        refine wp_region_cb (by kernel_rfl) (by kernel_rfl) ?_
        repeat (first
          | go_big_quiet_skip
          | (go_big_quiet_want; first
            | (refine q_cell 24 _ rfl _ Try.underlying24 _ rfl A5 _ dc ?_; go_simp; go_big_quiet_on)
            | (refine q_cell 24 _ rfl _ Try.underlying24 _ rfl A5 _ dp ?_; go_simp; go_big_quiet_on)
            | (refine q_cell 24 _ rfl _ Try.underlying24 _ rfl A5 _ db ?_; go_simp; go_big_quiet_on)
            | (go_big_quiet_op; go_big_quiet_on)
            | (go_big_quiet_op; apply Exists.intro; refine ⟨fun w' hw' => ?_, ?_⟩; (go_at_call 15; exact (KB _).mono fun _ _ h => ⟨h.1, h.2 ▸ hw'⟩); go_big_quiet_on; clear KB)
        ))
        refine wpQuiet_nil ?_
        intro u5 hb
        replace A5 := A5.step hb
        replace OJ := Lib.hid (OJ.out.step hb)
        replace BW := Lib.hid (BW.out.trans (hb.mono BW.out.size))
        clear hb
        clear hC dp db s5 s6 s7
        go_wp2_with fail
        exact to_rest _ (fun v => R_K1 v u5 A5 OJ BW) (by kernel_rfl)
    · obtain rfl : i = 16 := by omega
      have kF := fun w => FlowBetween_any cs p b l hl HC.out.1 (by have := HB.out; omega) (by have := HB.out; omega) (by have := HB.out; omega) 15 (by omega) w
      rw [vFlowBetween_bad hok (by omega)] at kF
      go_wp2_with ((with_reducible refine is_load 28 _ rfl ?_); refine wpList_load_at rfl 28 _ rfl _ rfl (rd cs p b l) _ A5 19 (rd_size hl p b l) _ Try.underlying28 rfl (by kernel_rfl) ?_)
      refine (kF _).mono ?_
      rintro e u6 ⟨rfl, hb⟩
      replace A5 := A5.step hb
      replace BW := Lib.hid (BW.out.trans (hb.mono BW.out.size))
      clear hb
      clear kF
      go_wp2_with fail
      go_ret
      exact ⟨rfl, BW.out⟩

set_option maxRecDepth 100000 in
theorem lifted (os : Os) (started : os.Started) (H : Type) (enc : TypeId × Value → H) :
    ReturnsInHanded {} Try.checked os 3 .any (Rows.fnSentSpec.pre6 enc Try.prog Try.f3 Rows.fnSentRow.domain false) (Rows.fnSentSpec.post enc Try.prog Try.f3 false true false false) := by
  refine law_liftedS enc os started (by kernel_rfl) Try.func3
    (ChangeSpec.witness6 (enc := enc) (C := Try.checked) false ⟨#[], #[.slice none 0 0, .slice none 0 0], []⟩ 24 (by kernel_rfl) (by kernel_rfl) (by kernel_rfl) (by kernel_rfl)) rfl (by kernel_rfl) ?_ ?_ ?_
  · rw [Try.params3]
    intro t ht
    have hall : (#[22, 22].toList.all fun u => Try.prog.readableRec u && decide (u < Try.prog.types.size)) = true := by kernel_rfl
    have := List.all_eq_true.1 hall t ht
    simpa using this
  · intro ds h
    rw [Try.params3] at h
    match ds, h with
    | [d0, d1], _ => rfl
  · intro W base args ds ps hl hval hA
    rw [Try.params3] at hl hval hA
    obtain ⟨v0, v1, rfl⟩ : ∃ v0 v1, args = #[v0, v1] := by
      obtain ⟨l⟩ := args
      match l, hl with
      | [v0, v1], _ => exact ⟨v0, v1, rfl⟩
    obtain ⟨vx0, vy0, dd0, de0, pp0, pq0, ee0, -, -, tr0, rr0⟩ := trodAll_cons hA
    obtain ⟨rfl, rfl⟩ := List.cons.inj ee0
    obtain ⟨vx1, vy1, dd1, de1, pp1, pq1, ee1, -, -, tr1, rr1⟩ := trodAll_cons rr0
    obtain ⟨rfl, rfl⟩ := List.cons.inj ee1
    obtain ⟨a0, c0, x0, rfl, h0⟩ := shape_bytes Try.underlying22 Try.underlying5 (by kernel_rfl) (okWide_slice Try.underlying22 (hval 0 _ _ rfl rfl)) tr0
    obtain ⟨a1, c1, x1, rfl, h1⟩ := shape_bytes Try.underlying22 Try.underlying5 (by kernel_rfl) (okWide_slice Try.underlying22 (hval 1 _ _ rfl rfl)) tr1
    exact walk W a0 c0 x0 h0 a1 c1 x1 h1

/-- THE STATEMENT -/
theorem proved : Rows.FnSentSaid := by
  first
    | (refine OpenClaim.holds_of_wide 3 Try.f3 rfl rfl rfl rfl rfl rfl rfl ⟨rfl, rfl, rfl, rfl, rfl⟩ rfl rfl rfl rfl rfl (by kernel_rfl) Try.func3 (by kernel_rfl) (of_decide_eq_true (by kernel_rfl)) ?_ (fun os started H enc _ => lifted os started H enc))
    | (refine OpenClaim.holds_of_wide_leaving 3 Try.f3 rfl rfl rfl rfl rfl rfl rfl ⟨rfl, rfl, rfl, rfl, rfl⟩ rfl rfl rfl rfl rfl (by kernel_rfl) Try.func3 (by kernel_rfl) (of_decide_eq_true (by kernel_rfl)) ?_ (fun os started H enc _ => leaving_of_handed (lifted os started H enc)))
  unfold Func.isWrapper
  first | (rw [if_pos (by decide +kernel)]; kernel_rfl) | (rw [if_neg (by decide +kernel)]; exact ⟨rfl, rfl⟩)
#print axioms proved
end Go.Proofs.Ytcnbccjkcaoflaa.lawFnSent
