/-
  FnDetectors: what is watched is what flows, nearly; what is read off; whole numbers. No condition.
-/
import Derived.Test.YtcfoghckdloknaaLawB
import Derived.Test.YtcfoghckdloknaaDetW
import Derived.Test.YtcfoghckdloknaaDetQ
import Derived.Test.YtcfoghckdloknaaG7
import Derived.Test.YtcfoghckdloknaaG8
import Derived.Test.YtcfoghckdloknaaVDet
import Derived.Test.YtcfoghckdloknaaWatchI
import Derived.Test.YtcfoghckdloknaaWatchS
import Derived.Test.YtcfoghckdloknaaSameDS
import Derived.Test.YtcfoghckdloknaaSameDI
import Derived.Test.YtcfoghckdloknaaReadI
import Derived.Test.YtcfoghckdloknaaReadS
import Derived.Test.YtcfoghckdloknaaCnt
import Derived.Test.YtcfoghckdloknaaG9
import Derived.Test.YtcfoghckdloknaaIfc
namespace Go.Proofs.Ytcfoghckdloknaa.lawFnDetectors
open Go Go.ChangeShapes Go.WideShapes Go.ChangeAt Go.RowKit

theorem hold {p : Prop} (h : Hid p) : p := h.out

theorem is_dst {P : Program} {ops : Array Oper} {rest : List Oper} {o : Oper} {a : Act} {w : World} {Q : Exit → Act → World → Prop} (n : Nat) (_ho : o.dst = some n) (h : wpList P ops Q (o :: rest) a w) : wpList P ops Q (o :: rest) a w := h

theorem wpList_quiet {P : Program} {ops : Array Oper} {C : World → Prop} {Q : Exit → Act → World → Prop} : ∀ (l : List Oper) (a : Act) (w : World), C w → wpQuiet P ops C (fun a' => ∀ w', C w' → Q .normal a' w') l a → wpList P ops Q l a w
  | [], _, w, hC, h => h w hC
  | o :: rest, a, w, hC, h => by
    unfold wpList
    unfold wpQuiet at h
    by_cases hw : Region.wanted o (yielded ops a.tmps) = true
    · rw [if_pos hw] at h ⊢
      obtain ⟨v, h1, h2⟩ := h
      refine Or.inl ?_
      have k := h1 w hC
      unfold Oper.quietAt at k
      show o.upon P a _ Q ((execOp a.eval o).run P w)
      generalize (execOp a.eval o).run P w = r at k ⊢
      unfold Oper.quietUpon at k
      split at k
      · obtain ⟨rfl, rfl⟩ := k
        exact wpList_quiet rest _ _ hC h2
      · obtain ⟨rfl, rfl⟩ := k
        exact wpList_quiet rest _ _ hC h2
      · obtain ⟨rfl, k⟩ := k
        refine Calls.mono k ?_
        rintro e w'' ⟨rfl, hc⟩
        exact wpList_quiet rest _ _ hc h2
      · exact k.elim
    · rw [if_neg hw] at h ⊢
      exact wpList_quiet rest _ _ hC h

theorem near_qtr {k : Nat} (h : k < 2000) : floatBits .quo .f32 (floatOfInt .f32 ((k : Int) - 1000)) 1082130432 = some (qtr k) ∧ qtr k < 4294967296 ∧ qwh k < 4294967296 ∧ cntB (qwh k) = cntB (qtr k) ∧ ∀ w, Calls Try.prog 16 #[.float .f32 (qwh k), .float .f32 (qtr k), .float .f32 1056964608] w fun e w' => e = .returned (.bool true) ∧ w' = w := by
  have hk := qtr_ok k h
  unfold qtrOk at hk
  simp only [Bool.and_eq_true, Bool.or_eq_true, decide_eq_true_eq] at hk
  obtain ⟨⟨⟨⟨⟨h1, h2⟩, h3⟩, h4⟩, h5⟩, h6⟩ := hk
  refine ⟨h1, h2, h3, h6, fun w => ?_⟩
  rcases h5 with h5 | ⟨h5, h7⟩
  · exact f6near_up _ _ _ _ h4 h5 (by omega) w
  · obtain ⟨r, hr⟩ : ∃ r, qdf k = 2147483648 + r := ⟨qdf k - 2147483648, by omega⟩
    rw [hr] at h4 h5 h7
    exact f6near_dn _ _ _ r h4 (by omega) (by omega) (by omega) (by omega) w

theorem q_int {P : Program} {W : World} {o : Oper} {a : Act} {K : Act → Prop} {g : Nat} {c : Array Value} {T : TypeId} (ty : TypeId) (x : Operand) (ho : o.op = .load ty x) (d : TypeDesc) (hu : P.underlying ty = some d) (hd : (match d with | .struct _ | .array _ _ => true | _ => false) = false) (k : Nat) (hx : a.eval x = .pointer (some ⟨g, k, none⟩)) (hA : At W g c T) (v : Value) (hk : c[k]? = some v) (hK : K (a.put o.dst v)) : o.quiet P a (Cb W) K :=
  q_load ty x ho _ hx v (fun w hw => run_load_one w ty d hu hd _ v ((At.step hA hw).cell hk)) hK

set_option maxRecDepth 100000
set_option maxHeartbeats 8000000 in
theorem walk (W : World) (a0 : Option Addr) (c0 : Nat) (x0 : List Nat) (h0 : BSl W a0 x0) (a1 : Option Addr) (c1 : Nat) (x1 : List Nat) (h1 : BSl W a1 x1) :
    Calls Try.prog 3 #[.slice a0 x0.length c0, .slice a1 x1.length c1] W (True? W) := by
  by_cases hb0 : 4096 < x0.length
  · have KB := f6big_any a0 x0.length c0 h0.len W
    rw [decide_eq_true hb0] at KB
    go_enter Try.func3, Try.ntmps3
    go_wp2_with fail
    refine KB.mono ?_
    rintro e w1 ⟨rfl, rfl⟩
    go_wp2_with fail
    go_ret
    exact ⟨rfl, Below.refl _ _⟩
  have KB0 := f6big_any a0 x0.length c0 h0.len W
  rw [decide_eq_false hb0] at KB0
  by_cases hb1 : 4096 < x1.length
  · have KB := f6big_any a1 x1.length c1 h1.len W
    rw [decide_eq_true hb1] at KB
    go_enter Try.func3, Try.ntmps3
    go_wp2_with fail
    refine KB0.mono ?_
    rintro e w1 ⟨rfl, rfl⟩
    go_wp2_with fail
    refine KB.mono ?_
    rintro e w1 ⟨rfl, rfl⟩
    go_wp2_with fail
    go_ret
    exact ⟨rfl, Below.refl _ _⟩
  have KB1 := f6big_any a1 x1.length c1 h1.len W
  rw [decide_eq_false hb1] at KB1
  clear hb0 hb1
  have BW := Lib.hid (Below.refl W.heap.size W)
  go_enter Try.func3, Try.ntmps3
  go_wp2_with fail
  refine KB0.mono ?_
  rintro e w0 ⟨rfl, rfl⟩
  go_wp2_with fail
  refine KB1.mono ?_
  rintro e w0 ⟨rfl, rfl⟩
  clear KB0 KB1
  go_wp2_with fail
  refine (P6Road_e a0 c0 x0 _ h0).mono ?_
  rintro e w1 ⟨cs, p, b, l, rfl, hl, hok, hb⟩
  have ok := OkR.of hl hok
  replace BW := Lib.hid (BW.out.trans (hb.mono BW.out.size))
  clear hb
  have L := At.new w1 (rd (zeros 16) 0 0 0) 28
  have A5 := L.setRow (rd cs p b l)
  replace BW := Lib.hid (bset (BW.out.alloc BW.out.size (.cells (rd (zeros 16) 0 0 0) 28)) (g := w1.heap.size) BW.out.size (rd cs p b l))
  go_wp2_with (first | ((with_reducible refine is_store 28 _ _ rfl ?_); refine wpList_store_at rfl 28 _ _ rfl _ rfl (rd cs p b l) rfl (rd (zeros 16) 0 0 0) _ L 19 (rd_size hl p b l) (rd_size (zeros_len 16) 0 0 0) (by kernel_rfl) (rd_one cs p b l) ?_))
  rw [show (#[.float .f32 0, .float .f32 0, .float .f32 0, .float .f32 0, .float .f32 0, .float .f32 0, .float .f32 0, .float .f32 0, .float .f32 0, .float .f32 0, .float .f32 0, .float .f32 0, .float .f32 0, .float .f32 0, .float .f32 0, .float .f32 0, .float .f32 0, .float .f32 0, .float .f32 0] : Array Value) = rd (zeros 16) 0 0 0 from by kernel_rfl]
  clear L
  generalize World.setRow _ _ _ = w2 at A5 BW ⊢
  have H2 := h1.step BW.out (Nat.le_refl _)
  refine (P6Pick_e a1 c1 x1 15 (by omega) (by omega) _ H2).mono ?_
  rintro e w3 ⟨cn, rfl, hcn, hb⟩
  clear H2
  replace A5 := A5.step hb
  replace BW := Lib.hid (BW.out.trans (hb.mono BW.out.size))
  clear hb
  have hin : inB 0 14 (cn : Int) = true := decide_eq_true (by omega)
  have KP := fun w => PlaceDetector_any (cn : Int) w
  rw [vPlaceD_yes hin] at KP
  go_wp2_with fail
  refine (KP _).mono ?_
  rintro e w4 ⟨rfl, hb⟩
  clear KP
  replace A5 := A5.step hb
  replace BW := Lib.hid (BW.out.trans (hb.mono BW.out.size))
  clear hb
  have hcs16 := ok.cars
  have hc : ∀ x ∈ cs, x < 4294967296 := fun x hx => by have := hcs16 x hx; omega
  have HC := Lib.hid hc
  have HB := Lib.hid (And.intro ok.pace (And.intro ok.back ok.lanes))
  have HL := Lib.hid hl
  have KV := fun w => ValidDetector_any (cn : Int) 0 0 0 0 (by omega) (by omega) w
  rw [show okD (cn : Int) 0 0 0 0 = true from okD_yes hin (by decide) (by omega) (by omega) (by decide) (by decide)] at KV
  have KF := fun w => sFlowBetween_any cs p b l hl hc (by have := ok.pace; omega) (by have := ok.back; omega) (by have := ok.lanes; omega) (cn : Int) (by omega) w
  rw [vFlowBetween_yes hok hcn] at KF
  clear hcs16 hc
  have HG := Lib.hid (And.intro BW.out.size A5.lt)
  have L := At.new w4 (dt 0 0 0 0 0) 33
  have D7 := L.setRow (dt (cn : Int) 0 0 0 0)
  replace A5 := (A5.alloc (.cells (dt 0 0 0 0 0) 33)).setRow_other (k := w4.heap.size) (Nat.ne_of_lt A5.lt) (dt (cn : Int) 0 0 0 0)
  replace BW := Lib.hid (bset (BW.out.alloc BW.out.size (.cells (dt 0 0 0 0 0) 33)) (g := w4.heap.size) BW.out.size (dt (cn : Int) 0 0 0 0))
  go_wp2_with (first | ((with_reducible refine is_store 33 _ _ rfl ?_); refine wpList_store_at rfl 33 _ _ rfl _ rfl (dt (cn : Int) 0 0 0 0) rfl (dt 0 0 0 0 0) _ L 5 (dt_size _ _ _ _ _) (dt_size _ _ _ _ _) (by kernel_rfl) (dt_one _ _ _ _ _) ?_) | ((with_reducible refine is_load 33 _ rfl ?_); refine wpList_load_part_g rfl 33 _ rfl _ 0 rfl (dt (cn : Int) 0 0 0 0) _ D7 5 (by rw [dt_size]; omega) _ Try.underlying33 rfl (by kernel_rfl) (dt (cn : Int) 0 0 0 0) (by rw [Nat.zero_add, Array.extract_eq_self_of_le (by rw [dt_size]; exact Nat.le_refl _)]) ?_))
  rw [show (#[.int .i64 0, .float .f32 0, .int .i16 0, .float .f32 0, .int .i64 0] : Array Value) = dt 0 0 0 0 0 from by kernel_rfl]
  clear L
  generalize World.setRow _ _ _ = w5 at A5 D7 BW ⊢
  refine (KV _).mono ?_
  rintro e w6 ⟨rfl, hb⟩
  clear KV
  replace A5 := A5.step hb
  replace D7 := D7.step hb
  replace BW := Lib.hid (BW.out.trans (hb.mono BW.out.size))
  clear hb
  go_wp2_with (first | ((with_reducible refine is_load 28 _ rfl ?_); refine wpList_load_at rfl 28 _ rfl _ rfl (rd cs p b l) _ A5 19 (rd_size hl p b l) _ Try.underlying28 rfl (by kernel_rfl) ?_))
  refine (KF _).mono ?_
  rintro e w7 ⟨rfl, hb⟩
  clear KF
  replace A5 := A5.step hb
  replace D7 := D7.step hb
  replace BW := Lib.hid (BW.out.trans (hb.mono BW.out.size))
  clear hb
  go_wp2_with fail
  have H2 := h1.step BW.out (Nat.le_refl _)
  refine (P6Pick_e a1 c1 x1 20 (by omega) (by omega) _ H2).mono ?_
  rintro e w8 ⟨m, rfl, hm, hb⟩
  clear H2
  replace A5 := A5.step hb
  replace D7 := D7.step hb
  replace BW := Lib.hid (BW.out.trans (hb.mono BW.out.size))
  clear hb
  obtain ⟨n, hn⟩ : ∃ n, n = m + 1 := ⟨_, rfl⟩
  have s1 : IntKind.i64.wrap (1 + (m : Int)) = (n : Int) := by rw [IntWalk.i64_in _ (by omega)]; omega
  have HN := Lib.hid (show 1 ≤ n ∧ n ≤ 20 by omega)
  clear hn hm
  have hfl := flowW_le (k := cn) ok
  obtain ⟨x, hx⟩ : ∃ x, x = mulB (flowW p b cs cn) l := ⟨_, rfl⟩
  obtain ⟨cc, hcc⟩ : ∃ cc, cc = nth cs cn := ⟨_, rfl⟩
  have hm1 := (mul_eq (x := flowW p b cs cn) (y := l) (by omega) (by have := ok.lanes; omega)).1
  rw [← hx] at hm1
  have hx8 : x ≤ 1090519040 := by rw [hx]; exact Nat.le_trans (mul_share hfl (by have := ok.lanes; omega)) ok.lanes.2
  have hcc1 : cc ≤ 1065353216 := by rw [hcc]; exact ok.car cn
  have HX := Lib.hid (And.intro hx (And.intro hx8 (And.intro hcc hcc1)))
  have s2 := fun t w => run_float_arith (P := Try.prog) w .mul t .f32 _ _ _ hm1
  clear hm1 hx hx8 hcc hcc1 hfl
  go_wp2_with fail
  clear s1
  go_loopw [12, 13] (fun s iv wr => ∃ k : Nat, k ≤ n ∧ s = .float .f32 (sC x k) ∧ iv = .int .i64 (k : Int) ∧ At wr w1.heap.size (rd cs p b l) 28 ∧ At wr w4.heap.size (dt (cn : Int) (yC x k) ((cC x k : Nat) : Int) (sC cc k) ((k : Nat) : Int)) 33 ∧ Hid (Below w0.heap.size w0 wr)) (fun _ iv _ => n - (intOf iv).toNat)
  case atStart => exact ⟨0, by omega, rfl, rfl, A5, D7, BW⟩
  case round =>
    clear A5 D7 BW
    obtain ⟨k, hk, rfl, rfl, A5, D7, BW⟩ := hrel
    by_cases hlt : k < n
    · have kd : (k : Int) < (n : Int) := by omega
      have k20 : k < 20 := by have := HN.out; omega
      obtain ⟨-, -, c3, c4⟩ := cC_near HX.out.2.1 k (by omega)
      obtain ⟨-, -, f3⟩ := sC_near (x := cc) (by have := HX.out.2.2.2; omega) k (by omega)
      obtain ⟨-, -, c3', c4'⟩ := cC_near HX.out.2.1 (k + 1) (by omega)
      obtain ⟨-, -, f3'⟩ := sC_near (x := cc) (by have := HX.out.2.2.2; omega) (k + 1) (by omega)
      have KW := fun w => WatchRoad_any (cn : Int) (yC x k) ((cC x k : Nat) : Int) (sC cc k) ((k : Nat) : Int) (by omega) (by omega) (by omega) cs p b l HL.out HC.out (by have := HB.out; omega) (by have := HB.out; omega) (by have := HB.out; omega) w
      have KWs := fun w => sWatchRoad_any (cn : Int) (yC x k) ((cC x k : Nat) : Int) (sC cc k) ((k : Nat) : Int) (by omega) (by omega) (by omega) cs p b l HL.out HC.out (by have := HB.out; omega) (by have := HB.out; omega) (by have := HB.out; omega) w
      rw [det_step hok hcn HX.out.2.1 HX.out.2.2.2 HX.out.1 HX.out.2.2.1 k20] at KW KWs
      have KS := fun w => SameDetector_any (cn : Int) (yC x (k + 1)) ((cC x (k + 1) : Nat) : Int) (sC cc (k + 1)) (((k : Nat) : Int) + 1) (by omega) (by omega) (cn : Int) (yC x (k + 1)) ((cC x (k + 1) : Nat) : Int) (sC cc (k + 1)) (((k : Nat) : Int) + 1) (by omega) (by omega) w
      have KSs := fun w => sSameDetector_any (cn : Int) (yC x (k + 1)) ((cC x (k + 1) : Nat) : Int) (sC cc (k + 1)) (((k : Nat) : Int) + 1) (by omega) (by omega) (cn : Int) (yC x (k + 1)) ((cC x (k + 1) : Nat) : Int) (sC cc (k + 1)) (((k : Nat) : Int) + 1) (by omega) (by omega) w
      rw [sameD_self _ _ _ (by omega) (by omega)] at KS KSs
      have s3 : IntKind.i64.wrap ((k : Int) + 1) = (k : Int) + 1 := IntWalk.i64_in _ (by omega)
      have hsx := (sC_near (x := x) HX.out.2.1 k (by omega)).2.2
      have s4 := fun t w => run_float_arith (P := Try.prog) w .add t .f32 _ _ _ (add_eq (x := sC x k) (y := x) (by omega) (by have := HX.out.2.1; omega)).1
      rw [show addB (sC x k) x = sC x (k + 1) from rfl] at s4
      clear c3 c4 f3 c3' c4' f3' hsx
      go_wp2_with (first | ((with_reducible refine is_load 33 _ rfl ?_); refine wpList_load_at rfl 33 _ rfl _ rfl (dt (cn : Int) (yC x k) ((cC x k : Nat) : Int) (sC cc k) ((k : Nat) : Int)) _ D7 5 (dt_size _ _ _ _ _) _ Try.underlying33 rfl (by kernel_rfl) ?_) | ((with_reducible refine is_load 28 _ rfl ?_); refine wpList_load_at rfl 28 _ rfl _ rfl (rd cs p b l) _ A5 19 (rd_size HL.out p b l) _ Try.underlying28 rfl (by kernel_rfl) ?_))
      refine (KW _).mono ?_
      rintro e u1 ⟨rfl, hb⟩
      clear KW
      replace A5 := A5.step hb
      replace D7 := D7.step hb
      replace BW := Lib.hid (BW.out.trans (hb.mono BW.out.size))
      clear hb
      have L := At.new u1 (dt 0 0 0 0 0) 33
      have D14 := L.setRow (dt (cn : Int) (yC x (k + 1)) ((cC x (k + 1) : Nat) : Int) (sC cc (k + 1)) (((k : Nat) : Int) + 1))
      replace A5 := (A5.alloc (.cells (dt 0 0 0 0 0) 33)).setRow_other (k := u1.heap.size) (Nat.ne_of_lt A5.lt) (dt (cn : Int) (yC x (k + 1)) ((cC x (k + 1) : Nat) : Int) (sC cc (k + 1)) (((k : Nat) : Int) + 1))
      replace D7 := (D7.alloc (.cells (dt 0 0 0 0 0) 33)).setRow_other (k := u1.heap.size) (Nat.ne_of_lt D7.lt) (dt (cn : Int) (yC x (k + 1)) ((cC x (k + 1) : Nat) : Int) (sC cc (k + 1)) (((k : Nat) : Int) + 1))
      replace BW := Lib.hid (bset (BW.out.alloc BW.out.size (.cells (dt 0 0 0 0 0) 33)) (g := u1.heap.size) BW.out.size (dt (cn : Int) (yC x (k + 1)) ((cC x (k + 1) : Nat) : Int) (sC cc (k + 1)) (((k : Nat) : Int) + 1)))
      go_wp2_with (first | ((with_reducible refine is_store 33 _ _ rfl ?_); refine wpList_store_at rfl 33 _ _ rfl _ rfl (dt (cn : Int) (yC x (k + 1)) ((cC x (k + 1) : Nat) : Int) (sC cc (k + 1)) (((k : Nat) : Int) + 1)) rfl (dt 0 0 0 0 0) _ L 5 (dt_size _ _ _ _ _) (dt_size _ _ _ _ _) (by kernel_rfl) (dt_one _ _ _ _ _) ?_) | ((with_reducible refine is_load 33 _ rfl ?_); refine wpList_load_at rfl 33 _ rfl _ rfl (dt (cn : Int) (yC x k) ((cC x k : Nat) : Int) (sC cc k) ((k : Nat) : Int)) _ D7 5 (dt_size _ _ _ _ _) _ Try.underlying33 rfl (by kernel_rfl) ?_) | ((with_reducible refine is_load 28 _ rfl ?_); refine wpList_load_at rfl 28 _ rfl _ rfl (rd cs p b l) _ A5 19 (rd_size HL.out p b l) _ Try.underlying28 rfl (by kernel_rfl) ?_))
      rw [show (#[.int .i64 0, .float .f32 0, .int .i16 0, .float .f32 0, .int .i64 0] : Array Value) = dt 0 0 0 0 0 from by kernel_rfl]
      clear L
      generalize World.setRow _ _ _ = u2 at A5 D7 D14 BW ⊢
      refine (KWs _).mono ?_
      rintro e u3 ⟨rfl, hb⟩
      clear KWs
      replace A5 := A5.step hb
      replace D7 := D7.step hb
      replace D14 := D14.step hb
      replace BW := Lib.hid (BW.out.trans (hb.mono BW.out.size))
      clear hb
      have L := At.new u3 (dt 0 0 0 0 0) 33
      have D16 := L.setRow (dt (cn : Int) (yC x (k + 1)) ((cC x (k + 1) : Nat) : Int) (sC cc (k + 1)) (((k : Nat) : Int) + 1))
      replace A5 := (A5.alloc (.cells (dt 0 0 0 0 0) 33)).setRow_other (k := u3.heap.size) (Nat.ne_of_lt A5.lt) (dt (cn : Int) (yC x (k + 1)) ((cC x (k + 1) : Nat) : Int) (sC cc (k + 1)) (((k : Nat) : Int) + 1))
      replace D7 := (D7.alloc (.cells (dt 0 0 0 0 0) 33)).setRow_other (k := u3.heap.size) (Nat.ne_of_lt D7.lt) (dt (cn : Int) (yC x (k + 1)) ((cC x (k + 1) : Nat) : Int) (sC cc (k + 1)) (((k : Nat) : Int) + 1))
      replace D14 := (D14.alloc (.cells (dt 0 0 0 0 0) 33)).setRow_other (k := u3.heap.size) (Nat.ne_of_lt D14.lt) (dt (cn : Int) (yC x (k + 1)) ((cC x (k + 1) : Nat) : Int) (sC cc (k + 1)) (((k : Nat) : Int) + 1))
      replace BW := Lib.hid (bset (BW.out.alloc BW.out.size (.cells (dt 0 0 0 0 0) 33)) (g := u3.heap.size) BW.out.size (dt (cn : Int) (yC x (k + 1)) ((cC x (k + 1) : Nat) : Int) (sC cc (k + 1)) (((k : Nat) : Int) + 1)))
      go_wp2_with (first | ((with_reducible refine is_store 33 _ _ rfl ?_); refine wpList_store_at rfl 33 _ _ rfl _ rfl (dt (cn : Int) (yC x (k + 1)) ((cC x (k + 1) : Nat) : Int) (sC cc (k + 1)) (((k : Nat) : Int) + 1)) rfl (dt 0 0 0 0 0) _ L 5 (dt_size _ _ _ _ _) (dt_size _ _ _ _ _) (by kernel_rfl) (dt_one _ _ _ _ _) ?_) | ((with_reducible refine is_load 33 _ rfl ?_); refine wpList_load_part_g rfl 33 _ rfl _ 0 rfl (dt (cn : Int) (yC x (k + 1)) ((cC x (k + 1) : Nat) : Int) (sC cc (k + 1)) (((k : Nat) : Int) + 1)) _ D14 5 (by rw [dt_size]; omega) _ Try.underlying33 rfl (by kernel_rfl) (dt (cn : Int) (yC x (k + 1)) ((cC x (k + 1) : Nat) : Int) (sC cc (k + 1)) (((k : Nat) : Int) + 1)) (by rw [Nat.zero_add, Array.extract_eq_self_of_le (by rw [dt_size]; exact Nat.le_refl _)]) ?_) | ((with_reducible refine is_load 33 _ rfl ?_); refine wpList_load_part_g rfl 33 _ rfl _ 0 rfl (dt (cn : Int) (yC x (k + 1)) ((cC x (k + 1) : Nat) : Int) (sC cc (k + 1)) (((k : Nat) : Int) + 1)) _ D16 5 (by rw [dt_size]; omega) _ Try.underlying33 rfl (by kernel_rfl) (dt (cn : Int) (yC x (k + 1)) ((cC x (k + 1) : Nat) : Int) (sC cc (k + 1)) (((k : Nat) : Int) + 1)) (by rw [Nat.zero_add, Array.extract_eq_self_of_le (by rw [dt_size]; exact Nat.le_refl _)]) ?_))
      rw [show (#[.int .i64 0, .float .f32 0, .int .i16 0, .float .f32 0, .int .i64 0] : Array Value) = dt 0 0 0 0 0 from by kernel_rfl]
      clear L
      generalize World.setRow _ _ _ = u4 at A5 D7 D14 D16 BW ⊢
      refine (KSs _).mono ?_
      rintro e u5 ⟨rfl, hb⟩
      clear KSs
      replace A5 := A5.step hb
      replace D7 := D7.step hb
      replace D14 := D14.step hb
      replace D16 := D16.step hb
      replace BW := Lib.hid (BW.out.trans (hb.mono BW.out.size))
      clear hb
      go_wp2_with (first | ((with_reducible refine is_load 33 _ rfl ?_); refine wpList_load_part_g rfl 33 _ rfl _ 0 rfl (dt (cn : Int) (yC x (k + 1)) ((cC x (k + 1) : Nat) : Int) (sC cc (k + 1)) (((k : Nat) : Int) + 1)) _ D14 5 (by rw [dt_size]; omega) _ Try.underlying33 rfl (by kernel_rfl) (dt (cn : Int) (yC x (k + 1)) ((cC x (k + 1) : Nat) : Int) (sC cc (k + 1)) (((k : Nat) : Int) + 1)) (by rw [Nat.zero_add, Array.extract_eq_self_of_le (by rw [dt_size]; exact Nat.le_refl _)]) ?_) | ((with_reducible refine is_load 33 _ rfl ?_); refine wpList_load_part_g rfl 33 _ rfl _ 0 rfl (dt (cn : Int) (yC x (k + 1)) ((cC x (k + 1) : Nat) : Int) (sC cc (k + 1)) (((k : Nat) : Int) + 1)) _ D16 5 (by rw [dt_size]; omega) _ Try.underlying33 rfl (by kernel_rfl) (dt (cn : Int) (yC x (k + 1)) ((cC x (k + 1) : Nat) : Int) (sC cc (k + 1)) (((k : Nat) : Int) + 1)) (by rw [Nat.zero_add, Array.extract_eq_self_of_le (by rw [dt_size]; exact Nat.le_refl _)]) ?_))
      refine (KS _).mono ?_
      rintro e u6 ⟨rfl, hb⟩
      clear KS
      replace A5 := A5.step hb
      replace D7 := D7.step hb
      replace D14 := D14.step hb
      replace D16 := D16.step hb
      replace BW := Lib.hid (BW.out.trans (hb.mono BW.out.size))
      clear hb
      have n5 : w1.heap.size ≠ w4.heap.size := Nat.ne_of_lt HG.out.2
      have E7 := D7.setRow (dt (cn : Int) (yC x (k + 1)) ((cC x (k + 1) : Nat) : Int) (sC cc (k + 1)) (((k : Nat) : Int) + 1))
      have E5 := A5.setRow_other (k := w4.heap.size) n5 (dt (cn : Int) (yC x (k + 1)) ((cC x (k + 1) : Nat) : Int) (sC cc (k + 1)) (((k : Nat) : Int) + 1))
      have EB := Lib.hid (bset BW.out (g := w4.heap.size) HG.out.1 (dt (cn : Int) (yC x (k + 1)) ((cC x (k + 1) : Nat) : Int) (sC cc (k + 1)) (((k : Nat) : Int) + 1)))
      have cl := E5.cell (rd_lanes HL.out p b l)
      go_wp2_with (first | ((with_reducible refine is_load 33 _ rfl ?_); refine wpList_load_at rfl 33 _ rfl _ rfl (dt (cn : Int) (yC x (k + 1)) ((cC x (k + 1) : Nat) : Int) (sC cc (k + 1)) (((k : Nat) : Int) + 1)) _ D16 5 (dt_size _ _ _ _ _) _ Try.underlying33 rfl (by kernel_rfl) ?_) | ((with_reducible refine is_store 33 _ _ rfl ?_); refine wpList_store_at rfl 33 _ _ rfl _ rfl (dt (cn : Int) (yC x (k + 1)) ((cC x (k + 1) : Nat) : Int) (sC cc (k + 1)) (((k : Nat) : Int) + 1)) rfl (dt (cn : Int) (yC x k) ((cC x k : Nat) : Int) (sC cc k) ((k : Nat) : Int)) _ D7 5 (dt_size _ _ _ _ _) (dt_size _ _ _ _ _) (by kernel_rfl) (dt_one _ _ _ _ _) ?_))
      exact ⟨⟨k + 1, by omega, rfl, by go_num, E5, E7, EB⟩, by simp [intOf]; omega⟩
    · obtain rfl : k = n := by omega
      have hk1 := HN.out
      obtain ⟨-, -, c3, c4⟩ := cC_near HX.out.2.1 k (by omega)
      obtain ⟨-, -, f3⟩ := sC_near (x := cc) (by have := HX.out.2.2.2; omega) k (by omega)
      obtain ⟨fu, g1, g2, g3, g4, g5, g6⟩ := full_near HX.out.2.2.2 (n := k) (by omega) (by omega)
      obtain ⟨d1, d2, d3, d4, d5⟩ := det_near HX.out.2.1 (n := k) (by omega)
      have KR := fun w => ReadOff_any (cn : Int) (yC x k) ((cC x k : Nat) : Int) (sC cc k) ((k : Nat) : Int) (by omega) (by omega) ((k : Nat) : Int) w
      have KRs := fun w => sReadOff_any (cn : Int) (yC x k) ((cC x k : Nat) : Int) (sC cc k) ((k : Nat) : Int) (by omega) (by omega) ((k : Nat) : Int) w
      rw [det_read hcn HX.out.2.1 HX.out.2.2.2 (by omega), g1] at KR KRs
      have KQ := fun w => sSameDetector_any (cn : Int) (yC x k) 0 0 0 (by omega) (by omega) (cn : Int) (yC x k) 0 0 0 (by omega) (by omega) w
      rw [sameD_self _ _ _ (by omega) (by omega)] at KQ
      have kn : ¬ (k : Int) < (k : Int) := by omega
      have yne : (FloatKind.f32.format.order (yC x k) (yC x k) != some .eq) = false := by
        have := eq_amt (x := yC x k) (y := yC x k) (by omega) (by omega)
        rw [decide_eq_true rfl] at this
        exact congrArg not this
      have tq := fun w => run_neq_tally w ((k : Nat) : Int) ((cC x k : Nat) : Int) ((fu : Nat) : Int)
      have e1 : rv 23 1008981770 = rv 23 1008981770 := rfl
      have e41 : 41 * gD ≤ rv 23 1008981770 := by decide +kernel
      have KN1 := fun w => f6near_yes (addB (fN (cC x k)) (yC x k)) (sC x k) 1008981770 d2 d3 (by omega) (by omega) (by omega) w
      have KN2 := fun w => f6near_yes (fN fu) (mulB 1148846080 cc) 1065353216 (fN_fin (by omega)) g4 (by omega) (by rw [rv_11]; exact g5) (by rw [rv_11]; exact g6) w
      have s5 := fun t w => run_float_arith (P := Try.prog) w .add t .f32 _ _ _ d1
      have s6 := fun t w => run_float_arith (P := Try.prog) w .mul t .f32 _ _ _ g3
      have i1 : floatOfInt .f32 ((cC x k : Nat) : Int) = fN (cC x k) := floatOfInt_nat _
      have i2 : floatOfInt .f32 ((fu : Nat) : Int) = fN fu := floatOfInt_nat _
      have dcc : (rd cs p b l)[cn]? = some (.float .f32 cc) := by rw [HX.out.2.2.1]; exact rd_cell HL.out p b l (by omega)
      have kcn : (cn : Int) < 16 := by omega
      clear c3 c4 f3 g1 g2 g3 g4 g5 g6 d1 d2 d3 d4 d5 e1 e41 hk1
      go_wp2_with (first | ((with_reducible refine is_load 33 _ rfl ?_); refine wpList_load_at rfl 33 _ rfl _ rfl (dt (cn : Int) (yC x k) ((cC x k : Nat) : Int) (sC cc k) ((k : Nat) : Int)) _ D7 5 (dt_size _ _ _ _ _) _ Try.underlying33 rfl (by kernel_rfl) ?_))
      refine (KR _).mono ?_
      rintro e u1 ⟨rfl, hb⟩
      clear KR
      replace A5 := A5.step hb
      replace D7 := D7.step hb
      replace BW := Lib.hid (BW.out.trans (hb.mono BW.out.size))
      clear hb
      have La : At ((u1.alloc (.cells (t1 0 0 0) 42)).alloc (.cells (dt 0 0 0 0 0) 33)) u1.heap.size (t1 0 0 0) 42 := (At.new u1 _ _).alloc _
      have Lb : At ((u1.alloc (.cells (t1 0 0 0) 42)).alloc (.cells (dt 0 0 0 0 0) 33)) (u1.heap.size + 1) (dt 0 0 0 0 0) 33 := At.last1 u1 _ _ _
      have Lc := Lb.setRow_other (k := u1.heap.size) (by omega) (t1 ((k : Nat) : Int) ((cC x k : Nat) : Int) ((fu : Nat) : Int))
      have Y18 := (La.setRow (t1 ((k : Nat) : Int) ((cC x k : Nat) : Int) ((fu : Nat) : Int))).setRow_other (k := u1.heap.size + 1) (by omega) (dt (cn : Int) (yC x k) 0 0 0)
      have R19 := Lc.setRow (dt (cn : Int) (yC x k) 0 0 0)
      have hset : Below u1.heap.size u1 ((((u1.alloc (.cells (t1 0 0 0) 42)).alloc (.cells (dt 0 0 0 0 0) 33)).setRow u1.heap.size (t1 ((k : Nat) : Int) ((cC x k : Nat) : Int) ((fu : Nat) : Int))).setRow (u1.heap.size + 1) (dt (cn : Int) (yC x k) 0 0 0)) := bset (bset (bnew (b0 u1 (.cells (t1 0 0 0) 42)) (.cells (dt 0 0 0 0 0) 33)) (Nat.le_refl _) (t1 ((k : Nat) : Int) ((cC x k : Nat) : Int) ((fu : Nat) : Int))) (by omega) (dt (cn : Int) (yC x k) 0 0 0)
      replace A5 := A5.step hset
      replace D7 := D7.step hset
      replace BW := Lib.hid (BW.out.trans (hset.mono BW.out.size))
      clear hset
      go_wp2_with (first | ((with_reducible refine is_store 42 _ _ rfl ?_); refine wpList_store_at rfl 42 _ _ rfl _ rfl (t1 ((k : Nat) : Int) ((cC x k : Nat) : Int) ((fu : Nat) : Int)) rfl (t1 0 0 0) _ La 3 (t1_size _ _ _) (t1_size _ _ _) (by kernel_rfl) (by unfold t1; rw [List.all_toArray]; rfl) ?_) | ((with_reducible refine is_store 33 _ _ rfl ?_); refine wpList_store_at rfl 33 _ _ rfl _ rfl (dt (cn : Int) (yC x k) 0 0 0) rfl (dt 0 0 0 0 0) _ Lc 5 (dt_size _ _ _ _ _) (dt_size _ _ _ _ _) (by kernel_rfl) (dt_one _ _ _ _ _) ?_) | ((with_reducible refine is_load 33 _ rfl ?_); refine wpList_load_at rfl 33 _ rfl _ rfl (dt (cn : Int) (yC x k) ((cC x k : Nat) : Int) (sC cc k) ((k : Nat) : Int)) _ D7 5 (dt_size _ _ _ _ _) _ Try.underlying33 rfl (by kernel_rfl) ?_))
      rw [show (#[.int .i64 0, .int .i16 0, .int .i16 0] : Array Value) = t1 0 0 0 from by kernel_rfl, show (#[.int .i64 0, .float .f32 0, .int .i16 0, .float .f32 0, .int .i64 0] : Array Value) = dt 0 0 0 0 0 from by kernel_rfl]
      clear La Lb Lc
      generalize World.setRow _ _ _ = u2 at A5 D7 Y18 R19 BW ⊢
      refine (KRs _).mono ?_
      rintro e u3 ⟨rfl, hb⟩
      clear KRs
      replace A5 := A5.step hb
      replace D7 := D7.step hb
      replace Y18 := Y18.step hb
      replace R19 := R19.step hb
      replace BW := Lib.hid (BW.out.trans (hb.mono BW.out.size))
      clear hb
      have La : At ((u3.alloc (.cells (t1 0 0 0) 42)).alloc (.cells (dt 0 0 0 0 0) 33)) u3.heap.size (t1 0 0 0) 42 := (At.new u3 _ _).alloc _
      have Lb : At ((u3.alloc (.cells (t1 0 0 0) 42)).alloc (.cells (dt 0 0 0 0 0) 33)) (u3.heap.size + 1) (dt 0 0 0 0 0) 33 := At.last1 u3 _ _ _
      have Lc := Lb.setRow_other (k := u3.heap.size) (by omega) (t1 ((k : Nat) : Int) ((cC x k : Nat) : Int) ((fu : Nat) : Int))
      have Y21 := (La.setRow (t1 ((k : Nat) : Int) ((cC x k : Nat) : Int) ((fu : Nat) : Int))).setRow_other (k := u3.heap.size + 1) (by omega) (dt (cn : Int) (yC x k) 0 0 0)
      have R22 := Lc.setRow (dt (cn : Int) (yC x k) 0 0 0)
      have hset : Below u3.heap.size u3 ((((u3.alloc (.cells (t1 0 0 0) 42)).alloc (.cells (dt 0 0 0 0 0) 33)).setRow u3.heap.size (t1 ((k : Nat) : Int) ((cC x k : Nat) : Int) ((fu : Nat) : Int))).setRow (u3.heap.size + 1) (dt (cn : Int) (yC x k) 0 0 0)) := bset (bset (bnew (b0 u3 (.cells (t1 0 0 0) 42)) (.cells (dt 0 0 0 0 0) 33)) (Nat.le_refl _) (t1 ((k : Nat) : Int) ((cC x k : Nat) : Int) ((fu : Nat) : Int))) (by omega) (dt (cn : Int) (yC x k) 0 0 0)
      replace A5 := A5.step hset
      replace D7 := D7.step hset
      replace Y18 := Y18.step hset
      replace R19 := R19.step hset
      replace BW := Lib.hid (BW.out.trans (hset.mono BW.out.size))
      clear hset
      go_wp2_with (first | ((with_reducible refine is_store 42 _ _ rfl ?_); refine wpList_store_at rfl 42 _ _ rfl _ rfl (t1 ((k : Nat) : Int) ((cC x k : Nat) : Int) ((fu : Nat) : Int)) rfl (t1 0 0 0) _ La 3 (t1_size _ _ _) (t1_size _ _ _) (by kernel_rfl) (by unfold t1; rw [List.all_toArray]; rfl) ?_) | ((with_reducible refine is_store 33 _ _ rfl ?_); refine wpList_store_at rfl 33 _ _ rfl _ rfl (dt (cn : Int) (yC x k) 0 0 0) rfl (dt 0 0 0 0 0) _ Lc 5 (dt_size _ _ _ _ _) (dt_size _ _ _ _ _) (by kernel_rfl) (dt_one _ _ _ _ _) ?_; refine hold ?_))
      refine Lib.hid ?_
      rw [show (#[.int .i64 0, .int .i16 0, .int .i16 0] : Array Value) = t1 0 0 0 from by kernel_rfl, show (#[.int .i64 0, .float .f32 0, .int .i16 0, .float .f32 0, .int .i64 0] : Array Value) = dt 0 0 0 0 0 from by kernel_rfl]
      clear La Lb Lc
      generalize World.setRow _ _ _ = u4 at A5 D7 Y18 R19 Y21 R22 BW ⊢
      refine wpList_quiet (C := Cb u4) _ _ _ ⟨rfl, rfl, rfl, Nat.le_refl _, fun _ _ => rfl⟩ ?_
      repeat (first | go_big_quiet_skip | (go_big_quiet_want; go_big_quiet_op; go_big_quiet_on))
      refine wpQuiet_nil ?_
      intro u5 hb
      replace A5 := A5.step hb
      replace D7 := D7.step hb
      replace Y18 := Y18.step hb
      replace R19 := R19.step hb
      replace Y21 := Y21.step hb
      replace R22 := R22.step hb
      replace BW := Lib.hid (BW.out.trans (hb.mono BW.out.size))
      clear hb
      rename_i K0 hK0
      change K0 _ _
      refine hK0 _ _ ?_
      apply wp_seq_k; intro K1 hK1
      apply wp_seq_k; intro K2 hK2
      first | refine wp_region_lit ?_ | refine wp_region_list ?_
      try dsimp only [List.append]
      have hC := Cb.const u5
      refine wpList_quiet (C := Cb u5) _ _ _ ⟨rfl, rfl, rfl, Nat.le_refl _, fun _ _ => rfl⟩ ?_
      repeat (first
        | go_big_quiet_skip
        | (go_big_quiet_want; first
          | (refine q_row 42 _ rfl rfl Y18 3 (t1_size _ _ _) _ Try.underlying42 rfl (by kernel_rfl) ?_; go_simp; go_big_quiet_on)
          | (refine q_row 42 _ rfl rfl Y21 3 (t1_size _ _ _) _ Try.underlying42 rfl (by kernel_rfl) ?_; go_simp; go_big_quiet_on)
          | (refine q_row 33 _ rfl rfl R19 5 (dt_size _ _ _ _ _) _ Try.underlying33 rfl (by kernel_rfl) ?_; go_simp; go_big_quiet_on)
          | (refine q_row 33 _ rfl rfl R22 5 (dt_size _ _ _ _ _) _ Try.underlying33 rfl (by kernel_rfl) ?_; go_simp; go_big_quiet_on)
          | (refine q_int 2 _ rfl _ Try.underlying2 rfl _ rfl R22 _ (dt_4 _ _ _ _ _) ?_; go_simp; go_big_quiet_on)
          | (refine q_int 2 _ rfl _ Try.underlying2 rfl _ rfl R22 _ (dt_0 _ _ _ _ _) ?_; go_simp; go_big_quiet_on)
          | (refine q_int 31 _ rfl _ Try.underlying31 rfl _ rfl R22 _ (dt_2 _ _ _ _ _) ?_; go_simp; go_big_quiet_on)
          | (refine q_cell 24 _ rfl _ Try.underlying24 _ rfl R22 _ (dt_1 _ _ _ _ _) ?_; go_simp; go_big_quiet_on)
          | (refine q_cell 24 _ rfl _ Try.underlying24 _ rfl D7 _ (dt_1 _ _ _ _ _) ?_; go_simp; go_big_quiet_on)
          | (refine q_neqT 42 _ _ rfl _ _ rfl rfl (by kernel_rfl) _ t1 ?_; go_simp; go_big_quiet_on)
          | (go_big_quiet_op; go_big_quiet_on)
          | (go_big_quiet_op; apply Exists.intro; refine ⟨fun w' hw' => ?_, ?_⟩; (go_at_call 12; exact (KQ _).mono fun _ _ h => ⟨h.1, hw'.step h.2⟩); go_big_quiet_on)))
      refine wpQuiet_nil ?_
      intro u6 hb
      replace A5 := A5.step hb
      replace D7 := D7.step hb
      replace Y18 := Y18.step hb
      replace R19 := R19.step hb
      replace Y21 := Y21.step hb
      replace R22 := R22.step hb
      replace BW := Lib.hid (BW.out.trans (hb.mono BW.out.size))
      clear hb
      clear hC KQ tq yne
      change K2 _ _
      refine hK2 _ _ ?_
      go_wp2_with fail
      have hC := Cb.const u6
      refine wp_region_cb (by kernel_rfl) (by kernel_rfl) ?_
      repeat (first
        | go_big_quiet_skip
        | (go_big_quiet_want; first
          | (refine q_int 2 _ rfl _ Try.underlying2 rfl _ rfl Y21 _ (t1_0 _ _ _) ?_; go_simp; go_big_quiet_on)
          | (refine q_int 31 _ rfl _ Try.underlying31 rfl _ rfl Y21 _ (t1_1 _ _ _) ?_; go_simp; go_big_quiet_on)
          | (refine q_int 31 _ rfl _ Try.underlying31 rfl _ rfl Y21 _ (t1_2 _ _ _) ?_; go_simp; go_big_quiet_on)
          | (refine q_cell 24 _ rfl _ Try.underlying24 _ rfl D7 _ (dt_1 _ _ _ _ _) ?_; go_simp; go_big_quiet_on)
          | (refine q_cell 24 _ rfl _ Try.underlying24 _ rfl A5 _ dcc ?_; go_simp; go_big_quiet_on)
          | (go_big_quiet_op; go_big_quiet_on)
          | (go_big_quiet_op; apply Exists.intro; refine ⟨fun w' hw' => ?_, ?_⟩; (go_at_call 16; exact (KN1 _).mono fun _ _ h => ⟨h.1, h.2 ▸ hw'⟩); go_big_quiet_on; clear KN1)
          | (go_big_quiet_op; apply Exists.intro; refine ⟨fun w' hw' => ?_, ?_⟩; (go_at_call 16; exact (KN2 _).mono fun _ _ h => ⟨h.1, h.2 ▸ hw'⟩); go_big_quiet_on; clear KN2)))
      refine wpQuiet_nil ?_
      intro u7 hb
      replace A5 := A5.step hb
      replace D7 := D7.step hb
      replace Y18 := Y18.step hb
      replace R19 := R19.step hb
      replace Y21 := Y21.step hb
      replace R22 := R22.step hb
      replace BW := Lib.hid (BW.out.trans (hb.mono BW.out.size))
      clear hb
      clear hC s5 s6 i1 i2 dcc
      have H0 := h0.step BW.out (Nat.le_refl _)
      go_wp2_with fail
      refine (P6Big_e a0 c0 x0 _ H0).mono ?_
      rintro e u8 ⟨q, rfl, hq, hb⟩
      clear H0
      replace A5 := A5.step hb
      replace D7 := D7.step hb
      replace Y18 := Y18.step hb
      replace R19 := R19.step hb
      replace Y21 := Y21.step hb
      replace R22 := R22.step hb
      replace BW := Lib.hid (BW.out.trans (hb.mono BW.out.size))
      clear hb
      obtain ⟨r1, r2, r3, r4, r5⟩ := near_qtr hq
      have KT := fun w => ToCount_any (qtr q) r2 w
      have KT2 := fun w => ToCount_any (qwh q) r3 w
      rw [r4] at KT2
      have i3 : floatOfInt .f32 (cntB (qtr q)) = qwh q := rfl
      have s7 := fun t w => run_float_arith (P := Try.prog) w .quo t .f32 _ _ _ r1
      have s8 : IntKind.i64.wrap ((q : Int) - 1000) = (q : Int) - 1000 := IntWalk.i64_in _ (by omega)
      clear r1 r2 r3 r4
      generalize qwh q = qw at KT2 i3 r5
      generalize qtr q = qt at KT KT2 i3 s7 r5
      generalize cntB qt = qc at KT KT2 i3
      go_wp2_with fail
      refine (KT _).mono ?_
      rintro e u9 ⟨rfl, hb⟩
      replace A5 := A5.step hb
      replace D7 := D7.step hb
      replace Y18 := Y18.step hb
      replace R19 := R19.step hb
      replace Y21 := Y21.step hb
      replace R22 := R22.step hb
      replace BW := Lib.hid (BW.out.trans (hb.mono BW.out.size))
      clear hb
      go_wp2_with fail
      refine (r5 _).mono ?_
      rintro e v1 ⟨rfl, rfl⟩
      go_wp2_with fail
      refine (KT2 _).mono ?_
      rintro e v2 ⟨rfl, hb⟩
      replace A5 := A5.step hb
      replace D7 := D7.step hb
      replace Y18 := Y18.step hb
      replace R19 := R19.step hb
      replace Y21 := Y21.step hb
      replace R22 := R22.step hb
      replace BW := Lib.hid (BW.out.trans (hb.mono BW.out.size))
      clear hb
      go_wp2_with fail
      go_ret
      exact ⟨rfl, BW.out⟩

set_option maxRecDepth 100000 in
theorem lifted (os : Os) (started : os.Started) (H : Type) (enc : TypeId × Value → H) :
    ReturnsInHanded {} Try.checked os 3 .any (Rows.fnDetectorsSpec.pre6 enc Try.prog Try.f3 Rows.fnDetectorsRow.domain false) (Rows.fnDetectorsSpec.post enc Try.prog Try.f3 false true false false) := by
  refine law_liftedS enc os started (by kernel_rfl) Try.func3
    (ChangeSpec.witness6 (enc := enc) (C := Try.checked) false ⟨#[], #[.slice none 0 0, .slice none 0 0], []⟩ 24 (by kernel_rfl) (by kernel_rfl) (by kernel_rfl) (by kernel_rfl)) rfl (by kernel_rfl) ?_ ?_ ?_
  · rw [Try.params3]
    intro t ht
    have hall : (#[22, 22].toList.all fun u => Try.prog.readableRec u && decide (u < Try.prog.types.size)) = true := by kernel_rfl
    have := List.all_eq_true.1 hall t ht
    simpa using this
  · intro ds h
    rw [Try.params3] at h
    match ds, h with
    | [d0, d1], _ => rfl
  · intro W base args ds ps hl hval hA
    rw [Try.params3] at hl hval hA
    obtain ⟨v0, v1, rfl⟩ : ∃ v0 v1, args = #[v0, v1] := by
      obtain ⟨l⟩ := args
      match l, hl with
      | [v0, v1], _ => exact ⟨v0, v1, rfl⟩
    obtain ⟨vx0, vy0, dd0, de0, pp0, pq0, ee0, -, -, tr0, rr0⟩ := trodAll_cons hA
    obtain ⟨rfl, rfl⟩ := List.cons.inj ee0
    obtain ⟨vx1, vy1, dd1, de1, pp1, pq1, ee1, -, -, tr1, rr1⟩ := trodAll_cons rr0
    obtain ⟨rfl, rfl⟩ := List.cons.inj ee1
    obtain ⟨a0, c0, x0, rfl, h0⟩ := shape_bytes Try.underlying22 Try.underlying5 (by kernel_rfl) (okWide_slice Try.underlying22 (hval 0 _ _ rfl rfl)) tr0
    obtain ⟨a1, c1, x1, rfl, h1⟩ := shape_bytes Try.underlying22 Try.underlying5 (by kernel_rfl) (okWide_slice Try.underlying22 (hval 1 _ _ rfl rfl)) tr1
    exact walk W a0 c0 x0 h0 a1 c1 x1 h1

/-- THE STATEMENT -/
theorem proved : Rows.FnDetectorsSaid := by
  first
    | (refine OpenClaim.holds_of_wide 3 Try.f3 rfl rfl rfl rfl rfl rfl rfl ⟨rfl, rfl, rfl, rfl, rfl⟩ rfl rfl rfl rfl rfl (by kernel_rfl) Try.func3 (by kernel_rfl) (of_decide_eq_true (by kernel_rfl)) ?_ (fun os started H enc _ => lifted os started H enc))
    | (refine OpenClaim.holds_of_wide_leaving 3 Try.f3 rfl rfl rfl rfl rfl rfl rfl ⟨rfl, rfl, rfl, rfl, rfl⟩ rfl rfl rfl rfl rfl (by kernel_rfl) Try.func3 (by kernel_rfl) (of_decide_eq_true (by kernel_rfl)) ?_ (fun os started H enc _ => leaving_of_handed (lifted os started H enc)))
  unfold Func.isWrapper
  first | (rw [if_pos (by decide +kernel)]; kernel_rfl) | (rw [if_neg (by decide +kernel)]; exact ⟨rfl, rfl⟩)
#print axioms proved
end Go.Proofs.Ytcfoghckdloknaa.lawFnDetectors
