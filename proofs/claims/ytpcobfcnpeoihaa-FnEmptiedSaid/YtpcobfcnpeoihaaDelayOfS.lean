/-
  CONTRACTS: DelayOf, at all arguments; the model's.
-/
import Derived.Test.YtpcobfcnpeoihaaDelayOf
import Derived.Test.YtpcobfcnpeoihaaG16
namespace Go.Proofs.Ytpcobfcnpeoihaa
open Go Go.RowKit Go.Shelf
set_option maxRecDepth 100000

theorem stepsC_zero' {ok : Bool} {o m : Nat} {n : Int} (h : stepsC ok o m n = 0) : givenC ok o m = 0 ∧ 0 ≤ n ∧ n ≤ 400 := by
  unfold stepsC at h
  by_cases g : givenC ok o m = 0
  · rw [if_pos g] at h
    by_cases c : 0 ≤ n ∧ n ≤ 400
    · exact ⟨g, c⟩
    · rw [if_neg c] at h; cases h
  · rw [if_neg g] at h; exact absurd h g

def vDelayOf (cs : List Nat) (p b l o m : Nat) (n : Int) : Nat × Int := if stepsC (okB cs p b l) o m n = 0 then (mulB (dAll p b cs (fun _ => o) (fun _ => m) n.toNat) l, 0) else (0, stepsC (okB cs p b l) o m n)
theorem vDelayOf_good {cs : List Nat} (hl : cs.length = 16) (p b l o m : Nat) (n : Int) : (vDelayOf cs p b l o m n).1 < 4294967296 ∧ nanB (vDelayOf cs p b l o m n).1 = false := by
  unfold vDelayOf
  by_cases h : stepsC (okB cs p b l) o m n = 0
  · rw [if_pos h]
    have z := stepsC_zero' h
    have d := delay_facts (OkR.of hl (given_zero z.1).1) (fun _ => o) (fun _ => m) (k := n.toNat) (by omega)
    exact ⟨d.2.1, d.2.2.2⟩
  · rw [if_neg h]; exact ⟨show 0 < 4294967296 by decide, show nanB 0 = false by decide⟩
theorem DelayOf_any (cs : List Nat) (p b l : Nat) (hl : cs.length = 16) (hc : ∀ x ∈ cs, x < 4294967296) (hp : p < 4294967296) (hb : b < 4294967296) (hla : l < 4294967296) (o m : Nat) (ho : o < 4294967296) (hm : m < 4294967296) (n : Int) (w : World) :
    Calls Try.prog 15 #[.agg (rd cs p b l), .float .f32 o, .float .f32 m, .int .i64 n] w fun e w' => e = .returned (.tuple #[.float .f32 (vDelayOf cs p b l o m n).1, .int .i64 (vDelayOf cs p b l o m n).2]) ∧ Below w.heap.size w w' := by
  by_cases h : stepsC (okB cs p b l) o m n = 0
  · have e : (vDelayOf cs p b l o m n) = (mulB (dAll p b cs (fun _ => o) (fun _ => m) n.toNat) l, 0) := by unfold vDelayOf; rw [if_pos h]
    rw [e]
    have z := stepsC_zero' h
    obtain ⟨N, rfl⟩ := Int.eq_ofNat_of_zero_le z.2.1
    rw [Int.toNat_natCast]
    exact DelayOf_yes cs p b l hl hc hp hb hla o m ho hm N (by omega) z.1 w
  · have e : (vDelayOf cs p b l o m n) = (0, stepsC (okB cs p b l) o m n) := by unfold vDelayOf; rw [if_neg h]
    rw [e]
    exact DelayOf_no cs p b l hl hc hp hb hla o m ho hm n h w

set_option maxHeartbeats 4000000 in
theorem sDelayOf_any (cs : List Nat) (p b l : Nat) (hl : cs.length = 16) (hc : ∀ x ∈ cs, x < 4294967296) (hp : p < 4294967296) (hb : b < 4294967296) (hla : l < 4294967296) (o m : Nat) (ho : o < 4294967296) (hm : m < 4294967296) (n : Int) (w : World) :
    Calls Try.prog 16 #[.agg (rd cs p b l), .float .f32 o, .float .f32 m, .int .i64 n] w fun e w' => e = .returned (.tuple #[.float .f32 (vDelayOf cs p b l o m n).1, .int .i64 (vDelayOf cs p b l o m n).2]) ∧ Below w.heap.size w w' := by
  have R0 := At.new w (rd cs p b l) 28
  have B0 := Lib.hid (b0 w (.cells (rd cs p b l) 28))
  have KG := l02Given_any _ cs p b l hl hc hp hb hla o m ho hm _ ⟨_, _, R0⟩
  by_cases g : givenC (okB cs p b l) o m = 0
  · by_cases c : 0 ≤ n ∧ n ≤ 400
    · obtain ⟨N, rfl⟩ := Int.eq_ofNat_of_zero_le c.1
      have e : (vDelayOf cs p b l o m (N : Int)) = (mulB (dAll p b cs (fun _ => o) (fun _ => m) N) l, 0) := by unfold vDelayOf; rw [if_pos (by unfold stepsC; rw [if_pos g, if_pos c]), Int.toNat_natCast]
      rw [e]
      clear e
      have gz := given_zero g
      have ok := OkR.of hl gz.1
      have HN : Hid (N ≤ 400) := Lib.hid (by omega)
      have dn : decide (0 ≤ (N : Int) ∧ (N : Int) ≤ 400) = true := decide_eq_true c
      have GZ := Lib.hid gz.2
      rw [g] at KG
      clear gz g c
      go_enter Try.func16, Try.ntmps16
      go_wp2_with fail
      refine KG.mono ?_
      rintro e' w1 ⟨rfl, n1, rfl⟩
      go_wp2_with fail
      refine (l00In_any (N : Int) 0 400 _).mono ?_
      rw [dn]
      rintro e' w3 ⟨rfl, n3, rfl⟩
      have R2 := R0.drewN (n1 + n3)
      have B2 := Lib.hid (bdrew B0.out (n1 + n3))
      clear KG R0 B0
      go_wp2
      generalize hw3 : World.drewN _ _ = w3 at R2 B2 ⊢
      clear hw3
      go_loopw [11, 12] (fun s i wr => ∃ k : Nat, k ≤ N ∧ i = .int .i64 (k : Int) ∧ s = .float .f32 (dAll p b cs (fun _ => o) (fun _ => m) k) ∧ At wr w.heap.size (rd (itL p b cs (fun _ => o) (fun _ => m) k) p b l) 28 ∧ Hid (Below w.heap.size w wr)) (fun _ i _ => N - (intOf i).toNat)
      case atStart => exact ⟨0, by omega, rfl, rfl, R2, B2⟩
      case round =>
        clear R2 B2
        obtain ⟨k, hk, rfl, rfl, R4, B4⟩ := hrel
        have hNN := HN.out
        by_cases hkl : k < N
        · have okk := itL_ok ok (fun _ => o) (fun _ => m) k
          have hLk := okk.len
          have HLK := Lib.hid hLk
          have kd : (k : Int) < (N : Int) := by omega
          have s1 : IntKind.i64.wrap ((k : Int) + 1) = (k : Int) + 1 := IntWalk.i64_in _ (by omega)
          obtain ⟨ns, hns⟩ : ∃ ns, ns = itF p b cs (fun _ => o) (fun _ => m) k := ⟨_, rfl⟩
          have hn17 : ns.length = 17 := by rw [hns]; exact itF_len _ _ _ _ _ _
          have hnb : ∀ x ∈ ns, x ≤ 1065353216 := by rw [hns]; exact itF_le ok _ _ k
          have itf := it_facts ok (fun _ => o) (fun _ => m) k
          rw [← hns] at itf
          have HF := Lib.hid (And.intro hn17 itf)
          have e1 : itL p b cs (fun _ => o) (fun _ => m) (k + 1) = stepL (itL p b cs (fun _ => o) (fun _ => m) k) (intoL ns) (outL ns) := by rw [hns]; rfl
          have HE := Lib.hid (And.intro hns e1)
          clear hns e1 itf
          have FZ : (fl ns).size = 17 := by rw [fl_size, hn17]
          have KF : ∀ W, At W w.heap.size (rd (itL p b cs (fun _ => o) (fun _ => m) k) p b l) 28 → Calls Try.prog 26 #[.pointer (some ⟨w.heap.size, 0, none⟩), .float .f32 o, .float .f32 m] W fun e w' => e = .returned (.agg (fl ns)) ∧ Below W.heap.size W w' := fun W hA => by
            rw [HE.out.1]; exact l02Flows_any _ _ p b l okk o m GZ.out.1 GZ.out.2 W _ hA
          have KS : ∀ W gf, At W w.heap.size (rd (itL p b cs (fun _ => o) (fun _ => m) k) p b l) 28 → At W gf (fl ns) 55 → Calls Try.prog 27 #[.pointer (some ⟨w.heap.size, 0, none⟩), .pointer (some ⟨gf, 0, none⟩)] W fun e w' => e = .returned (.agg (rd (itL p b cs (fun _ => o) (fun _ => m) (k + 1)) p b l)) ∧ Below W.heap.size W w' := fun W gf hA hF => by
            rw [HE.out.2]; exact l02Step_any _ gf _ ns p b l hLk hn17 okk.cars hnb W _ _ hA hF
          have SKs : (rd (itL p b cs (fun _ => o) (fun _ => m) k) p b l).size = 19 := rd_size hLk p b l
          have SK1 : (rd (itL p b cs (fun _ => o) (fun _ => m) (k + 1)) p b l).size = 19 := rd_size (itL_ok ok (fun _ => o) (fun _ => m) (k + 1)).len p b l
          have d0 := dAt_facts ok.pace HF.out.2.1 HF.out.2.2 0
          have p1 : ∀ t w, (binOp .quo t (.float .f32 (nth ns 1)) (.float .f32 p)).run Try.prog w = .ok (.float .f32 (divB (nth ns 1) p)) w := fun t w => run_float_arith w .quo t .f32 _ _ _ d0.1
          have p2 : ∀ t w, (binOp .sub t (.float .f32 (nth (itL p b cs (fun _ => o) (fun _ => m) k) 0)) (.float .f32 (divB (nth ns 1) p))).run Try.prog w = .ok (.float .f32 (dS p (itL p b cs (fun _ => o) (fun _ => m) k) ns 0)) w := fun t w => run_float_arith w .sub t .f32 _ _ _ d0.2.1
          clear okk hLk hnb d0
          go_wp2_with fail
          refine (KF _ R4).mono ?_
          rintro e' w5 ⟨rfl, hb5⟩
          have R5 := R4.step hb5
          have B5 := Lib.hid (bthen B4.out hb5)
          clear R4 B4 hb5 KF
          have F0 := At.new w5 (fl (zeros 17)) 55
          have F6 := F0.setRow (fl ns)
          have R6 := (R5.alloc (.cells (fl (zeros 17)) 55)).setRow_other (k := w5.heap.size) (Nat.ne_of_lt R5.lt) (fl ns)
          have B6 := Lib.hid (bset (bnew B5.out (.cells (fl (zeros 17)) 55)) (g := w5.heap.size) B5.out.size (fl ns))
          go_wp2_with (((with_reducible refine is_store 55 (.tmp 13) (.tmp 37) rfl ?_); refine wpList_store_at rfl 55 (.tmp 13) (.tmp 37) rfl _ rfl (fl ns) rfl (fl (zeros 17)) _ F0 17 FZ (by rw [fl_size, zeros_len]) (by kernel_rfl) (fl_one _) ?_); refine Hid.out ?_)
          refine Lib.hid ?_
          have gl5 := R5.lt
          clear F0 R5 B5
          rw [show (fl (zeros 17) : Array Value) = #[.float .f32 0, .float .f32 0, .float .f32 0, .float .f32 0, .float .f32 0, .float .f32 0, .float .f32 0, .float .f32 0, .float .f32 0, .float .f32 0, .float .f32 0, .float .f32 0, .float .f32 0, .float .f32 0, .float .f32 0, .float .f32 0, .float .f32 0] from rfl] at F6 R6 B6
          generalize hw5 : (w5.alloc (.cells #[.float .f32 0, .float .f32 0, .float .f32 0, .float .f32 0, .float .f32 0, .float .f32 0, .float .f32 0, .float .f32 0, .float .f32 0, .float .f32 0, .float .f32 0, .float .f32 0, .float .f32 0, .float .f32 0, .float .f32 0, .float .f32 0, .float .f32 0] 55)).setRow w5.heap.size (fl ns) = w6 at F6 R6 B6 ⊢
          clear hw5
          generalize w5.heap.size = gf at F6 gl5 ⊢
          try simp only [Act.put]
          have f1 := F6.cell (fl_get (xs := ns) (k := 1) (by omega))
          have r0 := R6.cell (rd_cell HLK.out p b l (k := 0) (by omega))
          have r6 := R6.cell (rd_pace HLK.out p b l)
          go_wp2
          clear f1 r0 r6 p1 p2
          go_loopw [14, 15] (fun s j wr' => ∃ i : Nat, i ≤ 15 ∧ s = .float .f32 (dS p (itL p b cs (fun _ => o) (fun _ => m) k) ns i) ∧ j = .int .i64 ((i : Int) + 1) ∧ At wr' w.heap.size (rd (itL p b cs (fun _ => o) (fun _ => m) k) p b l) 28 ∧ At wr' gf (fl ns) 55 ∧ Hid (Below w.heap.size w wr')) (fun _ j _ => 17 - (intOf j).toNat)
          case atStart => exact ⟨0, by omega, rfl, rfl, R6, F6, B6⟩
          case round =>
            clear R6 F6 B6
            obtain ⟨i, hi, rfl, rfl, R7, F7, B7⟩ := hrel
            by_cases hi5 : i < 15
            · have s2 : IntKind.i64.wrap ((i : Int) + 1 + 1) = (i : Int) + 1 + 1 := IntWalk.i64_in _ (by omega)
              have s3 := s2
              have id1 : (i : Int) + 1 < 16 := by omega
              have idd : decide ((i : Int) + 1 < 16) = true := decide_eq_true (by omega)
              have df := dAt_facts ok.pace HF.out.2.1 HF.out.2.2 (i + 1)
              have q1 : ∀ t w, (binOp .quo t (.float .f32 (nth ns (i + 1 + 1))) (.float .f32 p)).run Try.prog w = .ok (.float .f32 (divB (nth ns (i + 1 + 1)) p)) w := fun t w => run_float_arith w .quo t .f32 _ _ _ df.1
              have q2 : ∀ t w, (binOp .sub t (.float .f32 (nth (itL p b cs (fun _ => o) (fun _ => m) k) (i + 1))) (.float .f32 (divB (nth ns (i + 1 + 1)) p))).run Try.prog w = .ok (.float .f32 (dAt p (itL p b cs (fun _ => o) (fun _ => m) k) ns (i + 1))) w := fun t w => run_float_arith w .sub t .f32 _ _ _ df.2.1
              have q3 : ∀ t w, (binOp .add t (.float .f32 (dS p (itL p b cs (fun _ => o) (fun _ => m) k) ns i)) (.float .f32 (dAt p (itL p b cs (fun _ => o) (fun _ => m) k) ns (i + 1)))).run Try.prog w = .ok (.float .f32 (dS p (itL p b cs (fun _ => o) (fun _ => m) k) ns (i + 1))) w := fun t w => run_float_arith w .add t .f32 _ _ _ (dS_add ok.pace HF.out.2.1 HF.out.2.2 (by omega))
              have c1 : (rd (itL p b cs (fun _ => o) (fun _ => m) k) p b l)[i + 1]? = some (.float .f32 (nth (itL p b cs (fun _ => o) (fun _ => m) k) (i + 1))) := rd_cell HLK.out p b l (by omega)
              have c2 : (rd (itL p b cs (fun _ => o) (fun _ => m) k) p b l)[16]? = some (.float .f32 p) := rd_pace HLK.out p b l
              have c3 : (fl ns)[i + 1 + 1]? = some (.float .f32 (nth ns (i + 1 + 1))) := fl_get (by rw [HF.out.1]; omega)
              clear df
              generalize divB (nth ns (i + 1 + 1)) p = qv at q1 q2
              generalize nth ns (i + 1 + 1) = fv at q1 c3
              generalize nth (itL p b cs (fun _ => o) (fun _ => m) k) (i + 1) = lv at q2 c1
              generalize dAt p (itL p b cs (fun _ => o) (fun _ => m) k) ns (i + 1) = dv at q2 q3
              go_wp2
              refine wp_region_held (S := fun w' => At w' w.heap.size (rd (itL p b cs (fun _ => o) (fun _ => m) k) p b l) 28 ∧ At w' gf (fl ns) 55) (by kernel_rfl) ?_
              show wpAnyH _ _ _ _ _ 15 (Array.replicate 15 false) _ _
              have SS : At { wr with drawn := wr.drawn + 1 } w.heap.size (rd (itL p b cs (fun _ => o) (fun _ => m) k) p b l) 28 ∧ At { wr with drawn := wr.drawn + 1 } gf (fl ns) 55 := ⟨R7, F7⟩
              have B8 : Hid (Below w.heap.size w { wr with drawn := wr.drawn + 1 }) := Lib.hid (bdrew B7.out 1)
              generalize ({ wr with drawn := wr.drawn + 1 } : World) = w8 at SS B8 ⊢
              clear R7 F7 B7
              refine wpAnyH_take (i := 0) (v := .float .f32 (dS p (itL p b cs (fun _ => o) (fun _ => m) k) ns i)) rfl (by kernel_rfl) (by kernel_rfl) (by kernel_rfl) (fun _ _ _ h => h) (yif rfl fun w' hw' => hx_move (.tmp 14) rfl (by kernel_rfl)) SS ?_
              refine wpAnyH_take (i := 1) (v := .int .i64 ((i : Int) + 1)) rfl (by kernel_rfl) (by kernel_rfl) (by kernel_rfl) (fun _ _ _ h => h) (yif rfl fun w' hw' => hx_move (.tmp 15) rfl (by kernel_rfl)) SS ?_
              refine wpAnyH_take (i := 2) (v := .pointer (some ⟨w.heap.size, 0, none⟩)) rfl (by kernel_rfl) (by kernel_rfl) (by kernel_rfl) (fun _ _ _ h => h) (yif rfl fun w' hw' => by kernel_rfl) SS ?_
              refine wpAnyH_take (i := 3) (v := .pointer (some ⟨w.heap.size, 0 + (i + 1) * 1, none⟩)) rfl (by kernel_rfl) (by kernel_rfl) (by kernel_rfl) (fun _ _ _ h => h) (yif rfl fun w' hw' => hx_index 26 (.tmp 53) (.tmp 52) rfl (.pointer (some ⟨w.heap.size, 0, none⟩)) (.int .i64 ((i + 1 : Nat) : Int)) (by kernel_rfl) (by kernel_rfl) (run_indexA w' 26 24 16 (i + 1) 1 _ _ Try.underlying26 (by kernel_rfl) (by omega))) SS ?_
              refine wpAnyH_take (i := 4) (v := .float .f32 lv) rfl (by kernel_rfl) (by kernel_rfl) (by kernel_rfl) (fun _ _ _ h => h) (yif rfl fun w' hw' => x_load 24 (.tmp 54) rfl ⟨w.heap.size, 0 + (i + 1) * 1, none⟩ (by kernel_rfl) (run_load_cell w' 24 _ Try.underlying24 _ _ (hw'.1.cell (by rw [show 0 + (i + 1) * 1 = i + 1 from by omega]; exact c1)))) SS ?_
              refine wpAnyH_take (i := 5) (v := .int .i64 ((i : Int) + 1)) rfl (by kernel_rfl) (by kernel_rfl) (by kernel_rfl) (fun _ _ _ h => h) (yif rfl fun w' hw' => hx_move (.tmp 15) rfl (by kernel_rfl)) SS ?_
              refine wpAnyH_take (i := 6) (v := .int .i64 ((i : Int) + 1 + 1)) rfl (by kernel_rfl) (by kernel_rfl) (by kernel_rfl) (fun _ _ _ h => h) (yif rfl fun w' hw' => hx_add 3 (.tmp 56) (.const (.int .i64 1)) rfl (.int .i64 ((i : Int) + 1)) (.int .i64 1) (by kernel_rfl) (by kernel_rfl) (by rw [run_add_i64, s3])) SS ?_
              refine wpAnyH_take (i := 7) (v := .pointer (some ⟨gf, 0 + (i + 1 + 1) * 1, none⟩)) rfl (by kernel_rfl) (by kernel_rfl) (by kernel_rfl) (fun _ _ _ h => h) (yif rfl fun w' hw' => hx_index 55 (.tmp 13) (.tmp 57) rfl (.pointer (some ⟨gf, 0, none⟩)) (.int .i64 ((i + 1 + 1 : Nat) : Int)) (by kernel_rfl) (by kernel_rfl) (run_indexA w' 55 24 17 (i + 1 + 1) 1 _ _ Try.underlying55 (by kernel_rfl) (by omega))) SS ?_
              refine wpAnyH_take (i := 8) (v := .float .f32 fv) rfl (by kernel_rfl) (by kernel_rfl) (by kernel_rfl) (fun _ _ _ h => h) (yif rfl fun w' hw' => x_load 24 (.tmp 58) rfl ⟨gf, 0 + (i + 1 + 1) * 1, none⟩ (by kernel_rfl) (run_load_cell w' 24 _ Try.underlying24 _ _ (hw'.2.cell (by rw [show 0 + (i + 1 + 1) * 1 = i + 1 + 1 from by omega]; exact c3)))) SS ?_
              refine wpAnyH_take (i := 9) (v := .pointer (some ⟨w.heap.size, 16, none⟩)) rfl (by kernel_rfl) (by kernel_rfl) (by kernel_rfl) (fun _ _ _ h => h) (yif rfl fun w' hw' => by kernel_rfl) SS ?_
              refine wpAnyH_take (i := 10) (v := .float .f32 p) rfl (by kernel_rfl) (by kernel_rfl) (by kernel_rfl) (fun _ _ _ h => h) (yif rfl fun w' hw' => x_load 24 (.tmp 60) rfl ⟨w.heap.size, 16, none⟩ (by kernel_rfl) (run_load_cell w' 24 _ Try.underlying24 _ _ (hw'.1.cell (c2)))) SS ?_
              refine wpAnyH_take (i := 11) (v := .float .f32 qv) rfl (by kernel_rfl) (by kernel_rfl) (by kernel_rfl) (fun _ _ _ h => h) (yif rfl fun w' hw' => hx_quo' 24 (.tmp 59) (.tmp 61) rfl (.float .f32 fv) (.float .f32 p) (by kernel_rfl) (by kernel_rfl) (q1 24 w')) SS ?_
              refine wpAnyH_take (i := 12) (v := .float .f32 dv) rfl (by kernel_rfl) (by kernel_rfl) (by kernel_rfl) (fun _ _ _ h => h) (yif rfl fun w' hw' => hx_sub 24 (.tmp 55) (.tmp 62) rfl (.float .f32 lv) (.float .f32 qv) (by kernel_rfl) (by kernel_rfl) (q2 24 w')) SS ?_
              refine wpAnyH_take (i := 13) (v := .float .f32 (dS p (itL p b cs (fun _ => o) (fun _ => m) k) ns (i + 1))) rfl (by kernel_rfl) (by kernel_rfl) (by kernel_rfl) (fun _ _ _ h => h) (yif rfl fun w' hw' => hx_add 24 (.tmp 51) (.tmp 63) rfl (.float .f32 (dS p (itL p b cs (fun _ => o) (fun _ => m) k) ns i)) (.float .f32 dv) (by kernel_rfl) (by kernel_rfl) (q3 24 w')) SS ?_
              refine wpAnyH_take (i := 14) (v := .float .f32 (dS p (itL p b cs (fun _ => o) (fun _ => m) k) ns (i + 1))) rfl (by kernel_rfl) (by kernel_rfl) (by kernel_rfl) (fun _ _ _ h => h) (yif rfl fun w' hw' => by kernel_rfl) SS ?_
              refine wpAnyH_done (by kernel_rfl) ?_ _
              generalize hA : Act.put _ _ _ = A
              have eA : A = { tmps := #[.agg (rd cs p b l), .float .f32 o, .float .f32 m, .int .i64 (N : Int), .pointer (some ⟨w.heap.size, 0, none⟩), undef, undef, undef, .float .f32 0, .int .i64 0, .int .i64 0, .float .f32 (dAll p b cs (fun _ => o) (fun _ => m) k), .int .i64 (k : Int), .pointer (some ⟨gf, 0, none⟩), .float .f32 (dS p (itL p b cs (fun _ => o) (fun _ => m) k) ns (i + 1)), .int .i64 ((i : Int) + 1), undef, .float .f32 o, .float .f32 m, .int .i64 0, .int .i64 0, .bool true, .bool true, .int .i64 (N : Int), .bool true, .bool false, .bool false, .int .i64 0, .bool false, undef, .int .i64 (k : Int), .int .i64 (N : Int), .bool true, u33, u34, .float .f32 o, .float .f32 m, .agg (fl ns), .pointer (some ⟨w.heap.size, 0, none⟩), .pointer (some ⟨w.heap.size, 0, none⟩), .float .f32 (nth (itL p b cs (fun _ => o) (fun _ => m) k) 0), .pointer (some ⟨gf, 1, none⟩), .float .f32 (nth ns 1), .pointer (some ⟨w.heap.size, 16, none⟩), .float .f32 p, .float .f32 (divB (nth ns 1) p), .float .f32 (dS p (itL p b cs (fun _ => o) (fun _ => m) k) ns 0), .int .i64 ((i : Int) + 1), .bool true, u49, u50, .float .f32 (dS p (itL p b cs (fun _ => o) (fun _ => m) k) ns i), .int .i64 ((i : Int) + 1), .pointer (some ⟨w.heap.size, 0, none⟩), .pointer (some ⟨w.heap.size, 0 + (i + 1) * 1, none⟩), .float .f32 lv, .int .i64 ((i : Int) + 1), .int .i64 ((i : Int) + 1 + 1), .pointer (some ⟨gf, 0 + (i + 1 + 1) * 1, none⟩), .float .f32 fv, .pointer (some ⟨w.heap.size, 16, none⟩), .float .f32 p, .float .f32 qv, .float .f32 dv, .float .f32 (dS p (itL p b cs (fun _ => o) (fun _ => m) k) ns (i + 1)), u65, u66, u67, u68, undef, undef, undef, undef, undef, undef, undef, undef], defers := [] } := by rw [← hA]; kernel_rfl
              clear hA
              subst eA
              go_wp2
              exact ⟨⟨i + 1, by omega, rfl, by go_num, SS.1, SS.2, B8⟩, by simp [intOf]; omega⟩
            · obtain rfl : i = 15 := by omega
              have hadd : ∀ t w, (binOp .add t (.float .f32 (dAll p b cs (fun _ => o) (fun _ => m) k)) (.float .f32 (dS p (itL p b cs (fun _ => o) (fun _ => m) k) ns 15))).run Try.prog w = .ok (.float .f32 (dAll p b cs (fun _ => o) (fun _ => m) (k + 1))) w := fun t w => run_float_arith w .add t .f32 _ _ _ (by rw [HE.out.1]; exact dAll_add ok (fun _ => o) (fun _ => m) (by omega))
              go_wp2_with fail
              refine (KS _ gf R7 F7).mono ?_
              rintro e' w7 ⟨rfl, hb7⟩
              have R8 := R7.step hb7
              have B8 := Lib.hid (bthen B7.out hb7)
              clear R7 F7 B7 hb7
              have R9 := R8.setRow (rd (itL p b cs (fun _ => o) (fun _ => m) (k + 1)) p b l)
              have B9 := Lib.hid (bset B8.out (g := w.heap.size) (Nat.le_refl _) (rd (itL p b cs (fun _ => o) (fun _ => m) (k + 1)) p b l))
              go_wp2_with (((with_reducible refine is_store 28 (.tmp 4) (.tmp 68) rfl ?_); refine wpList_store_at rfl 28 (.tmp 4) (.tmp 68) rfl _ rfl (rd (itL p b cs (fun _ => o) (fun _ => m) (k + 1)) p b l) rfl (rd (itL p b cs (fun _ => o) (fun _ => m) k) p b l) _ R8 19 (SK1) (SKs) (by kernel_rfl) (fl_one _) ?_))
              exact ⟨⟨k + 1, by omega, by go_num, rfl, R9, B9⟩, by simp [intOf]; omega⟩
        · obtain rfl : N = k := by omega
          have df := delay_facts ok (fun _ => o) (fun _ => m) hNN
          have hmul : ∀ t w, (binOp .mul t (.float .f32 (dAll p b cs (fun _ => o) (fun _ => m) N)) (.float .f32 l)).run Try.prog w = .ok (.float .f32 (mulB (dAll p b cs (fun _ => o) (fun _ => m) N) l)) w := fun t w => run_float_arith w .mul t .f32 _ _ _ df.1
          have cl := R4.cell (rd_lanes (itL_ok ok (fun _ => o) (fun _ => m) N).len p b l)
          have KFN := fun w => l01Finite_any (mulB (dAll p b cs (fun _ => o) (fun _ => m) N) l) df.2.1 w
          rw [df.2.2.1] at KFN
          clear df
          go_wp2_with fail
          refine (KFN _).mono ?_
          rintro e' w8 ⟨rfl, n8, rfl⟩
          go_wp2_with fail
          go_ret2
          exact ⟨rfl, bdrew B4.out _⟩
    · have e : (vDelayOf cs p b l o m n) = (0, 2) := by unfold vDelayOf; rw [show stepsC (okB cs p b l) o m n = 2 from by unfold stepsC; rw [if_pos g, if_neg c]]; rfl
      have dn : decide (0 ≤ n ∧ n ≤ 400) = false := decide_eq_false c
      rw [e]
      rw [g] at KG
      clear e c g
      go_enter Try.func16, Try.ntmps16
      go_wp2_with fail
      refine KG.mono ?_
      rintro e' w1 ⟨rfl, n1, rfl⟩
      go_wp2_with fail
      refine (l00In_any n 0 400 _).mono ?_
      rw [dn]
      rintro e' w3 ⟨rfl, n3, rfl⟩
      go_wp2_with fail
      go_ret2
      exact ⟨rfl, bdrew B0.out _⟩
  · have e : (vDelayOf cs p b l o m n) = (0, givenC (okB cs p b l) o m) := by
      have e1 : stepsC (okB cs p b l) o m n = givenC (okB cs p b l) o m := by unfold stepsC; rw [if_neg g]
      unfold vDelayOf; rw [e1, if_neg g]
    rw [e]
    clear e
    generalize givenC (okB cs p b l) o m = c at KG g ⊢
    have gne : (c == 0) = false := by simp [g]
    go_enter Try.func16, Try.ntmps16
    go_wp2_with fail
    refine KG.mono ?_
    rintro e' w1 ⟨rfl, n1, rfl⟩
    go_wp2_with fail
    go_ret2
    exact ⟨rfl, bdrew B0.out _⟩

end Go.Proofs.Ytpcobfcnpeoihaa
