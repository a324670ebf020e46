/-
  CONTRACTS: several steps, the model's.
-/
import Derived.Test.YtkaghfoaicbngaaIter
import Derived.Test.YtkaghfoaicbngaaRes
import Derived.Test.YtkaghfoaicbngaaFluxesOf
namespace Go.Proofs.Ytkaghfoaicbngaa
open Go Go.RowKit
set_option maxRecDepth 100000

theorem sStepRoads_no (cs : List Nat) (p b l : Nat) (hl : cs.length = 16) (hc : ∀ x ∈ cs, x < 4294967296) (hp : p < 4294967296) (hb : b < 4294967296) (hla : l < 4294967296) (o m : Nat) (ho : o < 4294967296) (hm : m < 4294967296) (n : Int) (h : stepsC (okB cs p b l) o m n ≠ 0) (w : World) :
    Calls Try.prog 14 #[.agg (rd cs p b l), .float .f32 o, .float .f32 m, .int .i64 n] w fun e w' => e = .returned (.tuple #[.agg (rd (zeros 16) 0 0 0), .float .f32 0, .float .f32 0, .int .i64 (stepsC (okB cs p b l) o m n)]) ∧ Below w.heap.size w w' := by
  have R0 : At ((w.alloc (.cells (rd cs p b l) 28)).alloc (.cells (rd (zeros 16) 0 0 0) 28)) w.heap.size (rd cs p b l) 28 := (At.new w _ _).alloc _
  have Y0 : At ((w.alloc (.cells (rd cs p b l) 28)).alloc (.cells (rd (zeros 16) 0 0 0) 28)) (w.heap.size + 1) (rd (zeros 16) 0 0 0) 28 := At.last1 w _ _ _
  have B0 := Lib.hid (bnew (b0 w (.cells (rd cs p b l) 28)) (.cells (rd (zeros 16) 0 0 0) 28))
  have KG := l02Given_any _ cs p b l hl hc hp hb hla o m ho hm _ ⟨_, _, R0⟩
  by_cases g : givenC (okB cs p b l) o m = 0
  · have c : ¬ (0 ≤ n ∧ n ≤ 400) := fun c => h (by unfold stepsC; rw [if_pos g, if_pos c])
    have e : stepsC (okB cs p b l) o m n = 2 := by unfold stepsC; rw [if_pos g, if_neg c]
    have KC : ∀ w, _ := fun w => l00In_any n 0 400 w
    simp only [decide_eq_false c] at KC
    rw [e]
    rw [g] at KG
    clear h e c g
    go_enter Try.func14, Try.ntmps14
    go_wp2_with fail
    refine KG.mono ?_
    rintro e' w1 ⟨rfl, n1, rfl⟩
    have R1 := R0.drewN n1
    have Y1 := Y0.drewN n1
    have B1 := Lib.hid (bdrew B0.out n1)
    clear KG
    go_wp2_with fail
    refine (KC _).mono ?_
    rintro e' w2 ⟨rfl, n2, rfl⟩
    have Y2 := Y0.drewN (n1 + n2)
    have B2 := Lib.hid (bdrew B0.out (n1 + n2))
    clear KC Y1 B1 R1 R0
    have Y9 := Y2.setRow (rd (zeros 16) 0 0 0)
    have B9 := Lib.hid (bset B2.out (g := w.heap.size + 1) (by omega) (rd (zeros 16) 0 0 0))
    go_wp2_with (((with_reducible refine is_store 28 (.tmp 8) (.tmp 29) rfl ?_); refine wpList_store_at rfl 28 (.tmp 8) (.tmp 29) rfl _ rfl (rd (zeros 16) 0 0 0) rfl (rd (zeros 16) 0 0 0) _ (by assumption) 19 (rd_size (zeros_len 16) _ _ _) (rd_size (zeros_len 16) _ _ _) (by kernel_rfl) (fl_one _) ?_))
    exact bodyPost_ret (v := .tuple #[.agg (rd (zeros 16) 0 0 0), .float .f32 0, .float .f32 0, .int .i64 2]) (results_at3 (p := 8) (ty := 28) rfl _ _ _ (rd (zeros 16) 0 0 0) _ _ _ _ rfl rfl rfl rfl Y9 _ Try.underlying28 rfl 19 (rd_size (zeros_len 16) _ _ _) (by kernel_rfl)) rfl ⟨rfl, B9.out⟩
  · have e : stepsC (okB cs p b l) o m n = givenC (okB cs p b l) o m := by unfold stepsC; rw [if_neg g]
    rw [e]
    clear h e
    generalize givenC (okB cs p b l) o m = c at KG g ⊢
    have gne : (c == 0) = false := by simp [g]
    go_enter Try.func14, Try.ntmps14
    go_wp2_with fail
    refine KG.mono ?_
    rintro e' w1 ⟨rfl, n1, rfl⟩
    have R1 := R0.drewN n1
    have Y1 := Y0.drewN n1
    have B1 := Lib.hid (bdrew B0.out n1)
    clear KG
    clear R1 R0
    have Y9 := Y1.setRow (rd (zeros 16) 0 0 0)
    have B9 := Lib.hid (bset B1.out (g := w.heap.size + 1) (by omega) (rd (zeros 16) 0 0 0))
    go_wp2_with (((with_reducible refine is_store 28 (.tmp 8) (.tmp 29) rfl ?_); refine wpList_store_at rfl 28 (.tmp 8) (.tmp 29) rfl _ rfl (rd (zeros 16) 0 0 0) rfl (rd (zeros 16) 0 0 0) _ (by assumption) 19 (rd_size (zeros_len 16) _ _ _) (rd_size (zeros_len 16) _ _ _) (by kernel_rfl) (fl_one _) ?_))
    exact bodyPost_ret (v := .tuple #[.agg (rd (zeros 16) 0 0 0), .float .f32 0, .float .f32 0, .int .i64 c]) (results_at3 (p := 8) (ty := 28) rfl _ _ _ (rd (zeros 16) 0 0 0) _ _ _ _ rfl rfl rfl rfl Y9 _ Try.underlying28 rfl 19 (rd_size (zeros_len 16) _ _ _) (by kernel_rfl)) rfl ⟨rfl, B9.out⟩


theorem sStepRoads_yes (cs : List Nat) (p b l : Nat) (hl : cs.length = 16) (hc : ∀ x ∈ cs, x < 4294967296) (hp : p < 4294967296) (hb : b < 4294967296) (hla : l < 4294967296) (o m : Nat) (ho : o < 4294967296) (hm : m < 4294967296) (n : Nat) (hn : n ≤ 400) (h : givenC (okB cs p b l) o m = 0) (w : World) :
    Calls Try.prog 14 #[.agg (rd cs p b l), .float .f32 o, .float .f32 m, .int .i64 n] w fun e w' => e = .returned (.tuple #[.agg (rd (itL p b cs (fun _ => o) (fun _ => m) n) p b l), .float .f32 (itS p b cs (fun _ => o) (fun _ => m) 0 n), .float .f32 (itS p b cs (fun _ => o) (fun _ => m) 16 n), .int .i64 0]) ∧ Below w.heap.size w w' := by
  have R0 : At ((w.alloc (.cells (rd cs p b l) 28)).alloc (.cells (rd (zeros 16) 0 0 0) 28)) w.heap.size (rd cs p b l) 28 := (At.new w _ _).alloc _
  have Y0 : At ((w.alloc (.cells (rd cs p b l) 28)).alloc (.cells (rd (zeros 16) 0 0 0) 28)) (w.heap.size + 1) (rd (zeros 16) 0 0 0) 28 := At.last1 w _ _ _
  have B0 := Lib.hid (bnew (b0 w (.cells (rd cs p b l) 28)) (.cells (rd (zeros 16) 0 0 0) 28))
  have KG := l02Given_any _ cs p b l hl hc hp hb hla o m ho hm _ ⟨_, _, R0⟩
  have gz := given_zero h
  have ok := OkR.of hl gz.1
  have KC : ∀ w, _ := fun w => l00In_any n 0 400 w
  simp only [decide_eq_true (show (0 : Int) ≤ (n : Int) ∧ (n : Int) ≤ 400 by omega)] at KC
  rw [h] at KG
  have GZ := Lib.hid gz.2
  clear gz h
  go_enter Try.func14, Try.ntmps14
  go_wp2_with fail
  refine KG.mono ?_
  rintro e' w1 ⟨rfl, n1, rfl⟩
  have R1 := R0.drewN n1
  have Y1 := Y0.drewN n1
  have B1 := Lib.hid (bdrew B0.out n1)
  clear KG
  go_wp2_with fail
  refine (KC _).mono ?_
  rintro e' w2 ⟨rfl, n2, rfl⟩
  have R2 := R0.drewN (n1 + n2)
  have Y2 := Y0.drewN (n1 + n2)
  have B2 := Lib.hid (bdrew B0.out (n1 + n2))
  clear KC Y1 B1 R1 R0 Y0 B0
  go_wp2
  have BB2 := B2
  go_loopw [13, 14, 15] (fun i1 i2 i wr => ∃ k : Nat, k ≤ n ∧ i = .int .i64 k ∧ i1 = .float .f32 (itS p b cs (fun _ => o) (fun _ => m) 0 k) ∧ i2 = .float .f32 (itS p b cs (fun _ => o) (fun _ => m) 16 k) ∧ At wr w.heap.size (rd (itL p b cs (fun _ => o) (fun _ => m) k) p b l) 28 ∧ At wr (w.heap.size + 1) (rd (zeros 16) 0 0 0) 28 ∧ Hid (Below w.heap.size w wr)) (fun _ _ i _ => n - (intOf i).toNat)
  case atStart => exact ⟨0, by omega, rfl, rfl, rfl, R2, Y2, BB2⟩
  case round =>
    obtain ⟨k, hk, rfl, rfl, rfl, R4, Y4, B4⟩ := hrel
    clear R2 Y2 B2 BB2
    have okk := itL_ok ok (fun _ => o) (fun _ => m) k
    have hLk := okk.len
    by_cases hlt : k < n
    · have hki : (k : Int) < (n : Int) := by omega
      have s2 : IntKind.i64.wrap ((k : Int) + 1) = (k : Int) + 1 := IntWalk.i64_in _ (by omega)
      obtain ⟨ns, hns⟩ : ∃ ns, ns = itF p b cs (fun _ => o) (fun _ => m) k := ⟨_, rfl⟩
      have hn17 : ns.length = 17 := by rw [hns]; exact itF_len _ _ _ _ _ _
      have hnb : ∀ x ∈ ns, x ≤ 1065353216 := by rw [hns]; exact itF_le ok _ _ k
      have a0 := itS_add ok (fun _ => o) (fun _ => m) 0 k
      have a6 := itS_add ok (fun _ => o) (fun _ => m) 16 k
      rw [← hns] at a0 a6
      have f0 : ∀ t w, (binOp .add t (.float .f32 (itS p b cs (fun _ => o) (fun _ => m) 0 k)) (.float .f32 (nth ns 0))).run Try.prog w = .ok (.float .f32 (itS p b cs (fun _ => o) (fun _ => m) 0 (k + 1))) w := fun t w => run_float_arith w .add t .f32 _ _ _ a0
      have f6 : ∀ t w, (binOp .add t (.float .f32 (itS p b cs (fun _ => o) (fun _ => m) 16 k)) (.float .f32 (nth ns 16))).run Try.prog w = .ok (.float .f32 (itS p b cs (fun _ => o) (fun _ => m) 16 (k + 1))) w := fun t w => run_float_arith w .add t .f32 _ _ _ a6
      have e1 : itL p b cs (fun _ => o) (fun _ => m) (k + 1) = stepL (itL p b cs (fun _ => o) (fun _ => m) k) (intoL ns) (outL ns) := by rw [hns]; rfl
      have HE := Lib.hid (And.intro hns e1)
      clear a0 a6 hns e1
      have FZ : (fl ns).size = 17 := by rw [fl_size, hn17]
      have KF : ∀ W, At W w.heap.size (rd (itL p b cs (fun _ => o) (fun _ => m) k) p b l) 28 → Calls Try.prog 27 #[.pointer (some ⟨w.heap.size, 0, none⟩), .float .f32 o, .float .f32 m] W fun e w' => e = .returned (.agg (fl ns)) ∧ Below W.heap.size W w' := fun W hA => by
        rw [HE.out.1]; exact l02Flows_any _ _ p b l okk o m GZ.out.1 GZ.out.2 W _ hA
      have KS : ∀ W gf, At W w.heap.size (rd (itL p b cs (fun _ => o) (fun _ => m) k) p b l) 28 → At W gf (fl ns) 52 → Calls Try.prog 28 #[.pointer (some ⟨w.heap.size, 0, none⟩), .pointer (some ⟨gf, 0, none⟩)] W fun e w' => e = .returned (.agg (rd (itL p b cs (fun _ => o) (fun _ => m) (k + 1)) p b l)) ∧ Below W.heap.size W w' := fun W gf hA hF => by
        rw [HE.out.2]; exact l02Step_any _ gf _ ns p b l hLk hn17 okk.cars hnb W _ _ hA hF
      have SK : (rd (itL p b cs (fun _ => o) (fun _ => m) k) p b l).size = 19 := rd_size hLk p b l
      have SK1 : (rd (itL p b cs (fun _ => o) (fun _ => m) (k + 1)) p b l).size = 19 := rd_size (itL_ok ok (fun _ => o) (fun _ => m) (k + 1)).len p b l
      clear okk hLk hnb
      go_wp2_with fail
      refine (KF _ R4).mono ?_
      rintro e' w5 ⟨rfl, hb5⟩
      have R5 := R4.step hb5
      have Y5 := Y4.step hb5
      have B5 := Lib.hid (bthen B4.out hb5)
      clear R4 Y4 B4 hb5
      have F0 := At.new w5 (fl (zeros 17)) 52
      have F6 := F0.setRow (fl ns)
      have R6 := (R5.alloc (.cells (fl (zeros 17)) 52)).setRow_other (k := w5.heap.size) (Nat.ne_of_lt R5.lt) (fl ns)
      have Y6 := (Y5.alloc (.cells (fl (zeros 17)) 52)).setRow_other (k := w5.heap.size) (Nat.ne_of_lt Y5.lt) (fl ns)
      have B6 := Lib.hid (bset (bnew B5.out (.cells (fl (zeros 17)) 52)) (g := w5.heap.size) B5.out.size (fl ns))
      go_wp2_with (((with_reducible refine is_store 52 (.tmp 16) (.tmp 38) rfl ?_); refine wpList_store_at rfl 52 (.tmp 16) (.tmp 38) rfl _ rfl (fl ns) rfl (fl (zeros 17)) _ (by assumption) 17 (FZ) (by rw [fl_size, zeros_len]) (by kernel_rfl) (fl_one _) ?_); refine Hid.out ?_)
      refine Lib.hid ?_
      have hg1 : w5.heap.size = w5.heap.size := rfl
      have gl5 := R5.lt
      have yl5 := Y5.lt
      clear F0 R5 Y5 B5
      rw [show (fl (zeros 17) : Array Value) = #[.float .f32 0, .float .f32 0, .float .f32 0, .float .f32 0, .float .f32 0, .float .f32 0, .float .f32 0, .float .f32 0, .float .f32 0, .float .f32 0, .float .f32 0, .float .f32 0, .float .f32 0, .float .f32 0, .float .f32 0, .float .f32 0, .float .f32 0] from rfl] at F6 R6 Y6 B6
      generalize hw5 : (w5.alloc (.cells #[.float .f32 0, .float .f32 0, .float .f32 0, .float .f32 0, .float .f32 0, .float .f32 0, .float .f32 0, .float .f32 0, .float .f32 0, .float .f32 0, .float .f32 0, .float .f32 0, .float .f32 0, .float .f32 0, .float .f32 0, .float .f32 0, .float .f32 0] 52)).setRow w5.heap.size (fl ns) = w6 at F6 R6 Y6 B6 ⊢
      clear hw5
      generalize w5.heap.size = gf at F6 gl5 yl5 ⊢
      try simp only [Act.put]
      go_wp2_with fail
      refine (KS _ gf R6 F6).mono ?_
      rintro e' w7 ⟨rfl, hb7⟩
      have R7 := R6.step hb7
      have Y7 := Y6.step hb7
      have F7 := F6.step hb7
      have B7 := Lib.hid (bthen B6.out hb7)
      clear R6 Y6 F6 B6 hb7
      have R8 := R7.setRow (rd (itL p b cs (fun _ => o) (fun _ => m) (k + 1)) p b l)
      have Y8 := Y7.setRow_other (k := w.heap.size) (by omega) (rd (itL p b cs (fun _ => o) (fun _ => m) (k + 1)) p b l)
      have F8 := F7.setRow_other (k := w.heap.size) (by omega) (rd (itL p b cs (fun _ => o) (fun _ => m) (k + 1)) p b l)
      have B8 := Lib.hid (bset B7.out (g := w.heap.size) (Nat.le_refl _) (rd (itL p b cs (fun _ => o) (fun _ => m) (k + 1)) p b l))
      clear Y7 F7 B7
      have c0 := F8.cell (fl_get (xs := ns) (k := 0) (by omega))
      have c6 := F8.cell (fl_get (xs := ns) (k := 16) (by omega))
      go_wp2_with (((with_reducible refine is_store 28 (.tmp 4) (.tmp 39) rfl ?_); refine wpList_store_at rfl 28 (.tmp 4) (.tmp 39) rfl _ rfl (rd (itL p b cs (fun _ => o) (fun _ => m) (k + 1)) p b l) rfl (rd (itL p b cs (fun _ => o) (fun _ => m) k) p b l) _ (by assumption) 19 (SK1) (SK) (by kernel_rfl) (fl_one _) ?_))
      exact ⟨⟨k + 1, by omega, by go_num, rfl, rfl, R8, Y8, B8⟩, by simp [intOf]; omega⟩
    · obtain rfl : k = n := by omega
      have SK : (rd (itL p b cs (fun _ => o) (fun _ => m) k) p b l).size = 19 := rd_size hLk p b l
      have Y9 := Y4.setRow (rd (itL p b cs (fun _ => o) (fun _ => m) k) p b l)
      have B9 := Lib.hid (bset B4.out (g := w.heap.size + 1) (by omega) (rd (itL p b cs (fun _ => o) (fun _ => m) k) p b l))
      go_wp2_with (first | ((with_reducible refine is_load 28 _ rfl ?_); refine wpList_load_at rfl 28 _ rfl _ rfl (rd (itL p b cs (fun _ => o) (fun _ => m) k) p b l) _ (by assumption) 19 (SK) _ Try.underlying28 rfl (by kernel_rfl) ?_) | ((with_reducible refine is_store 28 (.tmp 8) (.tmp 48) rfl ?_); refine wpList_store_at rfl 28 (.tmp 8) (.tmp 48) rfl _ rfl (rd (itL p b cs (fun _ => o) (fun _ => m) k) p b l) rfl (rd (zeros 16) 0 0 0) _ (by assumption) 19 (SK) (rd_size (zeros_len 16) _ _ _) (by kernel_rfl) (fl_one _) ?_))
      exact bodyPost_ret (v := .tuple #[.agg (rd (itL p b cs (fun _ => o) (fun _ => m) k) p b l), .float .f32 (itS p b cs (fun _ => o) (fun _ => m) 0 k), .float .f32 (itS p b cs (fun _ => o) (fun _ => m) 16 k), .int .i64 0]) (results_at3 (p := 8) (ty := 28) rfl _ _ _ (rd (itL p b cs (fun _ => o) (fun _ => m) k) p b l) _ _ _ _ rfl rfl rfl rfl Y9 _ Try.underlying28 rfl 19 (SK) (by kernel_rfl)) rfl ⟨rfl, B9.out⟩
end Go.Proofs.Ytkaghfoaicbngaa
