/-
  FnConflicts: a table of movements that are drawn is valid; a phase is clear just if it has no conflict, and then all phases within it are; movements that turn back each other's way do not conflict. No condition.
-/
import Derived.Test.YtboahhipobcababCflP
import Derived.Test.YtboahhipobcababWayI
import Derived.Test.YtboahhipobcababWayS
import Derived.Test.YtboahhipobcababPhNum
import Derived.Test.YtboahhipobcababTab
import Derived.Test.YtboahhipobcababLawB
import Derived.Test.YtboahhipobcababInts
import Derived.Test.YtboahhipobcababG2
namespace Go.Proofs.Ytboahhipobcabab.lawFnConflicts
open Go Go.ChangeShapes Go.WideShapes Go.ChangeAt Go.RowKit


theorem f6big_any (a : Option Addr) (n c : Nat) (hn : n ≤ maxLen) (w : World) : Calls Try.prog 41 #[.slice a n c] w fun e w' => e = .returned (.bool (decide (4096 < n))) ∧ w' = w := by
  have hm : n ≤ 9223372036854775807 := Nat.le_trans hn (by decide)
  by_cases h : 4096 < n
  · have h1 : (n : Int) > 4096 := by omega
    rw [decide_eq_true h]
    go_enter Try.func41, Try.ntmps41
    go_wp2
    go_ret
    exact ⟨rfl, rfl⟩
  · have h1 : ¬ (n : Int) > 4096 := by omega
    rw [decide_eq_false h]
    go_enter Try.func41, Try.ntmps41
    go_wp2
    go_ret
    exact ⟨rfl, rfl⟩
set_option maxRecDepth 100000
set_option maxHeartbeats 8000000 in
theorem walk (w : World) (a0 : Option Addr) (c0 : Nat) (x0 : List Nat) (h0 : BSl w a0 x0) (a1 : Option Addr) (c1 : Nat) (x1 : List Nat) (h1 : BSl w a1 x1) :
    Calls Try.prog 8 #[.slice a0 x0.length c0, .slice a1 x1.length c1] w (True? w) := by
  by_cases hb0 : 4096 < x0.length
  · go_enter Try.func8, Try.ntmps8
    go_wp2_with fail
    refine (f6big_any a0 x0.length c0 h0.len _).mono ?_
    rintro e w1 ⟨rfl, rfl⟩
    rw [decide_eq_true hb0]
    go_wp2_with fail
    go_ret
    exact ⟨rfl, Below.refl _ _⟩
  · by_cases hb1 : 4096 < x1.length
    · go_enter Try.func8, Try.ntmps8
      go_wp2_with fail
      refine (f6big_any a0 x0.length c0 h0.len _).mono ?_
      rintro e w1 ⟨rfl, rfl⟩
      rw [decide_eq_false hb0]
      go_wp2_with fail
      refine (f6big_any a1 x1.length c1 h1.len _).mono ?_
      rintro e w2 ⟨rfl, rfl⟩
      rw [decide_eq_true hb1]
      go_wp2_with fail
      go_ret
      exact ⟨rfl, Below.refl _ _⟩
    · skip
      go_enter Try.func8, Try.ntmps8
      go_wp2_with fail
      refine (f6big_any a0 x0.length c0 h0.len _).mono ?_
      rintro e w1 ⟨rfl, rfl⟩
      rw [decide_eq_false hb0]
      go_wp2_with fail
      refine (f6big_any a1 x1.length c1 h1.len _).mono ?_
      rintro e w2 ⟨rfl, rfl⟩
      rw [decide_eq_false hb1]
      go_wp2_with fail
      refine (P6Moves_e a0 c0 x0 _ h0).mono ?_
      rintro e w3 ⟨fs, ts, n, rfl, hn, hv, hb3⟩
      have B3 := Lib.hid hb3
      clear hb3
      have hsF : (il fs).size = 8 := by rw [il_size, hv.hf]
      have hsT : (il ts).size = 8 := by rw [il_size, hv.ht]
      have KC := fun w' => CrossTable_any fs ts hv.hf hv.ht (n : Int) w'
      have KS := fun w' => sCrossTable_any fs ts hv.hf hv.ht (n : Int) w'
      rw [vCt_yes (hv.aw hn)] at KC KS
      have HDD := Lib.hid (show fT n (mfn fs ts) n 0 = tbM fs ts n from rfl)
      have hok := tbM_ok hv
      have hdl := tbM_len fs ts n
      rw [HDD.out] at KC KS
      clear HDD
      obtain ⟨due, hdue⟩ : ∃ d, d = tbM fs ts n := ⟨_, rfl⟩
      rw [← hdue] at KC KS hok hdl
      have HDD := Lib.hid hdue
      have HDL := Lib.hid hdl
      have HV := Lib.hid hv
      have hsD : (bl due).size = 64 := by rw [bl_size, hdl]
      have hsz : z64.size = 64 := by rw [z64_eq, bl_size, noes_len]
      have hne := fun W => run_neq_table W due hdl
      clear hdue hv
      have Fa := At.new w3 (#[.int .i64 0, .int .i64 0, .int .i64 0, .int .i64 0, .int .i64 0, .int .i64 0, .int .i64 0, .int .i64 0]) 74
      have Ta : At ((w3.alloc (.cells (#[.int .i64 0, .int .i64 0, .int .i64 0, .int .i64 0, .int .i64 0, .int .i64 0, .int .i64 0, .int .i64 0]) 74)).alloc (.cells (#[.int .i64 0, .int .i64 0, .int .i64 0, .int .i64 0, .int .i64 0, .int .i64 0, .int .i64 0, .int .i64 0]) 74)) (w3.heap.size + 1) (#[.int .i64 0, .int .i64 0, .int .i64 0, .int .i64 0, .int .i64 0, .int .i64 0, .int .i64 0, .int .i64 0]) 74 := At.last1 w3 _ _ _
      have Fa2 := Fa.alloc (.cells (#[.int .i64 0, .int .i64 0, .int .i64 0, .int .i64 0, .int .i64 0, .int .i64 0, .int .i64 0, .int .i64 0]) 74)
      have Fb := Fa2.setRow (il fs)
      have Tb := Ta.setRow_other (k := w3.heap.size) (by omega) (il fs)
      have F4 := Fb.setRow_other (k := w3.heap.size + 1) (by omega) (il ts)
      have T4 := Tb.setRow (il ts)
      have hset : Below w3.heap.size w3 ((((w3.alloc (.cells (#[.int .i64 0, .int .i64 0, .int .i64 0, .int .i64 0, .int .i64 0, .int .i64 0, .int .i64 0, .int .i64 0]) 74)).alloc (.cells (#[.int .i64 0, .int .i64 0, .int .i64 0, .int .i64 0, .int .i64 0, .int .i64 0, .int .i64 0, .int .i64 0]) 74)).setRow w3.heap.size (il fs)).setRow (w3.heap.size + 1) (il ts)) := bset (bset (bnew (b0 w3 (.cells (#[.int .i64 0, .int .i64 0, .int .i64 0, .int .i64 0, .int .i64 0, .int .i64 0, .int .i64 0, .int .i64 0]) 74)) (.cells (#[.int .i64 0, .int .i64 0, .int .i64 0, .int .i64 0, .int .i64 0, .int .i64 0, .int .i64 0, .int .i64 0]) 74)) (Nat.le_refl _) (il fs)) (by omega) (il ts)
      have B4 := Lib.hid (bthen B3.out hset)
      clear B3 hset
      go_wp2_with (first | ((with_reducible refine is_store 74 _ _ rfl ?_); refine wpList_store_at rfl 74 _ _ rfl _ rfl (il fs) rfl (#[.int .i64 0, .int .i64 0, .int .i64 0, .int .i64 0, .int .i64 0, .int .i64 0, .int .i64 0, .int .i64 0]) _ (by with_reducible assumption) 8 (hsF) (rfl) (by kernel_rfl) (il_one _) ?_) | ((with_reducible refine is_store 74 _ _ rfl ?_); refine wpList_store_at rfl 74 _ _ rfl _ rfl (il ts) rfl (#[.int .i64 0, .int .i64 0, .int .i64 0, .int .i64 0, .int .i64 0, .int .i64 0, .int .i64 0, .int .i64 0]) _ (by with_reducible assumption) 8 (hsT) (rfl) (by kernel_rfl) (il_one _) ?_) | ((with_reducible refine is_load 74 _ rfl ?_); refine wpList_load_at rfl 74 _ rfl _ rfl (il fs) _ (by with_reducible assumption) 8 (hsF) _ Try.underlying74 rfl (by kernel_rfl) ?_) | ((with_reducible refine is_load 74 _ rfl ?_); refine wpList_load_at rfl 74 _ rfl _ rfl (il ts) _ (by with_reducible assumption) 8 (hsT) _ Try.underlying74 rfl (by kernel_rfl) ?_))
      clear Fa Fa2 Ta Fb Tb
      refine (KC _).mono ?_
      rintro e w5 ⟨rfl, hb5⟩
      have F5 := F4.step hb5
      have T5 := T4.step hb5
      have B5 := Lib.hid (bthen B4.out hb5)
      clear F4 T4 B4 hb5
      have Ca := At.new w5 (z64) 65
      have C6 := Ca.setRow (bl due)
      have hset : Below w5.heap.size w5 ((w5.alloc (.cells (z64) 65)).setRow w5.heap.size (bl due)) := bset (b0 w5 (.cells (z64) 65)) (Nat.le_refl _) (bl due)
      have F6 := F5.step hset
      have T6 := T5.step hset
      have B6 := Lib.hid (bthen B5.out hset)
      clear F5 T5 B5 hset
      go_wp2_with (first | ((with_reducible refine is_allocz 65 rfl ?_); refine wpList_allocz rfl 65 rfl z64 (fun w => by kernel_rfl) ?_) | ((with_reducible refine is_store 65 _ _ rfl ?_); refine wpList_store_at rfl 65 _ _ rfl _ rfl (bl due) rfl (z64) _ (by with_reducible assumption) 64 (hsD) (hsz) (by kernel_rfl) (bl_one _) ?_) | ((with_reducible refine is_load 74 _ rfl ?_); refine wpList_load_at rfl 74 _ rfl _ rfl (il fs) _ (by with_reducible assumption) 8 (hsF) _ Try.underlying74 rfl (by kernel_rfl) ?_) | ((with_reducible refine is_load 74 _ rfl ?_); refine wpList_load_at rfl 74 _ rfl _ rfl (il ts) _ (by with_reducible assumption) 8 (hsT) _ Try.underlying74 rfl (by kernel_rfl) ?_))
      refine (KS _).mono ?_
      rintro e w7 ⟨rfl, hb7⟩
      have F7 := F6.step hb7
      have T7 := T6.step hb7
      have C7 := C6.step hb7
      have B7 := Lib.hid (bthen B6.out hb7)
      clear F6 T6 C6 B6 hb7
      have Da := At.new w7 (z64) 65
      have D8 := Da.setRow (bl due)
      have hset : Below w7.heap.size w7 ((w7.alloc (.cells (z64) 65)).setRow w7.heap.size (bl due)) := bset (b0 w7 (.cells (z64) 65)) (Nat.le_refl _) (bl due)
      have F8 := F7.step hset
      have T8 := T7.step hset
      have C8 := C7.step hset
      have B8 := Lib.hid (bthen B7.out hset)
      clear F7 T7 C7 B7 hset
      have KV := fun w' => ValidTable_any due hdl w'
      rw [hok] at KV
      clear KC KS Ca
      go_wp2_with (first | ((with_reducible refine is_allocz 65 rfl ?_); refine wpList_allocz rfl 65 rfl z64 (fun w => by kernel_rfl) ?_) | ((with_reducible refine is_store 65 _ _ rfl ?_); refine wpList_store_at rfl 65 _ _ rfl _ rfl (bl due) rfl (z64) _ (by with_reducible assumption) 64 (hsD) (hsz) (by kernel_rfl) (bl_one _) ?_) | ((with_reducible refine is_load 65 _ rfl ?_); refine wpList_load_part_g rfl 65 _ rfl _ 0 rfl (bl due) _ (by with_reducible assumption) 64 (by rw [hsD]; omega) _ Try.underlying65 rfl (by kernel_rfl) (bl due) (by rw [Nat.zero_add, Array.extract_eq_self_of_le (by rw [hsD]; exact Nat.le_refl _)]) ?_) | ((with_reducible refine is_load 65 _ rfl ?_); refine wpList_load_at rfl 65 _ rfl _ rfl (bl due) _ (by with_reducible assumption) 64 (hsD) _ Try.underlying65 rfl (by kernel_rfl) ?_))
      refine (KV _).mono ?_
      rintro e w9 ⟨rfl, hb9⟩
      have F9 := F8.step hb9
      have T9 := T8.step hb9
      have D9 := D8.step hb9
      have B9 := Lib.hid (bthen B8.out hb9)
      clear F8 T8 D8 B8 hb9
      clear C8 KV hne Da
      go_wp2_with fail
      have HX := Lib.hid (And.intro F9 (And.intro T9 D9))
      have BL := B9
      clear F9 T9 D9 B9
      go_loopw [12] (fun v wr => ∃ i : Nat, i ≤ n ∧ v = .int .i64 (i : Int) ∧ Hid (Below w9.heap.size w9 wr)) (fun v _ => n - (intOf v).toNat)
      case atStart => exact ⟨0, by omega, rfl, Lib.hid (Below.refl _ _)⟩
      case round =>
        obtain ⟨i, hi, rfl, BO⟩ := hrel
        by_cases hlt : i < n
        · have s2 : IntKind.i64.wrap ((i : Int) + 1) = (i : Int) + 1 := IntWalk.i64_in _ (by omega)
          have ki : decide ((i : Int) < (n : Int)) = true := decide_eq_true (by omega)
          have hi8 : i < 8 := by omega
          have ki8 : (i : Int) < 8 := by omega
          go_wp2_with fail
          go_loopw [13] (fun v wr' => ∃ k : Nat, k ≤ n ∧ v = .int .i64 (k : Int) ∧ Hid (Below w9.heap.size w9 wr')) (fun v _ => n - (intOf v).toNat)
          case atStart => exact ⟨0, by omega, rfl, BO⟩
          case round =>
            clear BO
            obtain ⟨k, hk, rfl, BI⟩ := hrel
            by_cases hlk : k < n
            · have s3 : IntKind.i64.wrap ((k : Int) + 1) = (k : Int) + 1 := IntWalk.i64_in _ (by omega)
              have kk : decide ((k : Int) < (n : Int)) = true := decide_eq_true (by omega)
              have hk8 : k < 8 := by omega
              have kk8 : (k : Int) < 8 := by omega
              have F1 := HX.out.1.step BI.out
              have T1 := HX.out.2.1.step BI.out
              have D1 := HX.out.2.2.step BI.out
              have xfi := il_get (xs := fs) (k := i) (by rw [HV.out.hf]; exact hi8)
              have xfk := il_get (xs := fs) (k := k) (by rw [HV.out.hf]; exact hk8)
              have xti := il_get (xs := ts) (k := i) (by rw [HV.out.ht]; exact hi8)
              have xtk := il_get (xs := ts) (k := k) (by rw [HV.out.ht]; exact hk8)
              have xd : (bl due)[i * 8 + k]? = some (.bool (tb due i k)) := bl_get (by rw [HDL.out]; omega)
              have hd : tb due i k = mtB (ith fs i) (ith ts i) (ith fs k) (ith ts k) := by
                rw [HDD.out, tbM_at fs ts hi8 hk8, decide_eq_true hlt, decide_eq_true hlk]; rfl
              have hw := HV.out.wayB hlt
              generalize ith fs i = fi at *
              generalize ith fs k = fk at *
              generalize ith ts i = ti at *
              generalize ith ts k = tk at *
              have hA : fi = tk → ti = fk → tb due i k = false := fun e1 e2 => by rw [hd]; exact pair_a hw e1 e2
              have hB : ¬ fi = fk → ti = tk → tb due i k = true := fun e1 e2 => by rw [hd]; exact pair_b e1 e2
              have hC' : fi = fk → tb due i k = false := fun e => by rw [hd, e]; exact mt_self _ _ _
              clear hd hw
              generalize tb due i k = d at *
              obtain ⟨b1, e1⟩ : ∃ b, (fi == tk) = b := ⟨_, rfl⟩
              obtain ⟨b2, e2⟩ : ∃ b, (ti == fk) = b := ⟨_, rfl⟩
              obtain ⟨b3, e3⟩ : ∃ b, (fi == fk) = b := ⟨_, rfl⟩
              obtain ⟨b4, e4⟩ : ∃ b, (ti == tk) = b := ⟨_, rfl⟩
              have e3' : (fi != fk) = !b3 := by rw [← e3]; rfl
              have hA : b1 = true → b2 = true → d = false := fun h1 h2 => hA (by rw [h1] at e1; simpa using e1) (by rw [h2] at e2; simpa using e2)
              have hB : b3 = false → b4 = true → d = true := fun h1 h2 => hB (by rw [h1] at e3; simpa using e3) (by rw [h2] at e4; simpa using e4)
              have hC' : b3 = true → d = false := fun h => hC' (by rw [h] at e3; simpa using e3)
              cases b1 <;> cases b2 <;> cases b3 <;> cases b4 <;> cases d <;> first
                | exact absurd (hA rfl rfl) (by decide)
                | exact absurd (hB rfl rfl) (by decide)
                | exact absurd (hC' rfl) (by decide)
                | skip
              all_goals
                clear hA hB hC'
                simp only [Bool.not_true, Bool.not_false] at e3'
                go_wp2_with fail
                have hC := Cb.const wr
                refine wp_region_cb (by kernel_rfl) (by kernel_rfl) ?_
                try simp only [List.append_eq, List.cons_append, List.nil_append]
                repeat (first
                  | go_big_quiet_skip
                  | (go_big_quiet_want; first
                    | (refine q_oneI 2 _ rfl _ Try.underlying2 rfl i rfl F1 _ xfi ?_; go_simp; go_big_quiet_on)
                    | (refine q_oneI 2 _ rfl _ Try.underlying2 rfl k rfl F1 _ xfk ?_; go_simp; go_big_quiet_on)
                    | (refine q_oneI 2 _ rfl _ Try.underlying2 rfl i rfl T1 _ xti ?_; go_simp; go_big_quiet_on)
                    | (refine q_oneI 2 _ rfl _ Try.underlying2 rfl k rfl T1 _ xtk ?_; go_simp; go_big_quiet_on)
                    | (refine q_oneI 4 _ rfl _ Try.underlying4 rfl (i * 8 + k) rfl D1 _ xd ?_; go_simp; go_big_quiet_on)
                    | (go_big_quiet_op; go_big_quiet_on)))
                refine wpQuiet_nil ?_
                intro w9 hw9
                have B9 := Lib.hid (bthen BI.out hw9)
                clear hC F1 T1 D1 BI hw9
                go_wp2_with fail
                exact ⟨⟨k + 1, by omega, by go_num, B9⟩, by simp [intOf]; omega⟩
            · obtain rfl : n = k := by omega
              have kk : decide ((n : Int) < (n : Int)) = false := decide_eq_false (by omega)
              go_wp2_with fail
              exact ⟨⟨i + 1, by omega, by go_num, BI⟩, by simp [intOf]; omega⟩
        · obtain rfl : n = i := by omega
          have ki : decide ((n : Int) < (n : Int)) = false := decide_eq_false (by omega)
          have F5 := HX.out.1.step BO.out
          have T5 := HX.out.2.1.step BO.out
          have D5 := HX.out.2.2.step BO.out
          have B5 := Lib.hid (bthen BL.out BO.out)
          clear BO
          go_wp2_with fail
          refine (P6Phase_e a1 c1 x1 _ (h1.step B5.out (Nat.le_refl _))).mono ?_
          rintro e w11 ⟨ps, rfl, hps, hb11⟩
          have hsP : (bl ps).size = 8 := by rw [bl_size, hps]
          have D6 := D5.step hb11
          have B6 := Lib.hid (bthen B5.out hb11)
          clear D5 B5 hb11 F5 T5
          have Pa := At.new w11 (#[.bool false, .bool false, .bool false, .bool false, .bool false, .bool false, .bool false, .bool false]) 69
          have P7 := Pa.setRow (bl ps)
          have hset : Below w11.heap.size w11 ((w11.alloc (.cells (#[.bool false, .bool false, .bool false, .bool false, .bool false, .bool false, .bool false, .bool false]) 69)).setRow w11.heap.size (bl ps)) := bset (b0 w11 (.cells (#[.bool false, .bool false, .bool false, .bool false, .bool false, .bool false, .bool false, .bool false]) 69)) (Nat.le_refl _) (bl ps)
          have D7 := D6.step hset
          have B7 := Lib.hid (bthen B6.out hset)
          clear D6 B6 hset
          have KI := fun w' => IsClear_any due ps HDL.out hps w'
          have KF := fun w' => FirstConflict_any due ps HDL.out hps w'
          have KG := fun w' => sFirstConflict_any due ps HDL.out hps w'
          rw [vIsClear_yes hok] at KI
          rw [vFirstConflict_yes hok] at KF KG
          have hmore := fun (m : Nat) (h : conf due ps = none) => conf_less (ts := due) m h
          have hq : ∀ m, (bl (ps.set m false)).size = 8 := fun m => by rw [bl_size, List.length_set, hps]
          have hnb := num_lt ps
          have kn1 : decide ((numB ps : Int) ≥ 0) = true := decide_eq_true (by omega)
          have kn1' : decide (0 ≤ (numB ps : Int)) = true := decide_eq_true (by omega)
          have kn2 : decide ((numB ps : Int) < 256) = true := decide_eq_true (by omega)
          have KN := fun w' => NumberOfPhase_any ps hps w'
          have KO := fun w' => PhaseOf_any ((numB ps : Nat) : Int) w'
          rw [vPh_num hps] at KO
          have heq := fun W => run_eql_phase W ps hps
          have KIq := fun m w' => IsClear_any due (ps.set m false) HDL.out (by rw [List.length_set]; exact hps) w'
          simp only [vIsClear_yes hok] at KIq
          cases hc : conf due ps with
          | none =>
            rw [hc] at KI KF KG
            have hmore := fun m => hmore m hc
            simp only [hmore] at KIq
            clear hmore hc
            change ∀ w', Calls _ _ _ w' (fun e w'' => e = .returned (.tuple #[.bool true, .int .i64 0]) ∧ _) at KI
            change ∀ w', Calls _ _ _ w' (fun e w'' => e = .returned (.tuple #[.int .i64 0, .int .i64 0, .int .i64 6]) ∧ _) at KF
            change ∀ w', Calls _ _ _ w' (fun e w'' => e = .returned (.tuple #[.int .i64 0, .int .i64 0, .int .i64 6]) ∧ _) at KG
            change ∀ m w', Calls _ _ _ w' (fun e w'' => e = .returned (.tuple #[.bool true, .int .i64 0]) ∧ _) at KIq
            go_wp2_with (first | ((with_reducible refine is_store 69 _ _ rfl ?_); refine wpList_store_at rfl 69 _ _ rfl _ rfl (bl ps) rfl (#[.bool false, .bool false, .bool false, .bool false, .bool false, .bool false, .bool false, .bool false]) _ (by with_reducible assumption) 8 (hsP) (rfl) (by kernel_rfl) (bl_one _) ?_) | ((with_reducible refine is_load 65 _ rfl ?_); refine wpList_load_at rfl 65 _ rfl _ rfl (bl due) _ (by with_reducible assumption) 64 (hsD) _ Try.underlying65 rfl (by kernel_rfl) ?_) | ((with_reducible refine is_load 69 _ rfl ?_); refine wpList_load_at rfl 69 _ rfl _ rfl (bl ps) _ (by with_reducible assumption) 8 (hsP) _ Try.underlying69 rfl (by kernel_rfl) ?_))
            refine (KI _).mono ?_
            rintro e w13 ⟨rfl, hb13⟩
            have D8 := D7.step hb13
            have P8 := P7.step hb13
            have B8 := Lib.hid (bthen B7.out hb13)
            clear D7 P7 B7 hb13
            clear Pa KI
            go_wp2_with (first | ((with_reducible refine is_load 65 _ rfl ?_); refine wpList_load_at rfl 65 _ rfl _ rfl (bl due) _ (by with_reducible assumption) 64 (hsD) _ Try.underlying65 rfl (by kernel_rfl) ?_) | ((with_reducible refine is_load 69 _ rfl ?_); refine wpList_load_at rfl 69 _ rfl _ rfl (bl ps) _ (by with_reducible assumption) 8 (hsP) _ Try.underlying69 rfl (by kernel_rfl) ?_))
            refine (KF _).mono ?_
            rintro e w14 ⟨rfl, hb14⟩
            have D9 := D8.step hb14
            have P9 := P8.step hb14
            have B9 := Lib.hid (bthen B8.out hb14)
            clear D8 P8 B8 hb14
            clear KF
            go_wp2_with (first | ((with_reducible refine is_load 65 _ rfl ?_); refine wpList_load_at rfl 65 _ rfl _ rfl (bl due) _ (by with_reducible assumption) 64 (hsD) _ Try.underlying65 rfl (by kernel_rfl) ?_) | ((with_reducible refine is_load 69 _ rfl ?_); refine wpList_load_at rfl 69 _ rfl _ rfl (bl ps) _ (by with_reducible assumption) 8 (hsP) _ Try.underlying69 rfl (by kernel_rfl) ?_))
            refine (KG _).mono ?_
            rintro e w15 ⟨rfl, hb15⟩
            have D10 := D9.step hb15
            have P10 := P9.step hb15
            have B10 := Lib.hid (bthen B9.out hb15)
            clear D9 P9 B9 hb15
            clear KG
            have Qa := At.new w15 (#[.bool false, .bool false, .bool false, .bool false, .bool false, .bool false, .bool false, .bool false]) 69
            have Q0 := Qa.setRow (bl ps)
            have hset : Below w15.heap.size w15 ((w15.alloc (.cells (#[.bool false, .bool false, .bool false, .bool false, .bool false, .bool false, .bool false, .bool false]) 69)).setRow w15.heap.size (bl ps)) := bset (b0 w15 (.cells (#[.bool false, .bool false, .bool false, .bool false, .bool false, .bool false, .bool false, .bool false]) 69)) (Nat.le_refl _) (bl ps)
            have D11 := D10.step hset
            have P11 := P10.step hset
            have B11 := Lib.hid (bthen B10.out hset)
            have hx1 := h1.step B11.out (Nat.le_refl _)
            have hD15 := D10.lt
            have hP15 := P10.lt
            have hB15 := B10.out.size
            go_wp2_with (first | ((with_reducible refine is_load 69 _ rfl ?_); refine wpList_load_at rfl 69 _ rfl _ rfl (bl ps) _ (by with_reducible assumption) 8 (hsP) _ Try.underlying69 rfl (by kernel_rfl) ?_) | ((with_reducible refine is_store 69 _ _ rfl ?_); refine wpList_store_at rfl 69 _ _ rfl _ rfl (bl ps) rfl (#[.bool false, .bool false, .bool false, .bool false, .bool false, .bool false, .bool false, .bool false]) _ (by with_reducible assumption) 8 (hsP) (rfl) (by kernel_rfl) (bl_one _) ?_))
            clear B10 hset D10 P10 Qa
            refine (P6Pick_e a1 c1 x1 8 (by omega) (by omega) _ hx1).mono ?_
            rintro e w16 ⟨m, rfl, hm, hb16⟩
            have hm8 : (m : Int) < 8 := by omega
            have Q1 := Q0.step hb16
            have D12 := D11.step hb16
            have P12 := P11.step hb16
            have B12 := Lib.hid (bthen B11.out hb16)
            clear Q0 D11 P11 B11 hb16 hx1
            have hsQ := hq m
            have KQ := KIq m
            have Q2 := Q1.setRow (bl (ps.set m false))
            have D13 := D12.setRow_other (k := w15.heap.size) (by omega) (bl (ps.set m false))
            have P13 := P12.setRow_other (k := w15.heap.size) (by omega) (bl (ps.set m false))
            have B13 := Lib.hid (bset B12.out (g := w15.heap.size) hB15 (bl (ps.set m false)))
            clear hq KIq
            go_wp2_with (first | ((with_reducible refine is_store 4 _ _ rfl ?_); refine wpList_store_cell rfl 4 _ _ rfl _ m rfl (.bool false) rfl (bl ps) _ (by with_reducible assumption) (by rw [hsP]; omega) (by kernel_rfl) rfl (bl (ps.set m false)) (bl_set _ _ _) ?_) | ((with_reducible refine is_load 65 _ rfl ?_); refine wpList_load_at rfl 65 _ rfl _ rfl (bl due) _ (by with_reducible assumption) 64 (hsD) _ Try.underlying65 rfl (by kernel_rfl) ?_) | ((with_reducible refine is_load 69 _ rfl ?_); refine wpList_load_at rfl 69 _ rfl _ rfl (bl (ps.set m false)) _ (by with_reducible assumption) 8 (hsQ) _ Try.underlying69 rfl (by kernel_rfl) ?_))
            clear Q1 D12 P12 B12
            refine (KQ _).mono ?_
            rintro e w17 ⟨rfl, hb17⟩
            have P14 := P13.step hb17
            have B14 := Lib.hid (bthen B13.out hb17)
            clear P13 B13 hb17
            clear Q2 D13 KQ
            go_wp2_with (((with_reducible refine is_load 69 _ rfl ?_); refine wpList_load_at rfl 69 _ rfl _ rfl (bl ps) _ (by with_reducible assumption) 8 (hsP) _ Try.underlying69 rfl (by kernel_rfl) ?_))
            refine (KN _).mono ?_
            rintro e w18 ⟨rfl, hb18⟩
            have P15 := P14.step hb18
            have B15 := Lib.hid (bthen B14.out hb18)
            clear P14 B14 hb18
            clear KN
            go_wp2_with fail
            refine (KO _).mono ?_
            rintro e w19 ⟨rfl, hb19⟩
            have P16 := P15.step hb19
            have B16 := Lib.hid (bthen B15.out hb19)
            clear P15 B15 hb19
            clear KO
            have Ra := At.new w19 (#[.bool false, .bool false, .bool false, .bool false, .bool false, .bool false, .bool false, .bool false]) 69
            have R17 := Ra.setRow (bl ps)
            have hset : Below w19.heap.size w19 ((w19.alloc (.cells (#[.bool false, .bool false, .bool false, .bool false, .bool false, .bool false, .bool false, .bool false]) 69)).setRow w19.heap.size (bl ps)) := bset (b0 w19 (.cells (#[.bool false, .bool false, .bool false, .bool false, .bool false, .bool false, .bool false, .bool false]) 69)) (Nat.le_refl _) (bl ps)
            have P17 := P16.step hset
            have BZ := Lib.hid (bthen B16.out hset)
            clear hset P16 B16
            generalize ((numB ps : Nat) : Int) = nb at *
            go_wp2_with (first | ((with_reducible refine is_store 69 _ _ rfl ?_); refine wpList_store_at rfl 69 _ _ rfl _ rfl (bl ps) rfl (#[.bool false, .bool false, .bool false, .bool false, .bool false, .bool false, .bool false, .bool false]) _ (by with_reducible assumption) 8 (hsP) (rfl) (by kernel_rfl) (bl_one _) ?_) | ((with_reducible refine is_load 69 _ rfl ?_); refine wpList_load_part_g rfl 69 _ rfl _ 0 rfl (bl ps) _ (by with_reducible assumption) 8 (by rw [hsP]; omega) _ Try.underlying69 rfl (by kernel_rfl) (bl ps) (by rw [Nat.zero_add, Array.extract_eq_self_of_le (by rw [hsP]; exact Nat.le_refl _)]) ?_))
            go_ret
            exact ⟨rfl, BZ.out⟩
          | some ik =>
            obtain ⟨i0, k0⟩ := ik
            rw [hc] at KI KF KG
            obtain ⟨hik, hk0, hhit⟩ := hits_some (Nat.le_refl _) hc
            have hi0 : i0 < 8 := by omega
            have hh : bn ps i0 = true ∧ bn ps k0 = true ∧ tb due i0 k0 = true := by
              unfold hit at hhit
              simpa only [Bool.and_eq_true] using hhit
            have y1 : (bl ps)[i0]? = some (.bool true) := by rw [bl_get (by omega), hh.1]
            have y2 : (bl ps)[k0]? = some (.bool true) := by rw [bl_get (by omega), hh.2.1]
            have y3 : (bl due)[i0 * 8 + k0]? = some (.bool true) := by rw [bl_get (by rw [HDL.out]; omega)]; exact congrArg (fun b => some (Value.bool b)) hh.2.2
            have y4 : decide ((i0 : Int) ≥ (k0 : Int)) = false := decide_eq_false (by omega)
            have y4' : decide ((k0 : Int) ≤ (i0 : Int)) = false := decide_eq_false (by omega)
            have y5 : (i0 : Int) < 8 := by omega
            have y6 : (k0 : Int) < 8 := by omega
            clear hmore hc hhit hh
            change ∀ w', Calls _ _ _ w' (fun e w'' => e = .returned (.tuple #[.bool false, .int .i64 0]) ∧ _) at KI
            change ∀ w', Calls _ _ _ w' (fun e w'' => e = .returned (.tuple #[.int .i64 (i0 : Int), .int .i64 (k0 : Int), .int .i64 0]) ∧ _) at KF
            change ∀ w', Calls _ _ _ w' (fun e w'' => e = .returned (.tuple #[.int .i64 (i0 : Int), .int .i64 (k0 : Int), .int .i64 0]) ∧ _) at KG
            change ∀ m w', Calls _ _ _ w' (fun e w'' => e = .returned (.tuple #[.bool (!cfB (conf due (ps.set m false))), .int .i64 0]) ∧ _) at KIq
            go_wp2_with (first | ((with_reducible refine is_store 69 _ _ rfl ?_); refine wpList_store_at rfl 69 _ _ rfl _ rfl (bl ps) rfl (#[.bool false, .bool false, .bool false, .bool false, .bool false, .bool false, .bool false, .bool false]) _ (by with_reducible assumption) 8 (hsP) (rfl) (by kernel_rfl) (bl_one _) ?_) | ((with_reducible refine is_load 65 _ rfl ?_); refine wpList_load_at rfl 65 _ rfl _ rfl (bl due) _ (by with_reducible assumption) 64 (hsD) _ Try.underlying65 rfl (by kernel_rfl) ?_) | ((with_reducible refine is_load 69 _ rfl ?_); refine wpList_load_at rfl 69 _ rfl _ rfl (bl ps) _ (by with_reducible assumption) 8 (hsP) _ Try.underlying69 rfl (by kernel_rfl) ?_))
            refine (KI _).mono ?_
            rintro e w13 ⟨rfl, hb13⟩
            have D8 := D7.step hb13
            have P8 := P7.step hb13
            have B8 := Lib.hid (bthen B7.out hb13)
            clear D7 P7 B7 hb13
            clear Pa KI
            go_wp2_with (first | ((with_reducible refine is_load 65 _ rfl ?_); refine wpList_load_at rfl 65 _ rfl _ rfl (bl due) _ (by with_reducible assumption) 64 (hsD) _ Try.underlying65 rfl (by kernel_rfl) ?_) | ((with_reducible refine is_load 69 _ rfl ?_); refine wpList_load_at rfl 69 _ rfl _ rfl (bl ps) _ (by with_reducible assumption) 8 (hsP) _ Try.underlying69 rfl (by kernel_rfl) ?_))
            refine (KF _).mono ?_
            rintro e w14 ⟨rfl, hb14⟩
            have D9 := D8.step hb14
            have P9 := P8.step hb14
            have B9 := Lib.hid (bthen B8.out hb14)
            clear D8 P8 B8 hb14
            clear KF
            go_wp2_with (first | ((with_reducible refine is_load 65 _ rfl ?_); refine wpList_load_at rfl 65 _ rfl _ rfl (bl due) _ (by with_reducible assumption) 64 (hsD) _ Try.underlying65 rfl (by kernel_rfl) ?_) | ((with_reducible refine is_load 69 _ rfl ?_); refine wpList_load_at rfl 69 _ rfl _ rfl (bl ps) _ (by with_reducible assumption) 8 (hsP) _ Try.underlying69 rfl (by kernel_rfl) ?_))
            refine (KG _).mono ?_
            rintro e w15 ⟨rfl, hb15⟩
            have D10 := D9.step hb15
            have P10 := P9.step hb15
            have B10 := Lib.hid (bthen B9.out hb15)
            clear D9 P9 B9 hb15
            clear KG
            have Qa := At.new w15 (#[.bool false, .bool false, .bool false, .bool false, .bool false, .bool false, .bool false, .bool false]) 69
            have Q0 := Qa.setRow (bl ps)
            have hset : Below w15.heap.size w15 ((w15.alloc (.cells (#[.bool false, .bool false, .bool false, .bool false, .bool false, .bool false, .bool false, .bool false]) 69)).setRow w15.heap.size (bl ps)) := bset (b0 w15 (.cells (#[.bool false, .bool false, .bool false, .bool false, .bool false, .bool false, .bool false, .bool false]) 69)) (Nat.le_refl _) (bl ps)
            have D11 := D10.step hset
            have P11 := P10.step hset
            have B11 := Lib.hid (bthen B10.out hset)
            have hx1 := h1.step B11.out (Nat.le_refl _)
            have hD15 := D10.lt
            have hP15 := P10.lt
            have hB15 := B10.out.size
            go_wp2_with (first | ((with_reducible refine is_load 4 _ rfl ?_); refine wpList_load_cell_g rfl 4 _ rfl _ i0 rfl (bl ps) _ (by with_reducible assumption) _ Try.underlying4 rfl (.bool true) (y1) ?_) | ((with_reducible refine is_load 4 _ rfl ?_); refine wpList_load_cell_g rfl 4 _ rfl _ k0 rfl (bl ps) _ (by with_reducible assumption) _ Try.underlying4 rfl (.bool true) (y2) ?_) | ((with_reducible refine is_load 4 _ rfl ?_); refine wpList_load_cell_g (by kernel_rfl) 4 _ rfl _ (i0 * 8 + k0) rfl (bl due) _ (by with_reducible assumption) _ Try.underlying4 rfl (.bool true) (y3) ?_) | ((with_reducible refine is_load 69 _ rfl ?_); refine wpList_load_at rfl 69 _ rfl _ rfl (bl ps) _ (by with_reducible assumption) 8 (hsP) _ Try.underlying69 rfl (by kernel_rfl) ?_) | ((with_reducible refine is_store 69 _ _ rfl ?_); refine wpList_store_at rfl 69 _ _ rfl _ rfl (bl ps) rfl (#[.bool false, .bool false, .bool false, .bool false, .bool false, .bool false, .bool false, .bool false]) _ (by with_reducible assumption) 8 (hsP) (rfl) (by kernel_rfl) (bl_one _) ?_))
            clear B10 hset D10 P10 Qa
            refine (P6Pick_e a1 c1 x1 8 (by omega) (by omega) _ hx1).mono ?_
            rintro e w16 ⟨m, rfl, hm, hb16⟩
            have hm8 : (m : Int) < 8 := by omega
            have Q1 := Q0.step hb16
            have D12 := D11.step hb16
            have P12 := P11.step hb16
            have B12 := Lib.hid (bthen B11.out hb16)
            clear Q0 D11 P11 B11 hb16 hx1
            have hsQ := hq m
            have KQ := KIq m
            have Q2 := Q1.setRow (bl (ps.set m false))
            have D13 := D12.setRow_other (k := w15.heap.size) (by omega) (bl (ps.set m false))
            have P13 := P12.setRow_other (k := w15.heap.size) (by omega) (bl (ps.set m false))
            have B13 := Lib.hid (bset B12.out (g := w15.heap.size) hB15 (bl (ps.set m false)))
            generalize (!cfB (conf due (ps.set m false))) = lb at KQ
            clear hq KIq
            go_wp2_with (first | ((with_reducible refine is_store 4 _ _ rfl ?_); refine wpList_store_cell rfl 4 _ _ rfl _ m rfl (.bool false) rfl (bl ps) _ (by with_reducible assumption) (by rw [hsP]; omega) (by kernel_rfl) rfl (bl (ps.set m false)) (bl_set _ _ _) ?_) | ((with_reducible refine is_load 65 _ rfl ?_); refine wpList_load_at rfl 65 _ rfl _ rfl (bl due) _ (by with_reducible assumption) 64 (hsD) _ Try.underlying65 rfl (by kernel_rfl) ?_) | ((with_reducible refine is_load 69 _ rfl ?_); refine wpList_load_at rfl 69 _ rfl _ rfl (bl (ps.set m false)) _ (by with_reducible assumption) 8 (hsQ) _ Try.underlying69 rfl (by kernel_rfl) ?_))
            clear Q1 D12 P12 B12
            refine (KQ _).mono ?_
            rintro e w17 ⟨rfl, hb17⟩
            have P14 := P13.step hb17
            have B14 := Lib.hid (bthen B13.out hb17)
            clear P13 B13 hb17
            clear Q2 D13 KQ
            go_wp2_with (((with_reducible refine is_load 69 _ rfl ?_); refine wpList_load_at rfl 69 _ rfl _ rfl (bl ps) _ (by with_reducible assumption) 8 (hsP) _ Try.underlying69 rfl (by kernel_rfl) ?_))
            refine (KN _).mono ?_
            rintro e w18 ⟨rfl, hb18⟩
            have P15 := P14.step hb18
            have B15 := Lib.hid (bthen B14.out hb18)
            clear P14 B14 hb18
            clear KN
            go_wp2_with fail
            refine (KO _).mono ?_
            rintro e w19 ⟨rfl, hb19⟩
            have P16 := P15.step hb19
            have B16 := Lib.hid (bthen B15.out hb19)
            clear P15 B15 hb19
            clear KO
            have Ra := At.new w19 (#[.bool false, .bool false, .bool false, .bool false, .bool false, .bool false, .bool false, .bool false]) 69
            have R17 := Ra.setRow (bl ps)
            have hset : Below w19.heap.size w19 ((w19.alloc (.cells (#[.bool false, .bool false, .bool false, .bool false, .bool false, .bool false, .bool false, .bool false]) 69)).setRow w19.heap.size (bl ps)) := bset (b0 w19 (.cells (#[.bool false, .bool false, .bool false, .bool false, .bool false, .bool false, .bool false, .bool false]) 69)) (Nat.le_refl _) (bl ps)
            have P17 := P16.step hset
            have BZ := Lib.hid (bthen B16.out hset)
            clear hset P16 B16
            generalize ((numB ps : Nat) : Int) = nb at *
            go_wp2_with (first | ((with_reducible refine is_store 69 _ _ rfl ?_); refine wpList_store_at rfl 69 _ _ rfl _ rfl (bl ps) rfl (#[.bool false, .bool false, .bool false, .bool false, .bool false, .bool false, .bool false, .bool false]) _ (by with_reducible assumption) 8 (hsP) (rfl) (by kernel_rfl) (bl_one _) ?_) | ((with_reducible refine is_load 69 _ rfl ?_); refine wpList_load_part_g rfl 69 _ rfl _ 0 rfl (bl ps) _ (by with_reducible assumption) 8 (by rw [hsP]; omega) _ Try.underlying69 rfl (by kernel_rfl) (bl ps) (by rw [Nat.zero_add, Array.extract_eq_self_of_le (by rw [hsP]; exact Nat.le_refl _)]) ?_))
            go_ret
            exact ⟨rfl, BZ.out⟩

set_option maxRecDepth 100000 in
theorem lifted (os : Os) (started : os.Started) (H : Type) (enc : TypeId × Value → H) :
    ReturnsInHanded {} Try.checked os 8 .any (Rows.fnConflictsSpec.pre6 enc Try.prog Try.f8 Rows.fnConflictsRow.domain false) (Rows.fnConflictsSpec.post enc Try.prog Try.f8 false true false false) := by
  refine law_liftedS enc os started (by kernel_rfl) Try.func8
    (ChangeSpec.witness6 (enc := enc) (C := Try.checked) false ⟨#[], #[.slice none 0 0, .slice none 0 0], []⟩ 24 (by kernel_rfl) (by kernel_rfl) (by kernel_rfl) (by kernel_rfl)) rfl (by kernel_rfl) ?_ ?_ ?_
  · rw [Try.params8]
    intro t ht
    have hall : (#[72, 72].toList.all fun u => Try.prog.readableRec u && decide (u < Try.prog.types.size)) = true := by kernel_rfl
    have := List.all_eq_true.1 hall t ht
    simpa using this
  · intro ds h
    rw [Try.params8] at h
    match ds, h with
    | [d0, d1], _ => rfl
  · intro W base args ds ps hl hval hA
    rw [Try.params8] at hl hval hA
    obtain ⟨v0, v1, rfl⟩ : ∃ v0 v1, args = #[v0, v1] := by
      obtain ⟨l⟩ := args
      match l, hl with
      | [v0, v1], _ => exact ⟨v0, v1, rfl⟩
    obtain ⟨vx0, vy0, dd0, de0, pp0, pq0, ee0, -, -, tr0, rr0⟩ := trodAll_cons hA
    obtain ⟨rfl, rfl⟩ := List.cons.inj ee0
    obtain ⟨vx1, vy1, dd1, de1, pp1, pq1, ee1, -, -, tr1, rr1⟩ := trodAll_cons rr0
    obtain ⟨rfl, rfl⟩ := List.cons.inj ee1
    obtain ⟨a0, c0, x0, rfl, h0⟩ := shape_bytes Try.underlying72 Try.underlying5 (by kernel_rfl) (okWide_slice Try.underlying72 (hval 0 _ _ rfl rfl)) tr0
    obtain ⟨a1, c1, x1, rfl, h1⟩ := shape_bytes Try.underlying72 Try.underlying5 (by kernel_rfl) (okWide_slice Try.underlying72 (hval 1 _ _ rfl rfl)) tr1
    exact walk W a0 c0 x0 h0 a1 c1 x1 h1

/-- THE STATEMENT -/
theorem proved : Rows.FnConflictsSaid := by
  first
    | (refine OpenClaim.holds_of_wide 8 Try.f8 rfl rfl rfl rfl rfl rfl rfl ⟨rfl, rfl, rfl, rfl, rfl⟩ rfl rfl rfl rfl rfl (by kernel_rfl) Try.func8 (by kernel_rfl) (of_decide_eq_true (by kernel_rfl)) ?_ (fun os started H enc _ => lifted os started H enc))
    | (refine OpenClaim.holds_of_wide_leaving 8 Try.f8 rfl rfl rfl rfl rfl rfl rfl ⟨rfl, rfl, rfl, rfl, rfl⟩ rfl rfl rfl rfl rfl (by kernel_rfl) Try.func8 (by kernel_rfl) (of_decide_eq_true (by kernel_rfl)) ?_ (fun os started H enc _ => leaving_of_handed (lifted os started H enc)))
  unfold Func.isWrapper
  first | (rw [if_pos (by decide +kernel)]; kernel_rfl) | (rw [if_neg (by decide +kernel)]; exact ⟨rfl, rfl⟩)
#print axioms proved
end Go.Proofs.Ytboahhipobcabab.lawFnConflicts
