/-
  CONTRACTS: the mean of how full.
-/
import Derived.Test.YteoplkhhlligcaaSomeT
import Derived.Test.YteoplkhhlligcaaCmpI
import Derived.Test.YteoplkhhlligcaaBusyS
import Derived.Test.YteoplkhhlligcaaFint
import Derived.Test.YteoplkhhlligcaaToDet
namespace Go.Proofs.Yteoplkhhlligcaa
open Go Go.ChangeShapes Go.WideShapes Go.ChangeAt Go.RowKit
set_option maxRecDepth 100000

def sumFl (xs : Ts) : Nat → Int
  | 0 => 0
  | k + 1 => sumFl xs k + tf xs k
def vMean (xs : Ts) : Nat × Int := if someC xs = 0 then (divB (fN (sumFl xs xs.length).toNat) (fN xs.length), 0) else (0, someC xs)
theorem vMean_yes {xs : Ts} (h : someC xs = 0) : vMean xs = (divB (fN (sumFl xs xs.length).toNat) (fN xs.length), 0) := by unfold vMean; rw [if_pos h]
theorem vMean_no {xs : Ts} (h : someC xs ≠ 0) : vMean xs = (0, someC xs) := by unfold vMean; rw [if_neg h]
theorem sumFl_bd {xs : Ts} (h : okT xs = true) : ∀ k, k ≤ xs.length → 0 ≤ sumFl xs k ∧ sumFl xs k ≤ 1000 * (k : Int)
  | 0, _ => ⟨by show (0 : Int) ≤ 0; omega, by show (0 : Int) ≤ 1000 * ((0 : Nat) : Int); omega⟩
  | k + 1, hk => by
    have h1 := sumFl_bd h k (by omega)
    have h2 := (okT_at h (k := k) (by omega)).2.2.1
    show 0 ≤ sumFl xs k + tf xs k ∧ sumFl xs k + tf xs k ≤ _
    omega
theorem mean_div {xs : Ts} (h : someC xs = 0) : floatBits .quo .f32 (fN (sumFl xs xs.length).toNat) (fN xs.length) = some (divB (fN (sumFl xs xs.length).toNat) (fN xs.length)) ∧ divB (fN (sumFl xs xs.length).toNat) (fN xs.length) ≤ 2139095040 := by
  obtain ⟨hok, hne⟩ := someC_of h
  have h96 := okT_len hok
  have hs := sumFl_bd hok _ (Nat.le_refl _)
  have a := fN_le (n := (sumFl xs xs.length).toNat) (by omega)
  have b := fN_le (n := xs.length) (by omega)
  have c := fN_pos (n := xs.length) (by omega)
  exact div_some (by omega) (by omega) c
theorem vMean_fin (xs : Ts) : (vMean xs).1 ≤ 2139095040 := by
  by_cases h : someC xs = 0
  · rw [vMean_yes h]; exact (mean_div h).2
  · rw [vMean_no h]; exact Nat.zero_le _

set_option maxHeartbeats 1000000 in
theorem sMeanFull_any (G : Nat) (xs : Ts) (cap : Nat) (hW : TW xs) (hn : xs.length ≤ 1048576) (T : TypeId) (w : World) (h0 : At w G (tC xs) T) :
    Calls Try.prog 35 #[(.slice (some ⟨G, 0, none⟩) xs.length cap)] w fun e w' => e = .returned (.tuple #[.float .f32 (vMean xs).1, .int .i64 (vMean xs).2]) ∧ Below w.heap.size w w' := by
  have KV := l05Some_any G xs cap hW hn T w h0
  by_cases h : someC xs = 0
  · have MD := Lib.hid (mean_div h).1
    rw [vMean_yes h]
    rw [h] at KV
    obtain ⟨hok, hne⟩ := someC_of h
    have h96 := okT_len hok
    have HS := Lib.hid (sumFl_bd hok)
    have HW := Lib.hid hW
    have HX := Lib.hid h0
    obtain ⟨n, hnn⟩ : ∃ n, n = xs.length := ⟨_, rfl⟩
    rw [← hnn] at h96 KV MD ⊢
    have HN := Lib.hid hnn
    clear hnn h0 h hn hW hok hne
    go_enter Try.func35, Try.ntmps35
    go_wp2_with fail
    refine KV.mono ?_
    rintro e w1 ⟨rfl, hb1⟩
    have A1 := HX.out.step hb1
    have B1 := Lib.hid hb1
    clear hb1 KV
    go_wp2_with fail
    go_loopw [5, 6] (fun s i wr => ∃ (k : Nat) (m : Int), k ≤ n ∧ s = .int .i64 m ∧ i = .int .i64 (k : Int) ∧ Hid (m = sumFl xs k) ∧ -(32768 * (k : Int)) ≤ m ∧ m ≤ 32768 * (k : Int) ∧ At wr G (tC xs) T ∧ Hid (Below w.heap.size w wr)) (fun _ i _ => n - (intOf i).toNat)
    case atStart => exact ⟨0, 0, by omega, rfl, rfl, Lib.hid rfl, by omega, by omega, A1, B1⟩
    case round =>
      clear A1 B1
      obtain ⟨k, m, hk, rfl, rfl, hm, m1, m2, A1, B1⟩ := hrel
      by_cases hlt : k < n
      · have s2 : IntKind.i64.wrap ((k : Int) + 1) = (k : Int) + 1 := IntWalk.i64_in _ (by omega)
        have kd : (k : Int) < (n : Int) := by omega
        have hkl : k < xs.length := by rw [← HN.out]; exact hlt
        have hc := (HW.out.at hkl).2.2
        unfold I16 at hc
        have s4 : IntKind.i64.wrap (tf xs k) = tf xs k := IntWalk.i64_in _ (by omega)
        have s3 : IntKind.i64.wrap (m + tf xs k) = m + tf xs k := IntWalk.i64_in _ (by omega)
        have hm2 := Lib.hid (show m + tf xs k = sumFl xs (k + 1) from by rw [hm.out]; rfl)
        have c2 := A1.cell (tC_full hkl (k := k * 3 + 2) rfl)
        clear hkl
        go_wp2_with (fail)
        exact ⟨⟨k + 1, m + tf xs k, by omega, rfl, by go_num, hm2, by omega, by omega, A1, B1⟩, by simp [intOf]; omega⟩
      · obtain rfl : n = k := by omega
        have hp := (HS.out n (by rw [← HN.out]; exact Nat.le_refl _)).1
        rw [← hm.out] at hp
        obtain ⟨s, rfl⟩ : ∃ s : Nat, m = (s : Int) := ⟨m.toNat, by omega⟩
        have f1 := floatOfInt_nat s
        have f2 := floatOfInt_nat n
        have e1 : (sumFl xs n).toNat = s := by rw [← hm.out]; simp
        have MD' := MD.out
        rw [e1] at MD'
        have hq := fun t w => run_float_arith (P := Try.prog) w .quo t .f32 _ _ _ MD'
        clear MD' MD
        go_wp2_with (simp only [hq])
        go_ret2
        exact ⟨by rw [e1]; rfl, B1.out⟩
  · rw [vMean_no h]
    generalize someC xs = sc at KV h
    generalize xs.length = n at KV
    go_enter Try.func35, Try.ntmps35
    go_wp2_with fail
    refine KV.mono ?_
    rintro e w1 ⟨rfl, hb1⟩
    go_wp2_with fail
    go_ret2
    exact ⟨rfl, hb1⟩

set_option maxHeartbeats 1000000 in
theorem MeanFull_any (G : Nat) (xs : Ts) (cap : Nat) (hW : TW xs) (hn : xs.length ≤ 1048576) (T : TypeId) (w : World) (h0 : At w G (tC xs) T) :
    Calls Try.prog 36 #[(.slice (some ⟨G, 0, none⟩) xs.length cap)] w fun e w' => e = .returned (.tuple #[.float .f32 (vMean xs).1, .int .i64 (vMean xs).2]) ∧ Below w.heap.size w w' := by
  have KV := refusalOfSome_any G xs cap hW hn T w h0
  by_cases h : someC xs = 0
  · have MD := Lib.hid (mean_div h).1
    rw [vMean_yes h]
    rw [h] at KV
    obtain ⟨hok, hne⟩ := someC_of h
    have h96 := okT_len hok
    have HS := Lib.hid (sumFl_bd hok)
    have HW := Lib.hid hW
    have HX := Lib.hid h0
    obtain ⟨n, hnn⟩ : ∃ n, n = xs.length := ⟨_, rfl⟩
    rw [← hnn] at h96 KV MD ⊢
    have HN := Lib.hid hnn
    clear hnn h0 h hn hW hok hne
    go_enter Try.func36, Try.ntmps36
    go_wp2_with fail
    refine KV.mono ?_
    rintro e w1 ⟨rfl, hb1⟩
    have A1 := HX.out.step hb1
    have B1 := Lib.hid hb1
    clear hb1 KV
    go_wp2_with fail
    go_loopw [5, 15] (fun s i wr => ∃ (k : Nat) (m : Int), k ≤ n ∧ s = .int .i64 m ∧ i = .int .i64 (k : Int) ∧ Hid (m = sumFl xs k) ∧ -(32768 * (k : Int)) ≤ m ∧ m ≤ 32768 * (k : Int) ∧ At wr G (tC xs) T ∧ Hid (Below w.heap.size w wr)) (fun _ i _ => n - (intOf i).toNat)
    case atStart => exact ⟨0, 0, by omega, rfl, rfl, Lib.hid rfl, by omega, by omega, A1, B1⟩
    case round =>
      clear A1 B1
      obtain ⟨k, m, hk, rfl, rfl, hm, m1, m2, A1, B1⟩ := hrel
      by_cases hlt : k < n
      · have s2 : IntKind.i64.wrap ((k : Int) + 1) = (k : Int) + 1 := IntWalk.i64_in _ (by omega)
        have kd : (k : Int) < (n : Int) := by omega
        have hkl : k < xs.length := by rw [← HN.out]; exact hlt
        have hc := (HW.out.at hkl).2.2
        unfold I16 at hc
        have s4 : IntKind.i64.wrap (tf xs k) = tf xs k := IntWalk.i64_in _ (by omega)
        have s3 : IntKind.i64.wrap (m + tf xs k) = m + tf xs k := IntWalk.i64_in _ (by omega)
        have hm2 := Lib.hid (show m + tf xs k = sumFl xs (k + 1) from by rw [hm.out]; rfl)
        have hsl := tC_tally hkl (k := k * 3) rfl
        have SS := tC_size xs
        have hle : k * 3 + 3 ≤ (tC xs).size := by rw [SS]; omega
        have N0 := At.new wr #[.int .i64 0, .int .i16 0, .int .i16 0] 38
        have N1 := N0.setRow (t1 (tn xs k) (tc xs k) (tf xs k))
        have c2 := N1.cell (t1_2 _ _ _)
        have A2 := (A1.alloc (.cells #[.int .i64 0, .int .i16 0, .int .i16 0] 38)).setRow_other (k := wr.heap.size) (Nat.ne_of_lt A1.lt) (t1 (tn xs k) (tc xs k) (tf xs k))
        have B2 := Lib.hid (bset (bnew B1.out (.cells #[.int .i64 0, .int .i16 0, .int .i16 0] 38)) (g := wr.heap.size) B1.out.size (t1 (tn xs k) (tc xs k) (tf xs k)))
        clear B1 SS
        clear hkl
        go_wp2_with (first | ((with_reducible refine is_load 38 _ rfl ?_); refine wpList_load_part rfl 38 _ rfl _ (k * 3) rfl (tC xs) _ (by with_reducible assumption) 3 (hle) _ Try.underlying38 rfl (by kernel_rfl) ((t1 (tn xs k) (tc xs k) (tf xs k))) (hsl) ?_) | ((with_reducible refine is_store 38 _ _ rfl ?_); refine wpList_store_at rfl 38 _ _ rfl _ rfl ((t1 (tn xs k) (tc xs k) (tf xs k))) rfl (#[.int .i64 0, .int .i16 0, .int .i16 0]) _ (by with_reducible assumption) 3 (t1_size _ _ _) (rfl) (by kernel_rfl) (t1_one _ _ _) ?_))
        exact ⟨⟨k + 1, m + tf xs k, by omega, rfl, by go_num, hm2, by omega, by omega, A2, B2⟩, by simp [intOf]; omega⟩
      · obtain rfl : n = k := by omega
        have hp := (HS.out n (by rw [← HN.out]; exact Nat.le_refl _)).1
        rw [← hm.out] at hp
        obtain ⟨s, rfl⟩ : ∃ s : Nat, m = (s : Int) := ⟨m.toNat, by omega⟩
        have f1 := floatOfInt_nat s
        have f2 := floatOfInt_nat n
        have e1 : (sumFl xs n).toNat = s := by rw [← hm.out]; simp
        have MD' := MD.out
        rw [e1] at MD'
        have hq := fun t w => run_float_arith (P := Try.prog) w .quo t .f32 _ _ _ MD'
        clear MD' MD
        go_wp2_with (simp only [hq])
        go_ret2
        exact ⟨by rw [e1]; rfl, B1.out⟩
  · rw [vMean_no h]
    generalize someC xs = sc at KV h
    generalize xs.length = n at KV
    go_enter Try.func36, Try.ntmps36
    go_wp2_with fail
    refine KV.mono ?_
    rintro e w1 ⟨rfl, hb1⟩
    go_wp2_with fail
    go_ret2
    exact ⟨rfl, hb1⟩

end Go.Proofs.Yteoplkhhlligcaa
