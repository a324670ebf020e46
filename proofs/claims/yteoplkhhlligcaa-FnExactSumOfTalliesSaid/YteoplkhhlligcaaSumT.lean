/-
  CONTRACTS: sums of tallies.
-/
import Derived.Test.YteoplkhhlligcaaVTlI
namespace Go.Proofs.Yteoplkhhlligcaa
open Go Go.ChangeShapes Go.WideShapes Go.ChangeAt Go.RowKit
set_option maxRecDepth 100000

def sumT (xs : Ts) : Nat → Int
  | 0 => 0
  | k + 1 => sumT xs k + tc xs k
def vSum (xs : Ts) : Int × Int := if okT xs then (sumT xs xs.length, 0) else (0, 1)
theorem vSum_yes {xs : Ts} (h : okT xs = true) : vSum xs = (sumT xs xs.length, 0) := by unfold vSum; rw [if_pos h]
theorem vSum_no {xs : Ts} (h : okT xs = false) : vSum xs = (0, 1) := by unfold vSum; rw [h]; rfl

theorem sSumOfTallies_any (G : Nat) (xs : Ts) (cap : Nat) (hW : TW xs) (hn : xs.length ≤ 1048576) (T : TypeId) (w : World) (h0 : At w G (tC xs) T) :
    Calls Try.prog 33 #[(.slice (some ⟨G, 0, none⟩) xs.length cap)] w fun e w' => e = .returned (.tuple #[.int .i64 (vSum xs).1, .int .i64 (vSum xs).2]) ∧ Below w.heap.size w w' := by
  have KV := l05List_any G xs cap hW hn T w h0
  cases h : okT xs
  · rw [vSum_no h]
    rw [h] at KV
    generalize xs.length = n at KV
    go_enter Try.func33, Try.ntmps33
    go_wp2_with fail
    refine KV.mono ?_
    rintro e w1 ⟨rfl, hb1⟩
    go_wp2_with fail
    go_ret2
    exact ⟨rfl, hb1⟩
  · rw [vSum_yes h]
    rw [h] at KV
    have h96 := okT_len h
    have HW := Lib.hid hW
    have HX := Lib.hid h0
    obtain ⟨n, hnn⟩ : ∃ n, n = xs.length := ⟨_, rfl⟩
    rw [← hnn] at h96 KV ⊢
    have HN := Lib.hid hnn
    clear hnn h0 h hn hW
    go_enter Try.func33, Try.ntmps33
    go_wp2_with fail
    refine KV.mono ?_
    rintro e w1 ⟨rfl, hb1⟩
    have A1 := HX.out.step hb1
    have B1 := Lib.hid hb1
    clear hb1 KV
    go_wp2_with fail
    go_loopw [4, 5] (fun s i wr => ∃ (k : Nat) (m : Int), k ≤ n ∧ s = .int .i64 m ∧ i = .int .i64 (k : Int) ∧ Hid (m = sumT xs k) ∧ -(32768 * (k : Int)) ≤ m ∧ m ≤ 32768 * (k : Int) ∧ At wr G (tC xs) T ∧ Hid (Below w.heap.size w wr)) (fun _ i _ => n - (intOf i).toNat)
    case atStart => exact ⟨0, 0, by omega, rfl, rfl, Lib.hid rfl, by omega, by omega, A1, B1⟩
    case round =>
      clear A1 B1
      obtain ⟨k, m, hk, rfl, rfl, hm, m1, m2, A1, B1⟩ := hrel
      by_cases hlt : k < n
      · have s2 : IntKind.i64.wrap ((k : Int) + 1) = (k : Int) + 1 := IntWalk.i64_in _ (by omega)
        have kd : (k : Int) < (n : Int) := by omega
        have hkl : k < xs.length := by rw [← HN.out]; exact hlt
        have hc := (HW.out.at hkl).2.1
        unfold I16 at hc
        have s4 : IntKind.i64.wrap (tc xs k) = tc xs k := IntWalk.i64_in _ (by omega)
        have s3 : IntKind.i64.wrap (m + tc xs k) = m + tc xs k := IntWalk.i64_in _ (by omega)
        have hm2 := Lib.hid (show m + tc xs k = sumT xs (k + 1) from by rw [hm.out]; rfl)
        have c1 := A1.cell (tC_count hkl (k := k * 3 + 1) rfl)
        clear hkl
        go_wp2_with (fail)
        exact ⟨⟨k + 1, m + tc xs k, by omega, rfl, by go_num, hm2, by omega, by omega, A1, B1⟩, by simp [intOf]; omega⟩
      · obtain rfl : n = k := by omega
        go_wp2_with fail
        go_ret2
        exact ⟨by rw [hm.out]; rfl, B1.out⟩

theorem SumOfTallies_any (G : Nat) (xs : Ts) (cap : Nat) (hW : TW xs) (hn : xs.length ≤ 1048576) (T : TypeId) (w : World) (h0 : At w G (tC xs) T) :
    Calls Try.prog 34 #[(.slice (some ⟨G, 0, none⟩) xs.length cap)] w fun e w' => e = .returned (.tuple #[.int .i64 (vSum xs).1, .int .i64 (vSum xs).2]) ∧ Below w.heap.size w w' := by
  have KV := ValidTallies_any G xs cap hW hn T w h0
  cases h : okT xs
  · rw [vSum_no h]
    rw [h] at KV
    generalize xs.length = n at KV
    go_enter Try.func34, Try.ntmps34
    go_wp2_with fail
    refine KV.mono ?_
    rintro e w1 ⟨rfl, hb1⟩
    go_wp2_with fail
    go_ret2
    exact ⟨rfl, hb1⟩
  · rw [vSum_yes h]
    rw [h] at KV
    have h96 := okT_len h
    have HW := Lib.hid hW
    have HX := Lib.hid h0
    obtain ⟨n, hnn⟩ : ∃ n, n = xs.length := ⟨_, rfl⟩
    rw [← hnn] at h96 KV ⊢
    have HN := Lib.hid hnn
    clear hnn h0 h hn hW
    go_enter Try.func34, Try.ntmps34
    go_wp2_with fail
    refine KV.mono ?_
    rintro e w1 ⟨rfl, hb1⟩
    have A1 := HX.out.step hb1
    have B1 := Lib.hid hb1
    clear hb1 KV
    go_wp2_with fail
    go_loopw [4, 12] (fun s i wr => ∃ (k : Nat) (m : Int), k ≤ n ∧ s = .int .i64 m ∧ i = .int .i64 (k : Int) ∧ Hid (m = sumT xs k) ∧ -(32768 * (k : Int)) ≤ m ∧ m ≤ 32768 * (k : Int) ∧ At wr G (tC xs) T ∧ Hid (Below w.heap.size w wr)) (fun _ i _ => n - (intOf i).toNat)
    case atStart => exact ⟨0, 0, by omega, rfl, rfl, Lib.hid rfl, by omega, by omega, A1, B1⟩
    case round =>
      clear A1 B1
      obtain ⟨k, m, hk, rfl, rfl, hm, m1, m2, A1, B1⟩ := hrel
      by_cases hlt : k < n
      · have s2 : IntKind.i64.wrap ((k : Int) + 1) = (k : Int) + 1 := IntWalk.i64_in _ (by omega)
        have kd : (k : Int) < (n : Int) := by omega
        have hkl : k < xs.length := by rw [← HN.out]; exact hlt
        have hc := (HW.out.at hkl).2.1
        unfold I16 at hc
        have s4 : IntKind.i64.wrap (tc xs k) = tc xs k := IntWalk.i64_in _ (by omega)
        have s3 : IntKind.i64.wrap (m + tc xs k) = m + tc xs k := IntWalk.i64_in _ (by omega)
        have hm2 := Lib.hid (show m + tc xs k = sumT xs (k + 1) from by rw [hm.out]; rfl)
        have hsl := tC_tally hkl (k := k * 3) rfl
        have SS := tC_size xs
        have hle : k * 3 + 3 ≤ (tC xs).size := by rw [SS]; omega
        have N0 := At.new wr #[.int .i64 0, .int .i16 0, .int .i16 0] 38
        have N1 := N0.setRow (t1 (tn xs k) (tc xs k) (tf xs k))
        have c1 := N1.cell (t1_1 _ _ _)
        have A2 := (A1.alloc (.cells #[.int .i64 0, .int .i16 0, .int .i16 0] 38)).setRow_other (k := wr.heap.size) (Nat.ne_of_lt A1.lt) (t1 (tn xs k) (tc xs k) (tf xs k))
        have B2 := Lib.hid (bset (bnew B1.out (.cells #[.int .i64 0, .int .i16 0, .int .i16 0] 38)) (g := wr.heap.size) B1.out.size (t1 (tn xs k) (tc xs k) (tf xs k)))
        clear B1 SS
        clear hkl
        go_wp2_with (first | ((with_reducible refine is_load 38 _ rfl ?_); refine wpList_load_part rfl 38 _ rfl _ (k * 3) rfl (tC xs) _ (by with_reducible assumption) 3 (hle) _ Try.underlying38 rfl (by kernel_rfl) ((t1 (tn xs k) (tc xs k) (tf xs k))) (hsl) ?_) | ((with_reducible refine is_store 38 _ _ rfl ?_); refine wpList_store_at rfl 38 _ _ rfl _ rfl ((t1 (tn xs k) (tc xs k) (tf xs k))) rfl (#[.int .i64 0, .int .i16 0, .int .i16 0]) _ (by with_reducible assumption) 3 (t1_size _ _ _) (rfl) (by kernel_rfl) (t1_one _ _ _) ?_))
        exact ⟨⟨k + 1, m + tc xs k, by omega, rfl, by go_num, hm2, by omega, by omega, A2, B2⟩, by simp [intOf]; omega⟩
      · obtain rfl : n = k := by omega
        go_wp2_with fail
        go_ret2
        exact ⟨by rw [hm.out]; rfl, B1.out⟩

end Go.Proofs.Yteoplkhhlligcaa
