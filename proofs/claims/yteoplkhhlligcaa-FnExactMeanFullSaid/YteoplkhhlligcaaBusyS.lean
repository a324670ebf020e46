/-
  CONTRACTS: the turn with the greatest count, as the model has it.
-/
import Derived.Test.YteoplkhhlligcaaSomeT
import Derived.Test.YteoplkhhlligcaaCmpI
namespace Go.Proofs.Yteoplkhhlligcaa
open Go Go.ChangeShapes Go.WideShapes Go.ChangeAt Go.RowKit
set_option maxRecDepth 100000

/-- the first of the greatest counts among the first k -/
def mx (xs : Ts) : Nat → Nat
  | 0 => 0
  | k + 1 => if tc xs (mx xs k) < tc xs k then k else mx xs k
theorem mx_yes {xs : Ts} {k : Nat} (h : tc xs (mx xs k) < tc xs k) : mx xs (k + 1) = k := by show (if _ then _ else _) = _; rw [if_pos h]
theorem mx_no {xs : Ts} {k : Nat} (h : ¬ tc xs (mx xs k) < tc xs k) : mx xs (k + 1) = mx xs k := by show (if _ then _ else _) = _; rw [if_neg h]
theorem mx_one (xs : Ts) : mx xs 1 = 0 := by rw [mx_no (k := 0) (by show ¬ tc xs 0 < tc xs 0; omega)]; rfl
theorem mx_lt (xs : Ts) : ∀ k, 0 < k → mx xs k < k
  | 0, h => by omega
  | k + 1, _ => by
    by_cases c : tc xs (mx xs k) < tc xs k
    · rw [mx_yes c]; omega
    · rw [mx_no c]
      by_cases z : k = 0
      · subst z; exact Nat.zero_lt_one
      · have := mx_lt xs k (by omega); omega
def vBusy (xs : Ts) : Int × Int := if someC xs = 0 then (tn xs (mx xs xs.length), 0) else (0, someC xs)
theorem vBusy_yes {xs : Ts} (h : someC xs = 0) : vBusy xs = (tn xs (mx xs xs.length), 0) := by unfold vBusy; rw [if_pos h]
theorem vBusy_no {xs : Ts} (h : someC xs ≠ 0) : vBusy xs = (0, someC xs) := by unfold vBusy; rw [if_neg h]
theorem someC_of {xs : Ts} (h : someC xs = 0) : okT xs = true ∧ xs.length ≠ 0 := by
  unfold someC at h
  by_cases c : okT xs = true
  · rw [if_pos c] at h
    by_cases z : xs.length = 0
    · rw [if_pos z] at h; cases h
    · exact ⟨c, z⟩
  · rw [if_neg c] at h; cases h

set_option maxHeartbeats 400000 in
theorem sBusiestTurn_any (G : Nat) (xs : Ts) (cap : Nat) (hW : TW xs) (hn : xs.length ≤ 1048576) (T : TypeId) (w : World) (h0 : At w G (tC xs) T) :
    Calls Try.prog 38 #[(.slice (some ⟨G, 0, none⟩) xs.length cap)] w fun e w' => e = .returned (.tuple #[.int .i64 (vBusy xs).1, .int .i64 (vBusy xs).2]) ∧ Below w.heap.size w w' := by
  have KV := l05Some_any G xs cap hW hn T w h0
  by_cases h : someC xs = 0
  · rw [vBusy_yes h]
    rw [h] at KV
    obtain ⟨hok, hne⟩ := someC_of h
    have h96 := okT_len hok
    have HX := Lib.hid h0
    obtain ⟨n, hnn⟩ : ∃ n, n = xs.length := ⟨_, rfl⟩
    rw [← hnn] at h96 KV hne ⊢
    have HN := Lib.hid hnn
    have hn0 : 0 < n := by omega
    clear hnn h0 h hn hok
    go_enter Try.func38, Try.ntmps38
    go_wp2_with fail
    refine KV.mono ?_
    rintro e w1 ⟨rfl, hb1⟩
    have A1 := HX.out.step hb1
    have B1 := Lib.hid hb1
    clear hb1 KV
    go_wp2_with fail
    go_loopw [5, 6] (fun b i wr => ∃ k j : Nat, 1 ≤ k ∧ k ≤ n ∧ j < k ∧ b = .int .i64 (j : Int) ∧ i = .int .i64 (k : Int) ∧ Hid (j = mx xs k) ∧ At wr G (tC xs) T ∧ Hid (Below w.heap.size w wr)) (fun _ i _ => n - (intOf i).toNat)
    case atStart => exact ⟨1, 0, by omega, by omega, by omega, rfl, rfl, Lib.hid (mx_one xs).symm, A1, B1⟩
    case round =>
      clear A1 B1
      obtain ⟨k, j, hk1, hk, hj, rfl, rfl, hm, A1, B1⟩ := hrel
      by_cases hlt : k < n
      · have s2 : IntKind.i64.wrap ((k : Int) + 1) = (k : Int) + 1 := IntWalk.i64_in _ (by omega)
        have kd : (k : Int) < (n : Int) := by omega
        have jd : (j : Int) < (n : Int) := by omega
        have hkl : k < xs.length := by rw [← HN.out]; exact hlt
        have hjl : j < xs.length := by rw [← HN.out]; omega
        have c1 := A1.cell (tC_count hkl (k := k * 3 + 1) rfl)
        have d1 := A1.cell (tC_count hjl (k := j * 3 + 1) rfl)
        have H1 := Lib.hid A1
        clear A1 hkl hjl
        by_cases p : tc xs j < tc xs k
        · have hm2 := Lib.hid (mx_yes (k := k) (by rw [← hm.out]; exact p)).symm
          go_wp2
          go_quiet (fail)
          go_wp2
          exact ⟨⟨k + 1, k, by omega, by omega, by omega, rfl, by go_num, hm2, H1.out.drewN _, Lib.hid (bdrew B1.out _)⟩, by simp [intOf]; omega⟩
        · have hm2 := Lib.hid (hm.out.trans (mx_no (k := k) (by rw [← hm.out]; exact p)).symm)
          go_wp2
          go_quiet (fail)
          go_wp2
          exact ⟨⟨k + 1, j, by omega, by omega, by omega, rfl, by go_num, hm2, H1.out.drewN _, Lib.hid (bdrew B1.out _)⟩, by simp [intOf]; omega⟩
      · obtain rfl : n = k := by omega
        have jd : (j : Int) < (n : Int) := by omega
        have hjl : j < xs.length := by rw [← HN.out]; omega
        have c1 := A1.cell (tC_turn hjl (k := j * 3) rfl)
        clear A1 hjl
        go_wp2_with fail
        go_ret2
        exact ⟨by rw [← hm.out]; rfl, B1.out⟩
  · rw [vBusy_no h]
    generalize someC xs = sc at KV h
    generalize xs.length = n at KV
    go_enter Try.func38, Try.ntmps38
    go_wp2_with fail
    refine KV.mono ?_
    rintro e w1 ⟨rfl, hb1⟩
    go_wp2_with fail
    go_ret2
    exact ⟨rfl, hb1⟩

end Go.Proofs.Yteoplkhhlligcaa
