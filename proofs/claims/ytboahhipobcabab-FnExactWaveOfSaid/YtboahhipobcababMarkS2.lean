/-
  CONTRACTS: slots marked from any number on.
-/
import Derived.Test.YtboahhipobcababG7
namespace Go.Proofs.Ytboahhipobcabab
open Go Go.ChangeShapes Go.WideShapes Go.ChangeAt Go.RowKit
set_option maxRecDepth 100000
/-- the mark of cell p -/
def mkS2 (s p : Nat) : Value := if p % 9 = 8 then .int .i64 ((s + p : Nat) : Int) else .bool (decide ((s + p) % 3 = 0))
theorem mkS_82 {s p : Nat} (h : p % 9 = 8) {m : Int} (hm : m = ((s + p : Nat) : Int)) : mkS2 s p = .int .i64 m := by subst hm; unfold mkS2; rw [if_pos h]
theorem mkS_b2 {s p : Nat} (h : p % 9 ≠ 8) {m : Int} (hm : m = ((s + p : Nat) : Int)) : mkS2 s p = .bool (m.tmod 3 == 0) := by
  subst hm
  unfold mkS2
  rw [if_neg h]
  congr 1
  have e : (((s + p : Nat) : Int)).tmod 3 = (((s + p) % 3 : Nat) : Int) := rfl
  rw [e]
  by_cases c : (s + p) % 3 = 0
  · rw [decide_eq_true c, c]; rfl
  · rw [decide_eq_false c]
    symm
    rw [beq_eq_false_iff_ne]
    omega
/-- the first p cells marked -/
def msR2 (s : Nat) (c : Array Value) : Nat → Array Value
  | 0 => c
  | p + 1 => (msR2 s c p).setIfInBounds p (mkS2 s p)
theorem msR2_size (s : Nat) (c : Array Value) : ∀ p, (msR2 s c p).size = c.size
  | 0 => rfl
  | p + 1 => by rw [msR2, Array.size_setIfInBounds]; exact msR2_size s c p
theorem msR2_get (s : Nat) (c : Array Value) : ∀ k p, p < k → p < c.size → (msR2 s c k)[p]? = some (mkS2 s p)
  | 0, p, h, _ => by omega
  | k + 1, p, h, hs => by
    rw [msR2, Array.getElem?_setIfInBounds]
    by_cases e : k = p
    · subst e; rw [if_pos rfl, if_pos (by rw [msR2_size]; exact hs)]
    · rw [if_neg e]; exact msR2_get s c k p (by omega) hs
set_option maxHeartbeats 1000000 in
theorem markSl2_any (s : Nat) (hs1 : s ≤ 1000000000000) (g n cap : Nat) (cur : Array Value) (T : TypeId) (hn : n ≤ 1048576) (hs : n * 9 ≤ cur.size) (w : World) (h0 : At w g cur T) :
    Calls Try.prog 62 #[.slice (some ⟨g, 0, none⟩) n cap, .int .i64 (s : Int)] w fun e w' => e = .returned (.int .i64 ((n : Int) * 9 + s)) ∧ w' = w.setRow g (msR2 s cur (n * 9)) := by
  have HA := Lib.hid (fun c => h0.setRow c)
  have H0 := Lib.hid (show w.setRow g (msR2 s cur 0) = w from setRow_same h0)
  go_enter Try.func62, Try.ntmps62
  go_wp2
  go_loopw [1, 5] (fun sv i wr => ∃ k : Nat, ∃ m : Int, k ≤ n ∧ i = .int .i64 (k : Int) ∧ sv = .int .i64 m ∧ Hid (m = (k : Int) * 9 + s) ∧ Hid (wr = w.setRow g (msR2 s cur (k * 9)))) (fun _ i _ => n - (intOf i).toNat)
  case atStart => exact ⟨0, s, by omega, rfl, rfl, Lib.hid (by omega), Lib.hid H0.out.symm⟩
  case round =>
    clear h0 H0
    obtain ⟨k, m, hk, rfl, rfl, hm, hw⟩ := hrel
    by_cases hlt : k < n
    · have s2 : IntKind.i64.wrap ((k : Int) + 1) = (k : Int) + 1 := IntWalk.i64_in _ (by omega)
      have kd : (k : Int) < (n : Int) := by omega
      have M0 := hm
      have W0 := hw
      go_wp2
      go_loopw [1, 6] (fun sv j wr => ∃ q : Nat, ∃ m : Int, q ≤ 8 ∧ j = .int .i64 (q : Int) ∧ sv = .int .i64 m ∧ Hid (m = (k : Int) * 9 + (q : Int) + s) ∧ Hid (wr = w.setRow g (msR2 s cur (k * 9 + q)))) (fun _ j _ => 8 - (intOf j).toNat)
      case atStart => exact ⟨0, m, by omega, rfl, rfl, Lib.hid (by have := M0.out; omega), W0⟩
      case round =>
        clear M0 W0 hm hw
        obtain ⟨q, m, hq, rfl, rfl, hm, hw⟩ := hrel
        have hmo := hm.out
        have s3 : IntKind.i64.wrap (m + 1) = m + 1 := IntWalk.i64_in _ (by omega)
        have Z : ∀ p, (msR2 s cur p).size = cur.size := msR2_size s cur
        have A1 : At wr g (msR2 s cur (k * 9 + q)) T := by rw [hw.out]; exact HA.out _
        by_cases hql : q < 8
        · have s4 : IntKind.i64.wrap ((q : Int) + 1) = (q : Int) + 1 := IntWalk.i64_in _ (by omega)
          have qd : (q : Int) < 8 := by omega
          have e1 : Hid ((msR2 s cur (k * 9 + q)).setIfInBounds (k * 9 + q) (.bool (m.tmod 3 == 0)) = msR2 s cur (k * 9 + q + 1)) := Lib.hid (by rw [← mkS_b2 (s := s) (p := k * 9 + q) (by omega) (by omega)]; rfl)
          have hw2 := Lib.hid (show (w.setRow g (msR2 s cur (k * 9 + q))).setRow g (msR2 s cur (k * 9 + q + 1)) = w.setRow g (msR2 s cur (k * 9 + (q + 1))) from setRow_setRow _ _ _ _)
          have hm2 := Lib.hid (show m + 1 = (k : Int) * 9 + ((q + 1 : Nat) : Int) + s from by omega)
          clear hmo hm
          go_wp2_with (((with_reducible refine is_store 4 _ _ rfl ?_); refine wpList_store_cell rfl 4 _ _ rfl _ (k * 9 + q) rfl (.bool (m.tmod 3 == 0)) rfl (msR2 s cur (k * 9 + q)) _ (by with_reducible assumption) (by rw [Z]; omega) (by kernel_rfl) rfl (msR2 s cur (k * 9 + q + 1)) e1.out ?_))
          exact ⟨⟨q + 1, m + 1, by omega, by go_num, rfl, hm2, Lib.hid (by rw [hw.out]; exact hw2.out)⟩, by simp [intOf]; omega⟩
        · obtain rfl : q = 8 := by omega
          have e1 : Hid ((msR2 s cur (k * 9 + 8)).setIfInBounds (k * 9 + 8) (.int .i64 m) = msR2 s cur (k * 9 + 9)) := Lib.hid (by rw [← mkS_82 (s := s) (p := k * 9 + 8) (by omega) (by omega)]; rfl)
          have hw2 := Lib.hid (show (w.setRow g (msR2 s cur (k * 9 + 8))).setRow g (msR2 s cur (k * 9 + 9)) = w.setRow g (msR2 s cur ((k + 1) * 9)) from by rw [setRow_setRow, show (k + 1) * 9 = k * 9 + 9 from by omega])
          have hm2 := Lib.hid (show m + 1 = ((k + 1 : Nat) : Int) * 9 + s from by omega)
          clear hmo hm
          go_wp2_with (((with_reducible refine is_store 2 _ _ rfl ?_); refine wpList_store_cell rfl 2 _ _ rfl _ (k * 9 + 8) rfl (.int .i64 m) rfl (msR2 s cur (k * 9 + 8)) _ (by with_reducible assumption) (by rw [Z]; omega) (by kernel_rfl) rfl (msR2 s cur (k * 9 + 9)) e1.out ?_))
          exact ⟨⟨k + 1, m + 1, by omega, by go_num, rfl, hm2, Lib.hid (by rw [hw.out]; exact hw2.out)⟩, by simp [intOf]; omega⟩
    · obtain rfl : n = k := by omega
      go_wp2
      go_ret
      exact ⟨by rw [hm.out]; rfl, hw.out⟩

set_option maxHeartbeats 1000000 in
theorem heldSl2_any (s : Nat) (hs1 : s ≤ 1000000000000) (g n cap : Nat) (hn : n ≤ 1048576) (w : World) (hc : ∀ p, p < n * 9 → w.cell? ⟨g, p, none⟩ = some (mkS2 s p)) :
    Calls Try.prog 63 #[.slice (some ⟨g, 0, none⟩) n cap, .int .i64 (s : Int)] w fun e w' => e = .returned (.int .i64 ((n : Int) * 9 + s)) ∧ w' = w := by
  have HC := Lib.hid hc
  clear hc
  go_enter Try.func63, Try.ntmps63
  go_wp2
  go_loopw [1, 5] (fun sv i wr => ∃ k : Nat, ∃ m : Int, k ≤ n ∧ i = .int .i64 (k : Int) ∧ sv = .int .i64 m ∧ Hid (m = (k : Int) * 9 + s) ∧ wr = w) (fun _ i _ => n - (intOf i).toNat)
  case atStart => exact ⟨0, s, by omega, rfl, rfl, Lib.hid (by omega), rfl⟩
  case round =>
    obtain ⟨k, m, hk, rfl, rfl, hm, rfl⟩ := hrel
    by_cases hlt : k < n
    · have s2 : IntKind.i64.wrap ((k : Int) + 1) = (k : Int) + 1 := IntWalk.i64_in _ (by omega)
      have kd : (k : Int) < (n : Int) := by omega
      have M0 := hm
      go_wp2
      go_loopw [1, 6] (fun sv j wq => ∃ q : Nat, ∃ m : Int, q ≤ 8 ∧ j = .int .i64 (q : Int) ∧ sv = .int .i64 m ∧ Hid (m = (k : Int) * 9 + (q : Int) + s) ∧ wq = wr) (fun _ j _ => 8 - (intOf j).toNat)
      case atStart => exact ⟨0, m, by omega, rfl, rfl, Lib.hid (by have := M0.out; omega), rfl⟩
      case round =>
        clear M0 hm
        obtain ⟨q, m, hq, rfl, rfl, hm, rfl⟩ := hrel
        have hmo := hm.out
        have s3 : IntKind.i64.wrap (m + 1) = m + 1 := IntWalk.i64_in _ (by omega)
        by_cases hql : q < 8
        · have s4 : IntKind.i64.wrap ((q : Int) + 1) = (q : Int) + 1 := IntWalk.i64_in _ (by omega)
          have qd : (q : Int) < 8 := by omega
          have c0 := HC.out (k * 9 + q) (by omega)
          rw [mkS_b2 (s := s) (m := m) (by omega) (by omega)] at c0
          have hm2 := Lib.hid (show m + 1 = (k : Int) * 9 + ((q + 1 : Nat) : Int) + s from by omega)
          clear hmo hm
          go_wp2
          exact ⟨⟨q + 1, m + 1, by omega, by go_num, rfl, hm2, by trivial⟩, by simp [intOf]; omega⟩
        · obtain rfl : q = 8 := by omega
          have c0 := HC.out (k * 9 + 8) (by omega)
          rw [mkS_82 (s := s) (m := m) (by omega) (by omega)] at c0
          have hm2 := Lib.hid (show m + 1 = ((k + 1 : Nat) : Int) * 9 + s from by omega)
          clear hmo hm
          go_wp2
          exact ⟨⟨k + 1, m + 1, by omega, by go_num, rfl, hm2, by trivial⟩, by simp [intOf]; omega⟩
    · obtain rfl : n = k := by omega
      go_wp2
      go_ret
      exact ⟨by rw [hm.out]; rfl, by trivial⟩

end Go.Proofs.Ytboahhipobcabab
