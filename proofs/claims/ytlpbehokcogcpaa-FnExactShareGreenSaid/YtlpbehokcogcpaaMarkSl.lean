/-
  CONTRACTS: slices of slots, marked.
-/
import Derived.Test.YtlpbehokcogcpaaOwnSl
namespace Go.Proofs.Ytlpbehokcogcpaa
open Go Go.ChangeShapes Go.WideShapes Go.ChangeAt Go.RowKit
set_option maxRecDepth 100000

/-- the mark of cell p -/
def mkS (p : Nat) : Value := if p % 9 = 8 then .int .i64 ((p + 1 : Nat) : Int) else .bool (decide ((p + 1) % 3 = 0))

theorem mkS_8 {p : Nat} (h : p % 9 = 8) {m : Int} (hm : m = ((p + 1 : Nat) : Int)) : mkS p = .int .i64 m := by subst hm; unfold mkS; rw [if_pos h]

theorem mkS_b {p : Nat} (h : p % 9 ≠ 8) {m : Int} (hm : m = ((p + 1 : Nat) : Int)) : mkS p = .bool (m.tmod 3 == 0) := by
  subst hm
  unfold mkS
  rw [if_neg h]
  congr 1
  have e : (((p + 1 : Nat) : Int)).tmod 3 = (((p + 1) % 3 : Nat) : Int) := rfl
  rw [e]
  by_cases c : (p + 1) % 3 = 0
  · rw [decide_eq_true c, c]; rfl
  · rw [decide_eq_false c]
    symm
    rw [beq_eq_false_iff_ne]
    omega

/-- the first p cells marked -/
def msR (c : Array Value) : Nat → Array Value
  | 0 => c
  | p + 1 => (msR c p).setIfInBounds p (mkS p)

theorem msR_size (c : Array Value) : ∀ p, (msR c p).size = c.size
  | 0 => rfl
  | p + 1 => by rw [msR, Array.size_setIfInBounds]; exact msR_size c p

theorem msR_get (c : Array Value) : ∀ k p, p < k → p < c.size → (msR c k)[p]? = some (mkS p)
  | 0, p, h, _ => by omega
  | k + 1, p, h, hs => by
    rw [msR, Array.getElem?_setIfInBounds]
    by_cases e : k = p
    · subst e; rw [if_pos rfl, if_pos (by rw [msR_size]; exact hs)]
    · rw [if_neg e]; exact msR_get c k p (by omega) hs

theorem setRow_same {w : World} {g : Nat} {c : Array Value} {T : TypeId} (h0 : At w g c T) : w.setRow g c = w := by
  unfold World.setRow
  congr 1
  apply Array.ext_getElem?
  intro i
  rw [Array.getElem?_modify]
  by_cases e : g = i
  · subst e
    rw [if_pos rfl]
    unfold At at h0
    rw [h0]; rfl
  · rw [if_neg e]

set_option maxHeartbeats 1000000 in
theorem markSl_any (g n cap : Nat) (cur : Array Value) (T : TypeId) (hn : n ≤ 1048576) (hs : n * 9 ≤ cur.size) (w : World) (h0 : At w g cur T) :
    Calls Try.prog 31 #[.slice (some ⟨g, 0, none⟩) n cap, .int .i64 1] w fun e w' => e = .returned (.int .i64 ((n : Int) * 9 + 1)) ∧ w' = w.setRow g (msR cur (n * 9)) := by
  have HA := Lib.hid (fun c => h0.setRow c)
  have H0 := Lib.hid (show w.setRow g (msR cur 0) = w from setRow_same h0)
  go_enter Try.func31, Try.ntmps31
  go_wp2
  go_loopw [1, 5] (fun s i wr => ∃ k : Nat, ∃ m : Int, k ≤ n ∧ i = .int .i64 (k : Int) ∧ s = .int .i64 m ∧ Hid (m = (k : Int) * 9 + 1) ∧ Hid (wr = w.setRow g (msR cur (k * 9)))) (fun _ i _ => n - (intOf i).toNat)
  case atStart => exact ⟨0, 1, by omega, rfl, rfl, Lib.hid rfl, Lib.hid H0.out.symm⟩
  case round =>
    clear h0 H0
    obtain ⟨k, m, hk, rfl, rfl, hm, hw⟩ := hrel
    by_cases hlt : k < n
    · have s2 : IntKind.i64.wrap ((k : Int) + 1) = (k : Int) + 1 := IntWalk.i64_in _ (by omega)
      have kd : (k : Int) < (n : Int) := by omega
      have M0 := hm
      have W0 := hw
      go_wp2
      go_loopw [1, 6] (fun s j wr => ∃ q : Nat, ∃ m : Int, q ≤ 8 ∧ j = .int .i64 (q : Int) ∧ s = .int .i64 m ∧ Hid (m = (k : Int) * 9 + (q : Int) + 1) ∧ Hid (wr = w.setRow g (msR cur (k * 9 + q)))) (fun _ j _ => 8 - (intOf j).toNat)
      case atStart => exact ⟨0, m, by omega, rfl, rfl, Lib.hid (by have := M0.out; omega), W0⟩
      case round =>
        clear M0 W0 hm hw
        obtain ⟨q, m, hq, rfl, rfl, hm, hw⟩ := hrel
        have hmo := hm.out
        have s3 : IntKind.i64.wrap (m + 1) = m + 1 := IntWalk.i64_in _ (by omega)
        have Z : ∀ p, (msR cur p).size = cur.size := msR_size cur
        have A1 : At wr g (msR cur (k * 9 + q)) T := by rw [hw.out]; exact HA.out _
        by_cases hql : q < 8
        · have s4 : IntKind.i64.wrap ((q : Int) + 1) = (q : Int) + 1 := IntWalk.i64_in _ (by omega)
          have qd : (q : Int) < 8 := by omega
          have e1 : Hid ((msR cur (k * 9 + q)).setIfInBounds (k * 9 + q) (.bool (m.tmod 3 == 0)) = msR cur (k * 9 + q + 1)) := Lib.hid (by rw [← mkS_b (p := k * 9 + q) (by omega) (by omega)]; rfl)
          have hw2 := Lib.hid (show (w.setRow g (msR cur (k * 9 + q))).setRow g (msR cur (k * 9 + q + 1)) = w.setRow g (msR cur (k * 9 + (q + 1))) from setRow_setRow _ _ _ _)
          have hm2 := Lib.hid (show m + 1 = (k : Int) * 9 + ((q + 1 : Nat) : Int) + 1 from by omega)
          clear hmo hm
          go_wp2_with (((with_reducible refine is_store 4 _ _ rfl ?_); refine wpList_store_cell rfl 4 _ _ rfl _ (k * 9 + q) rfl (.bool (m.tmod 3 == 0)) rfl (msR cur (k * 9 + q)) _ (by with_reducible assumption) (by rw [Z]; omega) (by kernel_rfl) rfl (msR cur (k * 9 + q + 1)) e1.out ?_))
          exact ⟨⟨q + 1, m + 1, by omega, by go_num, rfl, hm2, Lib.hid (by rw [hw.out]; exact hw2.out)⟩, by simp [intOf]; omega⟩
        · obtain rfl : q = 8 := by omega
          have e1 : Hid ((msR cur (k * 9 + 8)).setIfInBounds (k * 9 + 8) (.int .i64 m) = msR cur (k * 9 + 9)) := Lib.hid (by rw [← mkS_8 (p := k * 9 + 8) (by omega) (by omega)]; rfl)
          have hw2 := Lib.hid (show (w.setRow g (msR cur (k * 9 + 8))).setRow g (msR cur (k * 9 + 9)) = w.setRow g (msR cur ((k + 1) * 9)) from by rw [setRow_setRow, show (k + 1) * 9 = k * 9 + 9 from by omega])
          have hm2 := Lib.hid (show m + 1 = ((k + 1 : Nat) : Int) * 9 + 1 from by omega)
          clear hmo hm
          go_wp2_with (((with_reducible refine is_store 2 _ _ rfl ?_); refine wpList_store_cell rfl 2 _ _ rfl _ (k * 9 + 8) rfl (.int .i64 m) rfl (msR cur (k * 9 + 8)) _ (by with_reducible assumption) (by rw [Z]; omega) (by kernel_rfl) rfl (msR cur (k * 9 + 9)) e1.out ?_))
          exact ⟨⟨k + 1, m + 1, by omega, by go_num, rfl, hm2, Lib.hid (by rw [hw.out]; exact hw2.out)⟩, by simp [intOf]; omega⟩
    · obtain rfl : n = k := by omega
      go_wp2
      go_ret
      exact ⟨by rw [hm.out]; rfl, hw.out⟩

theorem markSl_none (a : Option Addr) (cap : Nat) (w : World) :
    Calls Try.prog 31 #[.slice a 0 cap, .int .i64 1] w fun e w' => e = .returned (.int .i64 1) ∧ w' = w := by
  go_enter Try.func31, Try.ntmps31
  go_wp2
  go_loopw [1, 5] (fun s i wr => s = .int .i64 1 ∧ i = .int .i64 0 ∧ wr = w) (fun _ _ _ => 0)
  case atStart => exact ⟨rfl, rfl, rfl⟩
  case round =>
    obtain ⟨rfl, rfl, rfl⟩ := hrel
    go_wp2
    go_ret
    exact ⟨rfl, rfl⟩

end Go.Proofs.Ytlpbehokcogcpaa
