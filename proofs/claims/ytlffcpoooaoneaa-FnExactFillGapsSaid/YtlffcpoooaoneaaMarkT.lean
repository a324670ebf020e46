/-
  CONTRACTS: slices of tallies, marked and held.
-/
import Derived.Test.YtlffcpoooaoneaaOwnT
namespace Go.Proofs.Ytlffcpoooaoneaa
open Go Go.ChangeShapes Go.WideShapes Go.ChangeAt Go.RowKit
set_option maxRecDepth 100000

/-- the mark of cell p -/
def mkV (p : Nat) : Value := if p % 3 = 0 then .int .i64 ((p + 1 : Nat) : Int) else .int .i16 (IntKind.i16.wrap ((p + 1 : Nat) : Int))
theorem mkV_0 {p : Nat} (h : p % 3 = 0) {m : Int} (hm : m = ((p + 1 : Nat) : Int)) : mkV p = .int .i64 m := by subst hm; unfold mkV; rw [if_pos h]
theorem mkV_1 {p : Nat} (h : p % 3 ≠ 0) {m : Int} (hm : m = ((p + 1 : Nat) : Int)) : mkV p = .int .i16 (IntKind.i16.wrap m) := by subst hm; unfold mkV; rw [if_neg h]
theorem mkV_one (p : Nat) : (mkV p).oneCell' = true := by unfold mkV; split <;> rfl
/-- the first p cells marked -/
def mkR (c : Array Value) : Nat → Array Value
  | 0 => c
  | p + 1 => (mkR c p).setIfInBounds p (mkV p)
theorem mkR_size (c : Array Value) : ∀ p, (mkR c p).size = c.size
  | 0 => rfl
  | p + 1 => by rw [mkR, Array.size_setIfInBounds]; exact mkR_size c p
theorem mkR_get (c : Array Value) : ∀ k p, p < k → p < c.size → (mkR c k)[p]? = some (mkV p)
  | 0, p, h, _ => by omega
  | k + 1, p, h, hs => by
    rw [mkR, Array.getElem?_setIfInBounds]
    by_cases e : k = p
    · subst e; rw [if_pos rfl, if_pos (by rw [mkR_size]; exact hs)]
    · rw [if_neg e]; exact mkR_get c k p (by omega) hs
theorem setRow_two (w : World) (g : Nat) (c c' : Array Value) : (w.setRow g c).setRow g c' = w.setRow g c' := setRow_setRow w g c c'

set_option maxHeartbeats 1000000 in
theorem markT_any (g n cap : Nat) (cur : Array Value) (T : TypeId) (hn : n ≤ 1048576) (hs : n * 3 ≤ cur.size) (w : World) (h0 : At w g cur T) :
    Calls Try.prog 20 #[.slice (some ⟨g, 0, none⟩) n cap, .int .i64 1] w fun e w' => e = .returned (.int .i64 ((n : Int) * 3 + 1)) ∧ w' = w.setRow g (mkR cur (n * 3)) := by
  have e0 : w.setRow g (mkR cur 0) = w := by
    unfold World.setRow mkR
    congr 1
    apply Array.ext_getElem?
    intro i
    rw [Array.getElem?_modify]
    by_cases e : g = i
    · subst e
      rw [if_pos rfl]
      unfold At at h0
      rw [h0]; rfl
    · rw [if_neg e]
  have HA := Lib.hid (fun c => h0.setRow c)
  have H0 := Lib.hid e0
  clear e0
  go_enter Try.func20, Try.ntmps20
  go_wp2
  go_loopw [1, 5] (fun s i wr => ∃ k : Nat, ∃ m : Int, k ≤ n ∧ i = .int .i64 (k : Int) ∧ s = .int .i64 m ∧ Hid (m = (k : Int) * 3 + 1) ∧ Hid (wr = w.setRow g (mkR cur (k * 3)))) (fun _ i _ => n - (intOf i).toNat)
  case atStart => exact ⟨0, 1, by omega, rfl, rfl, Lib.hid rfl, Lib.hid H0.out.symm⟩
  case round =>
    clear h0 H0
    obtain ⟨k, m, hk, rfl, rfl, hm, hw⟩ := hrel
    by_cases hlt : k < n
    · have s2 : IntKind.i64.wrap ((k : Int) + 1) = (k : Int) + 1 := IntWalk.i64_in _ (by omega)
      have kd : (k : Int) < (n : Int) := by omega
      have hmo := hm.out
      have s3 : IntKind.i64.wrap (m + 1) = m + 1 := IntWalk.i64_in _ (by omega)
      have s4 : IntKind.i64.wrap (m + 1 + 1) = m + 1 + 1 := IntWalk.i64_in _ (by omega)
      have s5 : IntKind.i64.wrap (m + 1 + 1 + 1) = m + 1 + 1 + 1 := IntWalk.i64_in _ (by omega)
      have Z : ∀ p, (mkR cur p).size = cur.size := mkR_size cur
      have A1 : At wr g (mkR cur (k * 3)) T := by rw [hw.out]; exact HA.out _
      have e1 : Hid ((mkR cur (k * 3)).setIfInBounds (k * 3) (.int .i64 m) = mkR cur (k * 3 + 1)) := Lib.hid (by rw [← mkV_0 (p := k * 3) (by omega) (by omega)]; rfl)
      have e2 : Hid ((mkR cur (k * 3 + 1)).setIfInBounds (k * 3 + 1) (.int .i16 (IntKind.i16.wrap (m + 1))) = mkR cur (k * 3 + 2)) := Lib.hid (by rw [← mkV_1 (p := k * 3 + 1) (by omega) (by omega)]; rfl)
      have e3 : Hid ((mkR cur (k * 3 + 2)).setIfInBounds (k * 3 + 2) (.int .i16 (IntKind.i16.wrap (m + 1 + 1))) = mkR cur (k * 3 + 3)) := Lib.hid (by rw [← mkV_1 (p := k * 3 + 2) (by omega) (by omega)]; rfl)
      have A2 := A1.setRow (mkR cur (k * 3 + 1))
      have A3 := A2.setRow (mkR cur (k * 3 + 2))
      have hw4 : Hid (((wr.setRow g (mkR cur (k * 3 + 1))).setRow g (mkR cur (k * 3 + 2))).setRow g (mkR cur (k * 3 + 3)) = w.setRow g (mkR cur ((k + 1) * 3))) := Lib.hid (by
        rw [hw.out, setRow_two, setRow_two, setRow_two, show (k + 1) * 3 = k * 3 + 3 from by omega])
      have hm2 := Lib.hid (show m + 1 + 1 + 1 = ((k + 1 : Nat) : Int) * 3 + 1 from by omega)
      clear hmo hw hm
      go_wp2_with (first | ((with_reducible refine is_store 2 _ _ rfl ?_); refine wpList_store_cell rfl 2 _ _ rfl _ (k * 3) rfl (.int .i64 m) rfl (mkR cur (k * 3)) _ (by with_reducible assumption) (by rw [Z]; omega) (by kernel_rfl) rfl (mkR cur (k * 3 + 1)) (e1.out) ?_) | ((with_reducible refine is_store 34 _ _ rfl ?_); refine wpList_store_cell rfl 34 _ _ rfl _ (k * 3 + 1) rfl (.int .i16 (IntKind.i16.wrap (m + 1))) rfl (mkR cur (k * 3 + 1)) _ (by with_reducible assumption) (by rw [Z]; omega) (by kernel_rfl) rfl (mkR cur (k * 3 + 2)) (e2.out) ?_) | ((with_reducible refine is_store 34 _ _ rfl ?_); refine wpList_store_cell rfl 34 _ _ rfl _ (k * 3 + 2) rfl (.int .i16 (IntKind.i16.wrap (m + 1 + 1))) rfl (mkR cur (k * 3 + 2)) _ (by with_reducible assumption) (by rw [Z]; omega) (by kernel_rfl) rfl (mkR cur (k * 3 + 3)) (e3.out) ?_))
      exact ⟨⟨k + 1, m + 1 + 1 + 1, by omega, by go_num, rfl, hm2, hw4⟩, by simp [intOf]; omega⟩
    · obtain rfl : n = k := by omega
      go_wp2
      go_ret
      exact ⟨by rw [hm.out]; rfl, hw.out⟩

theorem markT_none (a : Option Addr) (cap : Nat) (w : World) :
    Calls Try.prog 20 #[.slice a 0 cap, .int .i64 1] w fun e w' => e = .returned (.int .i64 1) ∧ w' = w := by
  go_enter Try.func20, Try.ntmps20
  go_wp2
  go_loopw [1, 5] (fun s i wr => s = .int .i64 1 ∧ i = .int .i64 0 ∧ wr = w) (fun _ _ _ => 0)
  case atStart => exact ⟨rfl, rfl, rfl⟩
  case round =>
    obtain ⟨rfl, rfl, rfl⟩ := hrel
    go_wp2
    go_ret
    exact ⟨rfl, rfl⟩

set_option maxHeartbeats 1000000 in
theorem heldT_any (g n cap : Nat) (hn : n ≤ 1048576) (w : World) (hc : ∀ p, p < n * 3 → w.cell? ⟨g, p, none⟩ = some (mkV p)) :
    Calls Try.prog 21 #[.slice (some ⟨g, 0, none⟩) n cap, .int .i64 1] w fun e w' => e = .returned (.int .i64 ((n : Int) * 3 + 1)) ∧ w' = w := by
  have HC := Lib.hid hc
  clear hc
  go_enter Try.func21, Try.ntmps21
  go_wp2
  go_loopw [1, 5] (fun s i wr => ∃ k : Nat, ∃ m : Int, k ≤ n ∧ i = .int .i64 (k : Int) ∧ s = .int .i64 m ∧ Hid (m = (k : Int) * 3 + 1) ∧ wr = w) (fun _ i _ => n - (intOf i).toNat)
  case atStart => exact ⟨0, 1, by omega, rfl, rfl, Lib.hid rfl, rfl⟩
  case round =>
    obtain ⟨k, m, hk, rfl, rfl, hm, rfl⟩ := hrel
    by_cases hlt : k < n
    · have s2 : IntKind.i64.wrap ((k : Int) + 1) = (k : Int) + 1 := IntWalk.i64_in _ (by omega)
      have kd : (k : Int) < (n : Int) := by omega
      have hmo := hm.out
      have s3 : IntKind.i64.wrap (m + 1) = m + 1 := IntWalk.i64_in _ (by omega)
      have s4 : IntKind.i64.wrap (m + 1 + 1) = m + 1 + 1 := IntWalk.i64_in _ (by omega)
      have s5 : IntKind.i64.wrap (m + 1 + 1 + 1) = m + 1 + 1 + 1 := IntWalk.i64_in _ (by omega)
      have c0 : wr.cell? ⟨g, k * 3, none⟩ = some (.int .i64 m) := by rw [HC.out _ (by omega), mkV_0 (m := m) (by omega) (by omega)]
      have c1 : wr.cell? ⟨g, k * 3 + 1, none⟩ = some (.int .i16 (IntKind.i16.wrap (m + 1))) := by rw [HC.out _ (by omega), mkV_1 (m := m + 1) (by omega) (by omega)]
      have c2 : wr.cell? ⟨g, k * 3 + 2, none⟩ = some (.int .i16 (IntKind.i16.wrap (m + 1 + 1))) := by rw [HC.out _ (by omega), mkV_1 (m := m + 1 + 1) (by omega) (by omega)]
      have hm2 := Lib.hid (show m + 1 + 1 + 1 = ((k + 1 : Nat) : Int) * 3 + 1 from by omega)
      clear hmo hm
      go_wp2
      exact ⟨⟨k + 1, m + 1 + 1 + 1, by omega, by go_num, rfl, hm2, by trivial⟩, by simp [intOf]; omega⟩
    · obtain rfl : n = k := by omega
      go_wp2
      go_ret
      exact ⟨by rw [hm.out]; rfl, by trivial⟩
theorem heldT_none (a : Option Addr) (cap : Nat) (w : World) :
    Calls Try.prog 21 #[.slice a 0 cap, .int .i64 1] w fun e w' => e = .returned (.int .i64 1) ∧ w' = w := by
  go_enter Try.func21, Try.ntmps21
  go_wp2
  go_loopw [1, 5] (fun s i wr => s = .int .i64 1 ∧ i = .int .i64 0 ∧ wr = w) (fun _ _ _ => 0)
  case atStart => exact ⟨rfl, rfl, rfl⟩
  case round =>
    obtain ⟨rfl, rfl, rfl⟩ := hrel
    go_wp2
    go_ret
    exact ⟨rfl, rfl⟩
/-- an answer of one's own is marked, and the marks are read back, now and later, as long as its block stays -/
theorem OwnT.marks {w : World} {lo : Nat} {v : Value} {xs : Ts} (h : OwnT w lo v xs) (hn : xs.length ≤ 1048576) :
    ∃ M : Int, 0 ≤ M ∧ Calls Try.prog 20 #[v, .int .i64 1] w fun e w' => e = .returned (.int .i64 M) ∧ Below lo w w' ∧ w'.heap.size = w.heap.size ∧ (∀ k, v.ownBlock ≠ some k → w'.heap[k]? = w.heap[k]?) ∧
      ∀ w2, Below w'.heap.size w' w2 → Calls Try.prog 21 #[v, .int .i64 1] w2 fun e w3 => e = .returned (.int .i64 M) ∧ w3 = w2 := by
  by_cases z : xs.length = 0
  · obtain ⟨a, cap, rfl⟩ := h.any
    rw [z]
    refine ⟨1, by omega, (markT_none a cap w).mono ?_⟩
    rintro e w' ⟨rfl, rfl⟩
    exact ⟨rfl, Below.refl _ _, rfl, fun _ _ => rfl, fun w2 _ => heldT_none a cap w2⟩
  · obtain ⟨g, cap, cur, rfl, hg, hA, hcap, hsz, -⟩ := h.at z
    refine ⟨(xs.length : Int) * 3 + 1, by omega, (markT_any g xs.length cap cur 111 hn hsz w hA).mono ?_⟩
    rintro e w' ⟨rfl, rfl⟩
    have hA' := hA.setRow (mkR cur (xs.length * 3))
    refine ⟨rfl, Below.setRow (Below.refl _ _) hg _, by simp [World.setRow], fun k hk => heap_setRow_other _ _ _ _ (fun e => hk (by subst e; rfl)), fun w2 hb => heldT_any g xs.length cap hn w2 (fun p hp => ?_)⟩
    exact (hA'.step hb).cell (mkR_get cur _ p hp (by omega))

end Go.Proofs.Ytlffcpoooaoneaa
