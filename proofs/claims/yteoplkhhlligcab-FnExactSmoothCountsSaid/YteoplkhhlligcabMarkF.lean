/-
  CONTRACTS: slices of floats, marked and held.
-/
import Derived.Test.YteoplkhhlligcabOwnF
import Derived.Test.YteoplkhhlligcabFint
import Derived.Test.YteoplkhhlligcabMarkT
import Derived.Test.YteoplkhhlligcabNum
import Derived.Test.YteoplkhhlligcabEq
namespace Go.Proofs.Yteoplkhhlligcab
open Go Go.ChangeShapes Go.WideShapes Go.ChangeAt Go.RowKit
set_option maxRecDepth 100000

/-- the mark of place p -/
def mkW (p : Nat) : Value := .float .f32 (fN (p + 1))
/-- the first p places marked -/
def mkQ (c : Array Value) : Nat → Array Value
  | 0 => c
  | p + 1 => (mkQ c p).setIfInBounds p (mkW p)
theorem mkQ_size (c : Array Value) : ∀ p, (mkQ c p).size = c.size
  | 0 => rfl
  | p + 1 => by rw [mkQ, Array.size_setIfInBounds]; exact mkQ_size c p
theorem mkQ_get (c : Array Value) : ∀ k p, p < k → p < c.size → (mkQ c k)[p]? = some (mkW p)
  | 0, p, h, _ => by omega
  | k + 1, p, h, hs => by
    rw [mkQ, Array.getElem?_setIfInBounds]
    by_cases e : k = p
    · subst e; rw [if_pos rfl, if_pos (by rw [mkQ_size]; exact hs)]
    · rw [if_neg e]; exact mkQ_get c k p (by omega) hs
set_option maxHeartbeats 1000000 in
theorem markF_any (g n cap : Nat) (cur : Array Value) (T : TypeId) (hn : n ≤ 1000000) (hs : n ≤ cur.size) (w : World) (h0 : At w g cur T) :
    Calls Try.prog 20 #[.slice (some ⟨g, 0, none⟩) n cap, .int .i64 1] w fun e w' => e = .returned (.int .i64 ((n : Int) + 1)) ∧ w' = w.setRow g (mkQ cur n) := by
  have e0 : w.setRow g (mkQ cur 0) = w := by
    unfold World.setRow mkQ
    congr 1
    apply Array.ext_getElem?
    intro i
    rw [Array.getElem?_modify]
    by_cases e : g = i
    · subst e
      rw [if_pos rfl]
      unfold At at h0
      rw [h0]; rfl
    · rw [if_neg e]
  have HA := Lib.hid (fun c => h0.setRow c)
  have H0 := Lib.hid e0
  clear e0
  go_enter Try.func20, Try.ntmps20
  go_wp2
  go_loopw [1, 5] (fun s i wr => ∃ k m : Nat, k ≤ n ∧ i = .int .i64 (k : Int) ∧ s = .int .i64 (m : Int) ∧ Hid (m = k + 1) ∧ Hid (wr = w.setRow g (mkQ cur k))) (fun _ i _ => n - (intOf i).toNat)
  case atStart => exact ⟨0, 1, by omega, rfl, rfl, Lib.hid rfl, Lib.hid H0.out.symm⟩
  case round =>
    clear h0 H0
    obtain ⟨k, m, hk, rfl, rfl, hm, hw⟩ := hrel
    by_cases hlt : k < n
    · have s2 : IntKind.i64.wrap ((k : Int) + 1) = (k : Int) + 1 := IntWalk.i64_in _ (by omega)
      have kd : (k : Int) < (n : Int) := by omega
      have hmo := hm.out
      have s3 : IntKind.i64.wrap ((m : Int) + 1) = (m : Int) + 1 := IntWalk.i64_in _ (by omega)
      have f1 := floatOfInt_nat m
      have Z : (mkQ cur k).size = cur.size := mkQ_size cur k
      have A1 : At wr g (mkQ cur k) T := by rw [hw.out]; exact HA.out _
      have e1 : Hid ((mkQ cur k).setIfInBounds k (.float .f32 (fN m)) = mkQ cur (k + 1)) := Lib.hid (by rw [hmo]; rfl)
      have hw4 : Hid (wr.setRow g (mkQ cur (k + 1)) = w.setRow g (mkQ cur (k + 1))) := Lib.hid (by rw [hw.out, setRow_two])
      have hm2 := Lib.hid (show m + 1 = (k + 1) + 1 from by omega)
      clear hmo hw hm
      go_wp2_with (((with_reducible refine is_store 23 _ _ rfl ?_); refine wpList_store_cell rfl 23 _ _ rfl _ k rfl (.float .f32 (fN m)) rfl (mkQ cur k) _ (by with_reducible assumption) (by rw [Z]; omega) (by kernel_rfl) rfl (mkQ cur (k + 1)) (e1.out) ?_))
      exact ⟨⟨k + 1, m + 1, by omega, by go_num, by go_num, hm2, hw4⟩, by simp [intOf]; omega⟩
    · obtain rfl : n = k := by omega
      go_wp2
      go_ret
      exact ⟨by rw [hm.out]; rfl, hw.out⟩
theorem markF_none (a : Option Addr) (cap : Nat) (w : World) :
    Calls Try.prog 20 #[.slice a 0 cap, .int .i64 1] w fun e w' => e = .returned (.int .i64 1) ∧ w' = w := by
  go_enter Try.func20, Try.ntmps20
  go_wp2
  go_loopw [1, 5] (fun s i wr => s = .int .i64 1 ∧ i = .int .i64 0 ∧ wr = w) (fun _ _ _ => 0)
  case atStart => exact ⟨rfl, rfl, rfl⟩
  case round =>
    obtain ⟨rfl, rfl, rfl⟩ := hrel
    go_wp2
    go_ret
    exact ⟨rfl, rfl⟩
set_option maxHeartbeats 1000000 in
theorem heldF_any (g n cap : Nat) (hn : n ≤ 1000000) (w : World) (hc : ∀ p, p < n → w.cell? ⟨g, p, none⟩ = some (mkW p)) :
    Calls Try.prog 21 #[.slice (some ⟨g, 0, none⟩) n cap, .int .i64 1] w fun e w' => e = .returned (.int .i64 ((n : Int) + 1)) ∧ w' = w := by
  have HC := Lib.hid hc
  clear hc
  go_enter Try.func21, Try.ntmps21
  go_wp2
  go_loopw [1, 5] (fun s i wr => ∃ k m : Nat, k ≤ n ∧ i = .int .i64 (k : Int) ∧ s = .int .i64 (m : Int) ∧ Hid (m = k + 1) ∧ wr = w) (fun _ i _ => n - (intOf i).toNat)
  case atStart => exact ⟨0, 1, by omega, rfl, rfl, Lib.hid rfl, rfl⟩
  case round =>
    obtain ⟨k, m, hk, rfl, rfl, hm, rfl⟩ := hrel
    by_cases hlt : k < n
    · have s2 : IntKind.i64.wrap ((k : Int) + 1) = (k : Int) + 1 := IntWalk.i64_in _ (by omega)
      have kd : (k : Int) < (n : Int) := by omega
      have hmo := hm.out
      have s3 : IntKind.i64.wrap ((m : Int) + 1) = (m : Int) + 1 := IntWalk.i64_in _ (by omega)
      have f1 := floatOfInt_nat m
      have c0 : wr.cell? ⟨g, k, none⟩ = some (.float .f32 (fN m)) := by rw [HC.out k hlt, hmo]; rfl
      have hle := fN_le (n := m) (by omega)
      have o1 := order_self_ne (fN m) (by omega)
      rw [(nan_le (c := 2139095040) (x := fN m) (by omega) (Nat.le_refl _)).2] at o1
      have hm2 := Lib.hid (show m + 1 = (k + 1) + 1 from by omega)
      clear hmo hm hle
      generalize fN m = z at *
      go_wp2
      exact ⟨⟨k + 1, m + 1, by omega, by go_num, by go_num, hm2, by trivial⟩, by simp [intOf]; omega⟩
    · obtain rfl : n = k := by omega
      go_wp2
      go_ret
      exact ⟨by rw [hm.out]; rfl, by trivial⟩
theorem heldF_none (a : Option Addr) (cap : Nat) (w : World) :
    Calls Try.prog 21 #[.slice a 0 cap, .int .i64 1] w fun e w' => e = .returned (.int .i64 1) ∧ w' = w := by
  go_enter Try.func21, Try.ntmps21
  go_wp2
  go_loopw [1, 5] (fun s i wr => s = .int .i64 1 ∧ i = .int .i64 0 ∧ wr = w) (fun _ _ _ => 0)
  case atStart => exact ⟨rfl, rfl, rfl⟩
  case round =>
    obtain ⟨rfl, rfl, rfl⟩ := hrel
    go_wp2
    go_ret
    exact ⟨rfl, rfl⟩
theorem OwnF.marks {w : World} {lo : Nat} {v : Value} {ys : List Nat} (h : OwnF w lo v ys) (hn : ys.length ≤ 1000000) :
    ∃ M : Int, 0 ≤ M ∧ Calls Try.prog 20 #[v, .int .i64 1] w fun e w' => e = .returned (.int .i64 M) ∧ Below lo w w' ∧ w'.heap.size = w.heap.size ∧ (∀ k, v.ownBlock ≠ some k → w'.heap[k]? = w.heap[k]?) ∧
      ∀ w2, Below w'.heap.size w' w2 → Calls Try.prog 21 #[v, .int .i64 1] w2 fun e w3 => e = .returned (.int .i64 M) ∧ w3 = w2 := by
  by_cases z : ys.length = 0
  · obtain ⟨a, cap, rfl⟩ := h.any
    rw [z]
    refine ⟨1, by omega, (markF_none a cap w).mono ?_⟩
    rintro e w' ⟨rfl, rfl⟩
    exact ⟨rfl, Below.refl _ _, rfl, fun _ _ => rfl, fun w2 _ => heldF_none a cap w2⟩
  · obtain ⟨g, cap, cur, rfl, hg, hA, hcap, hsz, -⟩ := h.at z
    refine ⟨(ys.length : Int) + 1, by omega, (markF_any g ys.length cap cur 23 hn hsz w hA).mono ?_⟩
    rintro e w' ⟨rfl, rfl⟩
    have hA' := hA.setRow (mkQ cur ys.length)
    refine ⟨rfl, Below.setRow (Below.refl _ _) hg _, by simp [World.setRow], fun k hk => heap_setRow_other _ _ _ _ (fun e => hk (by subst e; rfl)), fun w2 hb => heldF_any g ys.length cap hn w2 (fun p hp => ?_)⟩
    exact (hA'.step hb).cell (mkQ_get cur _ p hp (by omega))

end Go.Proofs.Yteoplkhhlligcab
