/-
  CONTRACTS: slices of tallies, marked from any number on.
-/
import Derived.Test.YtlffcpoooaoneaaMarkT
namespace Go.Proofs.Ytlffcpoooaoneaa
open Go Go.ChangeShapes Go.WideShapes Go.ChangeAt Go.RowKit
set_option maxRecDepth 100000

set_option maxHeartbeats 1000000 in
/-- a slice is marked from any number on: of its block nothing is told -/
theorem markT_from (g n cap : Nat) (cur : Array Value) (T : TypeId) (hn : n ≤ 1048576) (hs : n * 3 ≤ cur.size) (m0 : Int) (hm0 : 0 ≤ m0 ∧ m0 ≤ 1000000000) (w : World) (h0 : At w g cur T) :
    Calls Try.prog 20 #[.slice (some ⟨g, 0, none⟩) n cap, .int .i64 m0] w fun e w' => e = .returned (.int .i64 (m0 + (n : Int) * 3)) ∧ ∃ c, w' = w.setRow g c := by
  have e0 : w.setRow g cur = w := by
    unfold World.setRow
    congr 1
    apply Array.ext_getElem?
    intro i
    rw [Array.getElem?_modify]
    by_cases e : g = i
    · subst e
      rw [if_pos rfl]
      unfold At at h0
      rw [h0]; rfl
    · rw [if_neg e]
  have HA := Lib.hid (fun c => h0.setRow c)
  have H0 := Lib.hid e0
  clear e0
  go_enter Try.func20, Try.ntmps20
  go_wp2
  go_loopw [1, 5] (fun s i wr => ∃ k : Nat, ∃ m : Int, ∃ c : Array Value, k ≤ n ∧ i = .int .i64 (k : Int) ∧ s = .int .i64 m ∧ Hid (m = m0 + (k : Int) * 3) ∧ c.size = cur.size ∧ Hid (wr = w.setRow g c)) (fun _ i _ => n - (intOf i).toNat)
  case atStart => exact ⟨0, m0, cur, by omega, rfl, rfl, Lib.hid (by omega), rfl, Lib.hid H0.out.symm⟩
  case round =>
    clear h0 H0
    obtain ⟨k, m, c, hk, rfl, rfl, hm, hcs, hw⟩ := hrel
    by_cases hlt : k < n
    · have s2 : IntKind.i64.wrap ((k : Int) + 1) = (k : Int) + 1 := IntWalk.i64_in _ (by omega)
      have kd : (k : Int) < (n : Int) := by omega
      have hmo := hm.out
      have s3 : IntKind.i64.wrap (m + 1) = m + 1 := IntWalk.i64_in _ (by omega)
      have s4 : IntKind.i64.wrap (m + 1 + 1) = m + 1 + 1 := IntWalk.i64_in _ (by omega)
      have s5 : IntKind.i64.wrap (m + 1 + 1 + 1) = m + 1 + 1 + 1 := IntWalk.i64_in _ (by omega)
      have A1 : At wr g c T := by rw [hw.out]; exact HA.out _
      obtain ⟨c1, hc1⟩ : ∃ c1, c1 = c.setIfInBounds (k * 3) (.int .i64 m) := ⟨_, rfl⟩
      obtain ⟨c2, hc2⟩ : ∃ c2, c2 = c1.setIfInBounds (k * 3 + 1) (.int .i16 (IntKind.i16.wrap (m + 1))) := ⟨_, rfl⟩
      obtain ⟨c3, hc3⟩ : ∃ c3, c3 = c2.setIfInBounds (k * 3 + 2) (.int .i16 (IntKind.i16.wrap (m + 1 + 1))) := ⟨_, rfl⟩
      have z1 : c1.size = cur.size := by rw [hc1, Array.size_setIfInBounds, hcs]
      have z2 : c2.size = cur.size := by rw [hc2, Array.size_setIfInBounds, z1]
      have z3 : c3.size = cur.size := by rw [hc3, Array.size_setIfInBounds, z2]
      have e1 := Lib.hid hc1.symm
      have e2 := Lib.hid hc2.symm
      have e3 := Lib.hid hc3.symm
      clear hc1 hc2 hc3
      have A2 := A1.setRow c1
      have A3 := A2.setRow c2
      have hw4 : Hid (((wr.setRow g c1).setRow g c2).setRow g c3 = w.setRow g c3) := Lib.hid (by
        rw [hw.out, setRow_two, setRow_two, setRow_two])
      have hm2 := Lib.hid (show m + 1 + 1 + 1 = m0 + ((k + 1 : Nat) : Int) * 3 from by omega)
      clear hmo hw hm
      go_wp2_with (first | ((with_reducible refine is_store 2 _ _ rfl ?_); refine wpList_store_cell rfl 2 _ _ rfl _ (k * 3) rfl (.int .i64 m) rfl c _ (by with_reducible assumption) (by omega) (by kernel_rfl) rfl c1 e1.out ?_) | ((with_reducible refine is_store 34 _ _ rfl ?_); refine wpList_store_cell rfl 34 _ _ rfl _ (k * 3 + 1) rfl (.int .i16 (IntKind.i16.wrap (m + 1))) rfl c1 _ (by with_reducible assumption) (by omega) (by kernel_rfl) rfl c2 e2.out ?_) | ((with_reducible refine is_store 34 _ _ rfl ?_); refine wpList_store_cell rfl 34 _ _ rfl _ (k * 3 + 2) rfl (.int .i16 (IntKind.i16.wrap (m + 1 + 1))) rfl c2 _ (by with_reducible assumption) (by omega) (by kernel_rfl) rfl c3 e3.out ?_))
      exact ⟨⟨k + 1, m + 1 + 1 + 1, c3, by omega, by go_num, rfl, hm2, z3, hw4⟩, by simp [intOf]; omega⟩
    · obtain rfl : n = k := by omega
      go_wp2
      go_ret
      exact ⟨by rw [hm.out]; rfl, c, hw.out⟩

end Go.Proofs.Ytlffcpoooaoneaa
