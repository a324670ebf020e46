/-
  CONTRACTS: slices of plans marked.
-/
import Derived.Test.YtboahhipobcababMarkS2
import Derived.Test.YtboahhipobcababG8
namespace Go.Proofs.Ytboahhipobcabab
open Go Go.ChangeShapes Go.WideShapes Go.ChangeAt Go.RowKit
set_option maxRecDepth 100000

/-- the number that stands at the plan at i -/
def sN (len : Nat → Nat) : Nat → Nat
  | 0 => 1
  | i + 1 => sN len i + len i * 9 + 2

theorem sN_le (len : Nat → Nat) : ∀ {i n : Nat}, i ≤ n → sN len i ≤ sN len n
  | i, 0, h => by obtain rfl : i = 0 := by omega
                  exact Nat.le_refl _
  | i, n + 1, h => by
    by_cases e : i = n + 1
    · subst e; exact Nat.le_refl _
    · have := sN_le len (i := i) (n := n) (by omega)
      show _ ≤ sN len n + len n * 9 + 2
      omega

/-- plans as they are marked: rows at one block, their slots at others -/
structure MP (w : World) (g n : Nat) (hb len cap : Nat → Nat) (cur : Array Value) : Prop where
  row : At w g cur 41
  size : n * 3 ≤ cur.size
  sl : ∀ i, i < n → cur[i * 3]? = some (.slice (some ⟨hb i, 0, none⟩) (len i) (cap i))
  at' : ∀ i, i < n → ∃ cs, At w (hb i) cs 107 ∧ len i * 9 ≤ cs.size
  ne : ∀ i, i < n → hb i ≠ g
  dis : ∀ i j, i < j → j < n → hb i ≠ hb j

/-- the first i plans are marked -/
structure MI (w wr : World) (g n : Nat) (hb len cap : Nat → Nat) (cur : Array Value) (i : Nat) (cur1 : Array Value) : Prop where
  row : At wr g cur1 41
  size : cur1.size = cur.size
  sl : ∀ p, p < n → cur1[p * 3]? = cur[p * 3]?
  m1 : ∀ p, p < i → cur1[p * 3 + 1]? = some (.int .i64 ((sN len p + len p * 9 : Nat) : Int)) ∧ cur1[p * 3 + 2]? = some (.int .i64 ((sN len p + len p * 9 + 1 : Nat) : Int))
  ms : ∀ p, p < i → ∀ q, q < len p * 9 → wr.cell? ⟨hb p, q, none⟩ = some (mkS2 (sN len p) q)
  rest : ∀ p, i ≤ p → p < n → wr.heap[hb p]? = w.heap[hb p]?
  hsz : wr.heap.size = w.heap.size
  oth : ∀ k, k ≠ g → (∀ p, p < n → k ≠ hb p) → wr.heap[k]? = w.heap[k]?
  os : wr.os = w.os
  tape : wr.tape = w.tape
  out : wr.output = w.output

set_option maxHeartbeats 1000000 in
theorem markPlanS_any (g n cp : Nat) (hb len cap : Nat → Nat) (cur : Array Value) (hn : n ≤ 1048576) (hl : ∀ i, i < n → len i ≤ 1048576) (hS : sN len n ≤ 100000000) (w : World) (h0 : MP w g n hb len cap cur) :
    Calls Try.prog 16 #[.slice (some ⟨g, 0, none⟩) n cp, .int .i64 1] w fun e w' => e = .returned (.int .i64 (sN len n : Int)) ∧ ∃ cur1, MI w w' g n hb len cap cur n cur1 := by
  have HP := Lib.hid h0
  have HL := Lib.hid hl
  have h00 : MI w w g n hb len cap cur 0 cur := ⟨h0.row, rfl, fun _ _ => rfl, fun p hp => absurd hp (by omega), fun p hp => absurd hp (by omega), fun _ _ _ => rfl, rfl, fun _ _ _ => rfl, rfl, rfl, rfl⟩
  have H0 := Lib.hid h00
  clear h0 h00 hl
  go_enter Try.func16, Try.ntmps16
  go_wp2
  go_loopw [1, 5] (fun s iv wr => ∃ i : Nat, i ≤ n ∧ iv = .int .i64 (i : Int) ∧ s = .int .i64 (sN len i : Int) ∧ ∃ cur1, Hid (MI w wr g n hb len cap cur i cur1)) (fun _ iv _ => n - (intOf iv).toNat)
  case atStart => exact ⟨0, by omega, rfl, rfl, cur, H0⟩
  case round =>
    clear H0
    obtain ⟨i, hi, rfl, rfl, cur1, HI⟩ := hrel
    by_cases hlt : i < n
    · have kd : (i : Int) < (n : Int) := by omega
      have s2 : IntKind.i64.wrap ((i : Int) + 1) = (i : Int) + 1 := IntWalk.i64_in _ (by omega)
      have hsi := sN_le len (i := i + 1) (n := n) (by omega)
      have hs1 : sN len (i + 1) = sN len i + len i * 9 + 2 := rfl
      have hli := HL.out i hlt
      have A1 := HI.out.row
      have hs0 := (HI.out.sl i hlt).trans (HP.out.sl i hlt)
      obtain ⟨cs, hA0, hcs⟩ := HP.out.at' i hlt
      have hA : At wr (hb i) cs 107 := (HI.out.rest i (Nat.le_refl _) hlt).trans hA0
      have hne := HP.out.ne i hlt
      have KM := markSl2_any (sN len i) (by omega) (hb i) (len i) (cap i) cs 107 hli hcs
      have hz : n * 3 ≤ cur1.size := by rw [HI.out.size]; exact HP.out.size
      obtain ⟨m1, hm1⟩ : ∃ m1 : Int, m1 = (len i : Int) * 9 + (sN len i : Nat) := ⟨_, rfl⟩
      rw [← hm1] at KM
      have HM := Lib.hid hm1
      have s3 : IntKind.i64.wrap (m1 + 1) = m1 + 1 := IntWalk.i64_in _ (by omega)
      have s4 : IntKind.i64.wrap (m1 + 1 + 1) = m1 + 1 + 1 := IntWalk.i64_in _ (by omega)
      have hl1 : i * 3 + 1 < cur1.size := by omega
      have hl2 : i * 3 + 2 < (cur1.setIfInBounds (i * 3 + 1) (.int .i64 m1)).size := by rw [Array.size_setIfInBounds]; omega
      clear hm1 hs1 hA0
      go_wp2_with (((with_reducible refine is_load 39 _ rfl ?_); refine wpList_load_cell rfl 39 _ rfl _ (i * 3) rfl (cur1) _ (by with_reducible assumption) _ Try.underlying39 rfl (.slice (some ⟨hb i, 0, none⟩) (len i) (cap i)) hs0 ?_))
      refine (KM wr hA).mono ?_
      rintro e w2 ⟨rfl, hw2⟩
      have A2 : At w2 g cur1 41 := by rw [hw2]; exact A1.setRow_other hne.symm _
      have A3 := A2.setRow (cur1.setIfInBounds (i * 3 + 1) (.int .i64 m1))
      have HW := Lib.hid hw2
      clear hw2 KM A1 hs0
      go_wp2_with (first | ((with_reducible refine is_store 2 _ _ rfl ?_); refine wpList_store_cell rfl 2 _ _ rfl _ (i * 3 + 1) rfl (.int .i64 (m1)) rfl (cur1) _ (by with_reducible assumption) (hl1) (by kernel_rfl) rfl ((cur1.setIfInBounds (i * 3 + 1) (.int .i64 m1))) rfl ?_) | ((with_reducible refine is_store 2 _ _ rfl ?_); refine wpList_store_cell rfl 2 _ _ rfl _ (i * 3 + 2) rfl (.int .i64 (m1 + 1)) rfl ((cur1.setIfInBounds (i * 3 + 1) (.int .i64 m1))) _ (by with_reducible assumption) (hl2) (by kernel_rfl) rfl (((cur1.setIfInBounds (i * 3 + 1) (.int .i64 m1)).setIfInBounds (i * 3 + 2) (.int .i64 (m1 + 1)))) rfl ?_))
      have e9 : m1 + 1 + 1 = (sN len (i + 1) : Int) := by rw [HM.out]; show _ = ((sN len i + len i * 9 + 2 : Nat) : Int); omega
      refine ⟨⟨i + 1, by omega, by go_num, by rw [e9], ((cur1.setIfInBounds (i * 3 + 1) (.int .i64 m1)).setIfInBounds (i * 3 + 2) (.int .i64 (m1 + 1))), Lib.hid ?_⟩, by simp [intOf]; omega⟩
      have hw2 := HW.out
      have hk : ∀ k, k ≠ g → k ≠ hb i → ((w2.setRow g (cur1.setIfInBounds (i * 3 + 1) (.int .i64 m1))).setRow g ((cur1.setIfInBounds (i * 3 + 1) (.int .i64 m1)).setIfInBounds (i * 3 + 2) (.int .i64 (m1 + 1)))).heap[k]? = wr.heap[k]? := fun k h1 h2 => by
        rw [heap_setRow_other _ _ _ _ h1, heap_setRow_other _ _ _ _ h1, hw2, heap_setRow_other _ _ _ _ h2]
      have hI := HI.out
      have hP := HP.out
      have AI : At ((w2.setRow g (cur1.setIfInBounds (i * 3 + 1) (.int .i64 m1))).setRow g ((cur1.setIfInBounds (i * 3 + 1) (.int .i64 m1)).setIfInBounds (i * 3 + 2) (.int .i64 (m1 + 1)))) (hb i) (msR2 (sN len i) cs (len i * 9)) 107 := by
        have h2 : At w2 (hb i) (msR2 (sN len i) cs (len i * 9)) 107 := by rw [hw2]; exact hA.setRow _
        exact (h2.setRow_other hne _).setRow_other hne _
      refine ⟨A3.setRow _, ?_, fun p hp => ?_, fun p hp => ?_, fun p hp q hq => ?_, fun p h1 h2 => ?_, ?_, fun k h1 h2 => ?_, ?_, ?_, ?_⟩
      · rw [Array.size_setIfInBounds, Array.size_setIfInBounds]; exact hI.size
      · rw [Array.getElem?_setIfInBounds_ne (by omega), Array.getElem?_setIfInBounds_ne (by omega)]; exact hI.sl p hp
      · by_cases c : p < i
        · rw [Array.getElem?_setIfInBounds_ne (by omega), Array.getElem?_setIfInBounds_ne (by omega), Array.getElem?_setIfInBounds_ne (by omega), Array.getElem?_setIfInBounds_ne (by omega)]
          exact hI.m1 p c
        · obtain rfl : p = i := by omega
          have v1 : m1 = ((sN len p + len p * 9 : Nat) : Int) := by rw [HM.out]; omega
          have v2 : m1 + 1 = ((sN len p + len p * 9 + 1 : Nat) : Int) := by rw [HM.out]; omega
          refine ⟨?_, ?_⟩
          · rw [Array.getElem?_setIfInBounds_ne (by omega), Array.getElem?_setIfInBounds_self_of_lt hl1, v1]
          · rw [Array.getElem?_setIfInBounds_self_of_lt hl2, v2]
      · by_cases c : p < i
        · have := hI.ms p c q hq
          unfold World.cell? at this ⊢
          rw [hk (hb p) (hP.ne p (by omega)) (hP.dis p i c hlt)]
          exact this
        · obtain rfl : p = i := by omega
          exact AI.cell (msR2_get _ _ _ _ hq (by omega))
      · rw [hk (hb p) (hP.ne p h2) (hP.dis i p (by omega) h2).symm]
        exact hI.rest p (by omega) h2
      · rw [hw2]; simpa [World.setRow] using hI.hsz
      · rw [hk k h1 (h2 i hlt)]
        exact hI.oth k h1 h2
      · rw [hw2]; exact hI.os
      · rw [hw2]; exact hI.tape
      · rw [hw2]; exact hI.out
    · obtain rfl : n = i := by omega
      go_wp2
      go_ret
      exact ⟨rfl, cur1, HI.out⟩

end Go.Proofs.Ytboahhipobcabab
