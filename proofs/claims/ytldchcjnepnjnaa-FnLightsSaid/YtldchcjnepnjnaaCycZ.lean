/-
  CONTRACTS: the cycle of a plan whose slots are one's own.
-/
import Derived.Test.YtldchcjnepnjnaaCyc
import Derived.Test.YtldchcjnepnjnaaOwnSl
namespace Go.Proofs.Ytldchcjnepnjnaa
open Go Go.ChangeShapes Go.WideShapes Go.ChangeAt Go.RowKit
set_option maxRecDepth 100000

/-- slots, and what lies behind them -/
def slY (xs : Slots) (zs : Array Value) : Array Value := slC xs ++ zs

theorem slY_size {xs : Slots} {zs : Array Value} (h : SlW xs) : xs.length * 9 ≤ (slY xs zs).size := by
  unfold slY
  rw [Array.size_append, slC_size h]
  omega

theorem slY_slot {xs : Slots} {zs : Array Value} (h : SlW xs) {i k : Nat} (hi : i < xs.length) (hk : k = i * 9) : (slY xs zs).extract k (k + 9) = sl1 (sb xs i) (st xs i) := by
  rw [← slC_slot h hi hk]
  subst hk
  have hs := slC_size h
  apply Array.ext_getElem?
  intro j
  rw [Array.getElem?_extract, Array.getElem?_extract]
  unfold slY
  by_cases c : j < 9
  · rw [if_pos (by rw [Array.size_append]; omega), if_pos (by omega), Array.getElem?_append_left (by omega)]
  · rw [if_neg (by omega), if_neg (by omega)]

theorem OwnSl.atZ {w : World} {lo : Nat} {v : Value} {xs : Slots} (h : OwnSl w lo v xs) (hn : xs.length ≠ 0) (hW : SlW xs) : ∃ g cap zs, v = .slice (some ⟨g, 0, none⟩) xs.length cap ∧ lo ≤ g ∧ At w g (slY xs zs) 40 := by
  obtain ⟨g, cap, cur, rfl, h1, h2, -, h4, h5⟩ := h.at hn
  refine ⟨g, cap, cur.extract (xs.length * 9) cur.size, rfl, h1, ?_⟩
  have e : slY xs (cur.extract (xs.length * 9) cur.size) = cur := by
    have hs := slC_size hW
    apply Array.ext_getElem?
    intro j
    unfold slY
    by_cases c : j < xs.length * 9
    · rw [Array.getElem?_append_left (by omega), h5 j c, ← Array.getElem?_toList]; rfl
    · rw [Array.getElem?_append_right (by omega), Array.getElem?_extract, hs]
      by_cases d : j < cur.size
      · rw [if_pos (by omega)]; congr 1; omega
      · rw [if_neg (by omega), Array.getElem?_eq_none (by omega)]
  rw [e]
  exact h2


theorem cycleOfZ_any (cp : Nat) (zs : Array Value) (G : Nat) (xs : Slots) (b o : Int) (hW : SlW xs) (T : TypeId) (hn : xs.length ≤ 8) (hb : 0 ≤ b ∧ b ≤ 240) (htk : tkOk xs xs.length = true) (w : World) (A0 : At w G (slY xs zs) T) :
    Calls Try.prog 38 #[.agg (plC (.slice (some ⟨G, 0, none⟩) xs.length cp) b o)] w fun e w' => e = .returned (.int .i64 (cyc xs b)) ∧ Below w.heap.size w w' := by
  have P0 := At.new w (plC (.slice (some ⟨G, 0, none⟩) xs.length cp) b o) 26
  have A1 := A0.alloc (.cells (plC (.slice (some ⟨G, 0, none⟩) xs.length cp) b o) 26)
  have B0 := Lib.hid (b0 w (.cells (plC (.slice (some ⟨G, 0, none⟩) xs.length cp) b o) 26))
  have HX := Lib.hid (And.intro hW (And.intro hn htk))
  have hm := mul_bnd hn hb
  obtain ⟨n, hnn⟩ : ∃ n, n = xs.length := ⟨_, rfl⟩
  have HN := Lib.hid hnn
  obtain ⟨m, hmm⟩ : ∃ m : Int, m = (n : Int) * b := ⟨_, rfl⟩
  have HM := Lib.hid hmm
  rw [← hnn] at hn hm P0 A1 B0 ⊢
  rw [← hmm] at hm
  have sm : IntKind.i64.wrap ((n : Int) * b) = m := by rw [← hmm]; exact IntWalk.i64_in _ (by omega)
  clear hnn hmm hW htk A0
  go_enter Try.func38, Try.ntmps38
  go_wp2_with (first | ((with_reducible refine is_load 24 _ rfl ?_); refine wpList_load_cell rfl 24 _ rfl _ 0 rfl ((plC (.slice (some ⟨G, 0, none⟩) n cp) b o)) _ (by with_reducible assumption) _ Try.underlying24 rfl ((.slice (some ⟨G, 0, none⟩) n cp)) (plC_0 _ _ _) ?_) | ((with_reducible refine is_load 2 _ rfl ?_); refine wpList_load_cell rfl 2 _ rfl _ 1 rfl ((plC (.slice (some ⟨G, 0, none⟩) n cp) b o)) _ (by with_reducible assumption) _ Try.underlying2 rfl (.int .i64 b) (plC_1 _ _ _) ?_))
  go_loopw [3, 15] (fun c i wr => ∃ k : Nat, k ≤ n ∧ i = .int .i64 (k : Int) ∧ c = .int .i64 (m + tks xs k) ∧ At wr G (slY xs zs) T ∧ Hid (Below w.heap.size w wr)) (fun _ i _ => n - (intOf i).toNat)
  case atStart => exact ⟨0, by omega, rfl, by rw [show tks xs 0 = 0 from rfl, Int.add_zero], A1, B0⟩
  case round =>
    clear A1 B0 P0
    obtain ⟨k, hk, rfl, rfl, A1, B1⟩ := hrel
    by_cases hlt : k < n
    · have s2 : IntKind.i64.wrap ((k : Int) + 1) = (k : Int) + 1 := IntWalk.i64_in _ (by omega)
      have kd : (k : Int) < (n : Int) := by omega
      have hkl : k < xs.length := by rw [← HN.out]; exact hlt
      have hb8 := (HX.out.1.at hkl).1
      have t1 := tks_small HX.out.2.1 HX.out.2.2 (k := k) (by omega)
      have t2 := tkOk_at hkl HX.out.2.2
      have sa : IntKind.i64.wrap (m + tks xs k + st xs k) = m + tks xs (k + 1) := by rw [IntWalk.i64_in _ (by omega), Int.add_assoc]; rfl
      have SS := slY_size (zs := zs) HX.out.1
      have hle : k * 9 + 9 ≤ (slY xs zs).size := by omega
      have hsl := slY_slot (zs := zs) HX.out.1 hkl (k := k * 9) rfl
      have S1 := sl1_size hb8 (st xs k)
      clear SS
      generalize sb xs k = bb at hb8 hsl S1
      have N0 := At.new wr #[.bool false, .bool false, .bool false, .bool false, .bool false, .bool false, .bool false, .bool false, .int .i64 0] 40
      have N1 := N0.setRow (sl1 bb (st xs k))
      have A2 := (A1.alloc (.cells #[.bool false, .bool false, .bool false, .bool false, .bool false, .bool false, .bool false, .bool false, .int .i64 0] 40)).setRow_other (k := wr.heap.size) (Nat.ne_of_lt A1.lt) (sl1 bb (st xs k))
      have B2 := Lib.hid (bset (bnew B1.out (.cells #[.bool false, .bool false, .bool false, .bool false, .bool false, .bool false, .bool false, .bool false, .int .i64 0] 40)) (g := wr.heap.size) B1.out.size (sl1 bb (st xs k)))
      clear B1
      go_wp2_with (first | ((with_reducible refine is_load 40 _ rfl ?_); refine wpList_load_part rfl 40 _ rfl _ (k * 9) rfl (slY xs zs) _ (by with_reducible assumption) 9 (hle) _ Try.underlying40 rfl (by kernel_rfl) (sl1 bb (st xs k)) (hsl) ?_) | ((with_reducible refine is_store 40 _ _ rfl ?_); refine wpList_store_at rfl 40 _ _ rfl _ rfl (sl1 bb (st xs k)) rfl (#[.bool false, .bool false, .bool false, .bool false, .bool false, .bool false, .bool false, .bool false, .int .i64 0]) _ (by with_reducible assumption) 9 (S1) (rfl) (by kernel_rfl) (sl1_one _ _) ?_) | ((with_reducible refine is_load 2 _ rfl ?_); refine wpList_load_cell rfl 2 _ rfl _ 8 rfl (sl1 bb (st xs k)) _ (by with_reducible assumption) _ Try.underlying2 rfl (.int .i64 (st xs k)) (sl1_ticks hb8 _) ?_))
      exact ⟨⟨k + 1, by omega, by go_num, rfl, A2, B2⟩, by simp [intOf]; omega⟩
    · obtain rfl : n = k := by omega
      have ev : cyc xs b = m + tks xs n := by rw [HM.out, HN.out]; rfl
      go_wp2
      go_ret
      exact ⟨by rw [ev]; rfl, B1.out⟩

end Go.Proofs.Ytldchcjnepnjnaa
