/-
  CONTRACTS: which roads are used, as the model asks it.
-/
import Derived.Test.YtboahhipobcabaaGreatTnP
namespace Go.Proofs.YtboahhipobcabaaGreat
open Go Go.ChangeShapes Go.WideShapes Go.ChangeAt Go.RowKit
set_option maxRecDepth 100000

/-- all is as it was, but one block -/
structure Ex (gu : Nat) (W w : World) : Prop where
  os : w.os = W.os
  tape : w.tape = W.tape
  output : w.output = W.output
  size : W.heap.size ≤ w.heap.size
  block : ∀ k, k < W.heap.size → k ≠ gu → w.heap[k]? = W.heap[k]?

theorem Ex.refl (gu : Nat) (W : World) : Ex gu W W := ⟨rfl, rfl, rfl, Nat.le_refl _, fun _ _ _ => rfl⟩

theorem Ex.drewN {gu : Nat} {W w : World} (h : Ex gu W w) (n : Nat) : Ex gu W (w.drewN n) := ⟨h.1, h.2, h.3, h.4, h.5⟩

theorem Ex.set {gu : Nat} {W w : World} (h : Ex gu W w) (c : Array Value) : Ex gu W (w.setRow gu c) := by
  have hb := Below.setRow (Below.refl 0 w) (Nat.zero_le gu) c
  exact ⟨hb.1.trans h.1, hb.2.trans h.2, hb.3.trans h.3, Nat.le_trans h.4 hb.size, fun k hk hn => (heap_setRow_other w gu k c hn).trans (h.5 k hk hn)⟩

theorem Ex.at {gu : Nat} {W w : World} (h : Ex gu W w) {g : Nat} {c : Array Value} {T : TypeId} (hA : At W g c T) (hn : g ≠ gu) : At w g c T := by
  exact (h.5 g hA.lt hn).trans hA

/-- the marks of those that are seen -/
def mkS (n : Nat) (seen : List Int) : List Bool := (List.range n).map fun k : Nat => decide ((k : Int) ∈ seen)

theorem mkS_len (n : Nat) (seen : List Int) : (mkS n seen).length = n := by simp [mkS]

theorem mkS_at {n k : Nat} (h : k < n) (seen : List Int) : (bl (mkS n seen))[k]? = some (.bool (decide ((k : Int) ∈ seen))) := by
  unfold bl mkS
  simp [List.getElem?_range h, h]

theorem mkS_set {n k : Nat} (_h : k < n) (seen : List Int) : (bl (mkS n seen)).setIfInBounds k (.bool true) = bl (mkS n (seen ++ [(k : Int)])) := by
  apply Array.ext'
  unfold bl mkS
  simp only [Array.toList_setIfInBounds, List.map_map]
  apply List.ext_getElem?
  intro i
  rw [List.getElem?_set]
  by_cases c : k = i
  · subst c
    rw [if_pos rfl]
    simp [_h]
  · rw [if_neg c]
    by_cases d : i < n
    · simp [List.getElem?_range d, d]
      congr 1
      simp [show ¬ (i : Int) = (k : Int) from by omega]
    · rw [List.getElem?_eq_none (by simp; omega), List.getElem?_eq_none (by simp; omega)]

def useK (n : Nat) (seen xs : List Int) (t : Nat) : Bool := ixB n (ith xs t) && !decide (ith xs t ∈ seen ++ xs.take t)
def useB (n : Nat) (seen xs : List Int) : Bool := allN (useK n seen xs) xs.length

theorem inB_ix (n : Nat) (x : Int) : inB 0 ((n : Int) - 1) x = ixB n x := by
  unfold inB ixB
  exact decide_eq_decide.2 ⟨fun h => ⟨h.1, by omega⟩, fun h => ⟨h.1, by omega⟩⟩

set_option maxHeartbeats 2000000 in
theorem l06Used_at (gl gu n : Nat) (hne : gl ≠ gu) (hn : n ≤ 1048576) (xs seen : List Int) (hm : xs.length ≤ 1048576) (hI : ∀ x ∈ xs, I64j x) (Tl : TypeId) (w : World) (hL : At w gl (il xs) Tl) (hU : At w gu (bl (mkS n seen)) 4) :
    Calls Tryz.prog 115 #[.slice (some ⟨gl, 0, none⟩) xs.length xs.length, .slice (some ⟨gu, 0, none⟩) n n] w fun e w' => e = .returned (.bool (useB n seen xs)) ∧ (useB n seen xs = true → At w' gu (bl (mkS n (seen ++ xs))) 4) ∧ Ex gu w w' := by
  unfold useB
  obtain ⟨m, hmm⟩ : ∃ m, m = xs.length := ⟨_, rfl⟩
  obtain ⟨f, hf⟩ : ∃ f, f = useK n seen xs := ⟨_, rfl⟩
  rw [← hmm, ← hf]
  rw [← hmm] at hm
  have HM := Lib.hid hmm
  have HF := Lib.hid hf
  have HI := Lib.hid hI
  have HL := Lib.hid hL
  have U0 : At w gu (bl (mkS n (seen ++ xs.take 0))) 4 := by rw [List.take_zero, List.append_nil]; exact hU
  have HU := Lib.hid U0
  have s1 : IntKind.i64.wrap ((n : Int) - 1) = (n : Int) - 1 := IntWalk.i64_in _ (by omega)
  clear hmm hf hI hL hU U0
  go_enter Tryz.func115, Tryz.ntmps115
  go_wp2_with fail
  go_loopw [5] (fun i wr => ∃ t : Nat, t ≤ m ∧ i = .int .i64 (t : Int) ∧ At wr gu (bl (mkS n (seen ++ xs.take t))) 4 ∧ Hid (allN f t = true) ∧ Hid (Ex gu w wr)) (fun i _ => m - (intOf i).toNat)
  case atStart => exact ⟨0, by omega, rfl, HU.out, Lib.hid rfl, Lib.hid (Ex.refl _ _)⟩
  case round =>
    clear HU
    obtain ⟨t, ht, rfl, U1, hok, B1⟩ := hrel
    by_cases hlt : t < m
    · have s2 : IntKind.i64.wrap ((t : Int) + 1) = (t : Int) + 1 := IntWalk.i64_in _ (by omega)
      have kd : (t : Int) < (m : Int) := by omega
      have htx : t < xs.length := by rw [← HM.out]; exact hlt
      have L1 := B1.out.at HL.out hne
      have dt := il_get htx
      have hts := take_snoc xs htx
      have hft : f t = (ixB n (ith xs t) && !decide (ith xs t ∈ seen ++ xs.take t)) := by rw [HF.out]; rfl
      have KI := fun w' => l00In_b (ith xs t) 0 ((n : Int) - 1) w'
      rw [inB_ix] at KI
      clear htx
      generalize ith xs t = x at *
      cases hx : ixB n x
      · rw [hx] at KI hft
        have hv := Lib.hid (allN_at hlt (hft.trans (Bool.false_and _)))
        clear hok hft hts hx
        go_wp2_with (first | ((with_reducible refine is_load 2 _ rfl ?_); refine wpList_load_cell rfl 2 _ rfl _ t rfl (il xs) _ (by with_reducible assumption) _ Tryz.underlying2 rfl (.int .i64 x) (dt) ?_) | ((with_reducible refine is_load 2 _ rfl ?_); refine wpList_load_cell_g rfl 2 _ rfl _ t rfl (il xs) _ (by with_reducible assumption) _ Tryz.underlying2 rfl (.int .i64 x) (dt) ?_))
        refine (KI _).mono ?_
        rintro e w3 ⟨rfl, n3, rfl⟩
        have B3 := Lib.hid (B1.out.drewN n3)
        clear KI dt L1 U1 B1
        go_wp2_with fail
        go_ret
        exact ⟨by rw [hv.out]; rfl, fun h => Bool.noConfusion (hv.out.symm.trans h), B3.out⟩
      · rw [hx, Bool.true_and] at hft
        rw [hx] at KI
        obtain ⟨q, hq, rfl⟩ : ∃ q : Nat, q < n ∧ x = (q : Int) := by
          have := of_decide_eq_true hx
          exact ⟨x.toNat, by omega, by omega⟩
        have kq : (q : Int) < (n : Int) := by omega
        have dq := mkS_at hq (seen ++ xs.take t)
        have hset := mkS_set hq (seen ++ xs.take t)
        rw [List.append_assoc, ← hts] at hset
        clear hx hts
        generalize decide ((q : Int) ∈ seen ++ xs.take t) = d at *
        cases d
        · have hv := Lib.hid (allN_next hok.out hft)
          clear hok hft
          go_wp2_with (first | ((with_reducible refine is_load 2 _ rfl ?_); refine wpList_load_cell rfl 2 _ rfl _ t rfl (il xs) _ (by with_reducible assumption) _ Tryz.underlying2 rfl (.int .i64 (q : Int)) (dt) ?_) | ((with_reducible refine is_load 2 _ rfl ?_); refine wpList_load_cell_g rfl 2 _ rfl _ t rfl (il xs) _ (by with_reducible assumption) _ Tryz.underlying2 rfl (.int .i64 (q : Int)) (dt) ?_))
          refine (KI _).mono ?_
          rintro e w3 ⟨rfl, n3, rfl⟩
          have L3 := L1.drewN n3
          have U3 := U1.drewN n3
          have U4 := U3.setRow (bl (mkS n (seen ++ xs.take (t + 1))))
          have B4 := Lib.hid ((B1.out.drewN n3).set (bl (mkS n (seen ++ xs.take (t + 1)))))
          clear KI L1 U1 B1
          generalize wr.drewN n3 = w3 at *
          go_wp2_with (first | ((with_reducible refine is_load 2 _ rfl ?_); refine wpList_load_cell rfl 2 _ rfl _ t rfl (il xs) _ (by with_reducible assumption) _ Tryz.underlying2 rfl (.int .i64 (q : Int)) (dt) ?_) | ((with_reducible refine is_load 2 _ rfl ?_); refine wpList_load_cell_g rfl 2 _ rfl _ t rfl (il xs) _ (by with_reducible assumption) _ Tryz.underlying2 rfl (.int .i64 (q : Int)) (dt) ?_) | ((with_reducible refine is_load 4 _ rfl ?_); refine wpList_load_cell_g rfl 4 _ rfl _ q rfl (bl (mkS n (seen ++ xs.take t))) _ (by with_reducible assumption) _ Tryz.underlying4 rfl (.bool false) (dq) ?_) | ((with_reducible refine is_store 4 _ _ rfl ?_); refine wpList_store_cell rfl 4 _ _ rfl _ q rfl (.bool true) rfl (bl (mkS n (seen ++ xs.take t))) _ (by with_reducible assumption) (by rw [bl_size, mkS_len]; omega) (by kernel_rfl) rfl (bl (mkS n (seen ++ xs.take (t + 1)))) (hset) ?_))
          exact ⟨⟨t + 1, by omega, by go_num, U4, hv, B4⟩, by simp [intOf]; omega⟩
        · have hv := Lib.hid (allN_at hlt hft)
          clear hok hft
          go_wp2_with (first | ((with_reducible refine is_load 2 _ rfl ?_); refine wpList_load_cell rfl 2 _ rfl _ t rfl (il xs) _ (by with_reducible assumption) _ Tryz.underlying2 rfl (.int .i64 (q : Int)) (dt) ?_) | ((with_reducible refine is_load 2 _ rfl ?_); refine wpList_load_cell_g rfl 2 _ rfl _ t rfl (il xs) _ (by with_reducible assumption) _ Tryz.underlying2 rfl (.int .i64 (q : Int)) (dt) ?_))
          refine (KI _).mono ?_
          rintro e w3 ⟨rfl, n3, rfl⟩
          have L3 := L1.drewN n3
          have U3 := U1.drewN n3
          have B4 := Lib.hid (B1.out.drewN n3)
          clear KI L1 U1 B1
          generalize wr.drewN n3 = w3 at *
          go_wp2_with (first | ((with_reducible refine is_load 2 _ rfl ?_); refine wpList_load_cell rfl 2 _ rfl _ t rfl (il xs) _ (by with_reducible assumption) _ Tryz.underlying2 rfl (.int .i64 (q : Int)) (dt) ?_) | ((with_reducible refine is_load 2 _ rfl ?_); refine wpList_load_cell_g rfl 2 _ rfl _ t rfl (il xs) _ (by with_reducible assumption) _ Tryz.underlying2 rfl (.int .i64 (q : Int)) (dt) ?_) | ((with_reducible refine is_load 4 _ rfl ?_); refine wpList_load_cell_g rfl 4 _ rfl _ q rfl (bl (mkS n (seen ++ xs.take t))) _ (by with_reducible assumption) _ Tryz.underlying4 rfl (.bool true) (dq) ?_) | ((with_reducible refine is_store 4 _ _ rfl ?_); refine wpList_store_cell rfl 4 _ _ rfl _ q rfl (.bool true) rfl (bl (mkS n (seen ++ xs.take t))) _ (by with_reducible assumption) (by rw [bl_size, mkS_len]; omega) (by kernel_rfl) rfl (bl (mkS n (seen ++ xs.take (t + 1)))) (hset) ?_))
          go_ret
          exact ⟨by rw [hv.out]; rfl, fun h => Bool.noConfusion (hv.out.symm.trans h), B4.out⟩
    · obtain rfl : m = t := by omega
      have he : xs.take m = xs := by rw [HM.out, List.take_length]
      rw [he] at U1
      clear he
      go_wp2_with fail
      go_ret
      exact ⟨by rw [hok.out]; rfl, fun _ => U1, B1.out⟩

end Go.Proofs.YtboahhipobcabaaGreat
