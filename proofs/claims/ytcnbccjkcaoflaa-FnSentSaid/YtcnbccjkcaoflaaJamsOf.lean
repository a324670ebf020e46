/-
  CONTRACTS: JamsOf.
-/
import Derived.Test.YtcnbccjkcaoflaaPairs
import Derived.Test.YtcnbccjkcaoflaaFlow
import Derived.OwnWalk
namespace Go.Proofs.Ytcnbccjkcaoflaa
open Go Go.RowKit
set_option maxRecDepth 100000

def vJams (cs : List Nat) (p b l : Nat) : List Nat := if okB cs p b l then jf (bestW p b) cs 16 else []
def JR (w w' : World) (xs : List Nat) (c : Int) (e : Ending) : Prop := ∃ v n, e = .returned (.tuple #[v, .int .i64 c]) ∧ Own2 w' w.heap.size v n xs ∧ n ≤ 16 ∧ Below w.heap.size w w'
theorem JR.mk {w w' : World} {xs : List Nat} {c : Int} {e : Ending} (v : Value) (n : Nat) (he : e = .returned (.tuple #[v, .int .i64 c])) (ho : Own2 w' w.heap.size v n xs) (hn : n ≤ 16) (hb : Below w.heap.size w w') : JR w w' xs c e := ⟨v, n, he, ho, hn, hb⟩
theorem pair_cells (w : World) (x y : Value) (t : TypeId) : ∀ j u, [x, y][j]? = some u → (w.alloc (.cells #[x, y] t)).cell? (Addr.add ⟨w.heap.size, 0, none⟩ j) = some u := by
  intro j u h
  have hA := At.new w #[x, y] t
  match j, h with
  | 0, h => exact hA.cell (k := 0) (by simpa using h)
  | 1, h => exact hA.cell (k := 1) (by simpa using h)
  | j + 2, h => simp at h
theorem At.low {w w' : World} {g : Nat} {c : Array Value} {T : TypeId} {B : Nat} (h : At w g c T) (hb : Below B w w') (hg : g < B) : At w' g c T := (hb.block g hg).trans h

set_option maxHeartbeats 2000000 in
theorem JamsOf_any (cs : List Nat) (p b l : Nat) (hl : cs.length = 16) (hc : ∀ x ∈ cs, x < 4294967296) (hp : p < 4294967296) (hb : b < 4294967296) (hla : l < 4294967296) (w : World) :
    Calls Try.prog 10 #[.agg (rd cs p b l)] w fun e w' => JR w w' (vJams cs p b l) ((if okB cs p b l then 0 else 1)) e := by
  have A0 := At.new w (rd cs p b l) 28
  have B0 := Lib.hid (b0 w (.cells (rd cs p b l) 28))
  unfold vJams
  cases h : okB cs p b l
  · have hx : True := trivial
    go_enter Try.func10, Try.ntmps10
    go_wp2_with (((with_reducible refine is_load 28 _ rfl ?_); refine wpList_load_at rfl 28 _ rfl _ rfl (rd cs p b l) _ A0 19 (rd_size hl p b l) _ Try.underlying28 rfl (by kernel_rfl) ?_))
    refine (ValidRoad_any cs p b l hl hc hp hb hla _).mono ?_
    rw [h]
    rintro e w1 ⟨rfl, hb1⟩
    have B1 := Lib.hid (bthen B0.out hb1)
    go_wp2_with fail
    go_ret2
    exact JR.mk _ 0 rfl (Own2.nil _ _) (by omega) B1.out
  have ok := OkR.of hl h
  have hi0 : (Try.prog.info? 41).map (fun i => (i.zero, i.size, i.bytes)) = some (some (.agg #[.int .i64 0, .int .i64 0]), 2, 16) := by kernel_rfl
  obtain ⟨i0, hi, hz0, hz1, hz2⟩ := info_parts hi0
  have hz3 : (Value.agg #[.int .i64 0, .int .i64 0]).cells.size = 2 := rfl
  have HH := Lib.hid (And.intro hc (And.intro hp (And.intro hb hla)))
  go_enter Try.func10, Try.ntmps10
  go_wp2_with (((with_reducible refine is_load 28 _ rfl ?_); refine wpList_load_at rfl 28 _ rfl _ rfl (rd cs p b l) _ A0 19 (rd_size hl p b l) _ Try.underlying28 rfl (by kernel_rfl) ?_))
  refine (ValidRoad_any cs p b l hl hc hp hb hla _).mono ?_
  rw [h]
  rintro e w1 ⟨rfl, hb1⟩
  have A1 := A0.step hb1
  have B1 := Lib.hid (bthen B0.out hb1)
  clear A0 B0 hb1
  go_wp2_with (((with_reducible refine is_load 28 _ rfl ?_); refine wpList_load_at rfl 28 _ rfl _ rfl (rd cs p b l) _ A1 19 (rd_size hl p b l) _ Try.underlying28 rfl (by kernel_rfl) ?_))
  refine (bestShare_any cs p b l ok _).mono ?_
  rintro e w2 ⟨rfl, hb2⟩
  have A2 := A1.step hb2
  have B2 := Lib.hid (bthen B1.out hb2)
  clear A1 B1 hb2
  go_wp2
  have O2 := Own2.nil w2 (w.heap.size + 1)
  clear hc hp hb hla HH
  go_loopw [13, 5] (fun i v wr => ∃ k n : Nat, k ≤ 16 ∧ i = .int .i64 (k : Int) ∧ n ≤ k ∧ Own2 wr (w.heap.size + 1) v n (jf (bestW p b) cs k) ∧ At wr w.heap.size (rd cs p b l) 28 ∧ Hid (Below w.heap.size w wr)) (fun i _ _ => 16 - (intOf i).toNat)
  case atStart => exact ⟨0, 0, by omega, rfl, by omega, O2, A2, B2⟩
  case round =>
    clear A2 B2 O2
    obtain ⟨k, n, hk, rfl, hnk, O1, A1, B1⟩ := hrel
    by_cases hk16 : k < 16
    · skip
      have kd : decide ((k : Int) < 16) = true := decide_eq_true (by omega)
      have s2 : IntKind.i64.wrap ((k : Int) + 1) = (k : Int) + 1 := IntWalk.i64_in _ (by omega)
      have s3 : IntKind.i64.wrap ((k : Int) - 1) = (k : Int) - 1 := IntWalk.i64_in _ (by omega)
      have cc := A1.cell (rd_cell ok.len p b l hk16)
      have hcar := ok.car k
      have hbest := best_amt ok.pace ok.back
      have cmp := le_amt (x := nth cs k) (y := bestW p b) (by omega) (by omega)
      obtain ⟨a0, cap, rfl⟩ := O1.any
      have hlen := O1.len
      have sn : IntKind.i64.wrap ((n : Int) - 1) = (n : Int) - 1 := IntWalk.i64_in _ (by omega)
      by_cases hle : nth cs k ≤ bestW p b
      · have hjf := jf_free hle
        rw [decide_eq_true hle] at cmp
        clear hle hcar hbest
        generalize bestW p b = bw at *
        generalize nth cs k = ck at cmp cc
        go_wp2
        exact ⟨⟨k + 1, n, by omega, by go_num, by omega, by rw [hjf]; exact O1, A1, B1⟩, by simp [intOf]; omega⟩
      · rw [decide_eq_false hle] at cmp
        clear hcar hbest
        have hnew := jf_new hle
        have hmore := jf_more hle
        clear hle
        generalize bestW p b = bw at *
        generalize nth cs k = ck at cmp cc
        generalize hJ : jf bw cs k = js at O1 hlen hnew hmore
        clear hJ
        by_cases hn0 : n = 0
        · subst hn0
          have hjf := hnew (by omega)
          clear hmore hnew
          have al := A1.lt
          go_wp2_with (first | ((with_reducible refine is_build 41 _ rfl ?_); refine wpList_build2 rfl 41 0 1 _ _ rfl _ _ rfl rfl _ (built_two (k : Int) (k : Int)) ?_) | ((with_reducible refine is_bslice 36 1 _ rfl ?_); refine wpList_bslice rfl 36 1 _ rfl #[(0, .agg #[.int .i64 (k : Int), .int .i64 (k : Int)])] rfl _ (run_pairs _ (k : Int) (k : Int)) ?_) | (at_builtin; go_loud (refine wpList_append_own _ rfl _ _ 36 rfl (w.heap.size + 1) 41 i0 (.agg #[.int .i64 0, .int .i64 0]) 2 16 Try.underlying36 hi hz0 hz1 hz2 hz3 (by decide) _ 0 _ rfl (O1.step (b0 _ _)) ⟨wr.heap.size, 0, none⟩ 1 1 [.int .i64 (k : Int), .int .i64 (k : Int)] rfl rfl (pair_cells _ _ _ _) (fun u hu => by simp at hu; rcases hu with rfl | rfl <;> rfl) (by unfold maxLen; omega) (by omega) (by simp; omega) ?_)))
          intro v' w' hown hgrow _
          have O2 : Own2 w' (w.heap.size + 1) v' (0 + 1) (js ++ [k, k]) := by
            have := hown
            unfold Own2
            rw [iv_app]
            exact this
          have hb2 : Below (w.heap.size + 1) (wr.alloc (.cells #[.int .i64 (k : Int), .int .i64 (k : Int)] 41)) w' := Below.grownBy hgrow (by simp; omega) (O1.block)
          have A2 := (A1.alloc (.cells #[.int .i64 (k : Int), .int .i64 (k : Int)] 41)).low hb2 (by omega)
          have B2 := Lib.hid ((bnew B1.out (.cells #[.int .i64 (k : Int), .int .i64 (k : Int)] 41)).trans (hb2.mono (by omega)))
          clear hown hgrow hb2 O1 A1 B1
          go_wp2
          exact ⟨⟨k + 1, 0 + 1, by omega, by go_num, by omega, by rw [hjf]; exact O2, A2, B2⟩, by simp [intOf]; omega⟩
        · obtain ⟨g, cap', cur, hv, hg, hA, hsz, hcap, hcell, hset⟩ := O1.at hn0
          obtain ⟨rfl, rfl⟩ : a0 = some ⟨g, 0, none⟩ ∧ cap = cap' := by simpa using hv
          have hlast := hcell (2 * n - 1) (by omega)
          have hnn : (0 : Int) ≤ (n : Int) - 1 := by omega
          have hnd : decide ((0 : Int) ≤ (n : Int) - 1) = true := decide_eq_true hnn
          have hadr3 : Hid ((n - 1) * 2 + 1 = 2 * n - 1) := Lib.hid (by omega)
          have hcl : wr.cell? ⟨g, (n - 1) * 2 + 1, none⟩ = some (.int .i64 ((nth js (2 * n - 1) : Nat) : Int)) := by rw [hadr3.out]; exact hA.cell hlast
          by_cases hq : nth js (2 * n - 1) + 1 = k
          · have hqd : decide (((nth js (2 * n - 1) : Nat) : Int) = (k : Int) - 1) = true := decide_eq_true (by omega)
            have hqd' : ((((nth js (2 * n - 1) : Nat) : Int)) == (k : Int) - 1) = true := by simp; omega
            have hjf := hmore ⟨by omega, by rw [hlen]; exact hq⟩
            rw [hlen] at hjf
            clear hmore hnew hq
            have O2 := hset (2 * n - 1) k (by omega)
            have A2 := A1.setRow_other (k := g) (by have := hg; omega) (cur.setIfInBounds (2 * n - 1) (.int .i64 (k : Int)))
            have B2 := Lib.hid (bset B1.out (g := g) (by omega) (cur.setIfInBounds (2 * n - 1) (.int .i64 (k : Int))))
            have G2 := Lib.hid (run_storeAt_one (P := Try.prog) wr g (2 * n - 1) 41 2 cur (.int .i64 (k : Int)) hA (by kernel_rfl) (by omega) rfl)
            clear hset hcell O1 A1 B1
            go_wp2_with ((with_reducible refine is_store 2 (.tmp 41) (.tmp 39) rfl ?_); refine wpList_store_of rfl 2 (.tmp 41) (.tmp 39) rfl ⟨g, 2 * n - 1, none⟩ (by simp only [Act.eval]; exact congrArg (fun q => Value.pointer (some ⟨g, q, none⟩)) hadr3.out) (.int .i64 (k : Int)) rfl _ G2.out ?_)
            exact ⟨⟨k + 1, n, by omega, by go_num, by omega, by rw [hjf]; exact O2, A2, B2⟩, by simp [intOf]; omega⟩
          · have hjf := hnew (by rintro ⟨-, h2⟩; rw [hlen] at h2; exact hq h2)
            clear hmore hnew
            have al := A1.lt
            have hqd : decide (((nth js (2 * n - 1) : Nat) : Int) = (k : Int) - 1) = false := decide_eq_false (by omega)
            have hqd' : ((((nth js (2 * n - 1) : Nat) : Int)) == (k : Int) - 1) = false := by simp; omega
            clear hq hset hcell
            go_wp2_with (first | ((with_reducible refine is_build 41 _ rfl ?_); refine wpList_build2 rfl 41 0 1 _ _ rfl _ _ rfl rfl _ (built_two (k : Int) (k : Int)) ?_) | ((with_reducible refine is_bslice 36 1 _ rfl ?_); refine wpList_bslice rfl 36 1 _ rfl #[(0, .agg #[.int .i64 (k : Int), .int .i64 (k : Int)])] rfl _ (run_pairs _ (k : Int) (k : Int)) ?_) | (at_builtin; go_loud (refine wpList_append_own _ rfl _ _ 36 rfl (w.heap.size + 1) 41 i0 (.agg #[.int .i64 0, .int .i64 0]) 2 16 Try.underlying36 hi hz0 hz1 hz2 hz3 (by decide) _ n _ rfl (O1.step (b0 _ _)) ⟨wr.heap.size, 0, none⟩ 1 1 [.int .i64 (k : Int), .int .i64 (k : Int)] rfl rfl (pair_cells _ _ _ _) (fun u hu => by simp at hu; rcases hu with rfl | rfl <;> rfl) (by unfold maxLen; omega) (by omega) (by simp; omega) ?_)))
            intro v' w' hown hgrow _
            have O2 : Own2 w' (w.heap.size + 1) v' (n + 1) (js ++ [k, k]) := by
              have := hown
              unfold Own2
              rw [iv_app]
              exact this
            have hb2 : Below (w.heap.size + 1) (wr.alloc (.cells #[.int .i64 (k : Int), .int .i64 (k : Int)] 41)) w' := Below.grownBy hgrow (by simp; omega) (O1.block)
            have A2 := (A1.alloc (.cells #[.int .i64 (k : Int), .int .i64 (k : Int)] 41)).low hb2 (by omega)
            have B2 := Lib.hid ((bnew B1.out (.cells #[.int .i64 (k : Int), .int .i64 (k : Int)] 41)).trans (hb2.mono (by omega)))
            clear hown hgrow hb2 O1 A1 B1
            go_wp2
            exact ⟨⟨k + 1, n + 1, by omega, by go_num, by omega, by rw [hjf]; exact O2, A2, B2⟩, by simp [intOf]; omega⟩
    · obtain rfl : k = 16 := by omega
      obtain ⟨a0, cap, rfl⟩ := O1.any
      go_wp2
      go_ret2
      exact JR.mk _ n rfl (O1.low (by omega)) (by omega) B1.out

end Go.Proofs.Ytcnbccjkcaoflaa
