/-
  CONTRACTS: in how many ticks of a cycle a movement has green: the checks.
-/
import Derived.Test.YtboahhipobcababG15
namespace Go.Proofs.Ytboahhipobcabab
open Go Go.ChangeShapes Go.WideShapes Go.ChangeAt Go.RowKit
set_option maxRecDepth 100000

/-- in how many ticks of a cycle a movement has green -/
def GT (xs : Slots) (m : Nat) : Int := gSum xs m xs.length
theorem tk_all {xs : Slots} (h : tkOk xs xs.length = true) : ∀ s ∈ xs, 1 ≤ s.2 := by
  intro s hs
  obtain ⟨i, hi, rfl⟩ := List.mem_iff_getElem.1 hs
  have := (tkOk_at hi h).1
  unfold st at this
  rwa [List.getD_eq_getElem?_getD, List.getElem?_eq_getElem hi] at this
theorem GT_cnt {xs : Slots} {b o : Int} (h : okP xs b o = true) (m : Nat) : (cnt (gre b xs m) (cyc xs b).toNat : Int) = GT xs m := by
  obtain ⟨-, hb, ht, -, -⟩ := okP_parts h
  exact gre_count hb.1 (tk_all ht)
theorem GT_bnd {xs : Slots} {b o : Int} (h : okP xs b o = true) (m : Nat) : 0 ≤ GT xs m ∧ GT xs m ≤ 240 := by
  have h1 := GT_cnt h m
  have h2 := cnt_le (gre b xs m) (cyc xs b).toNat
  obtain ⟨-, -, -, hc, ho⟩ := okP_parts h
  omega
theorem gSum_bnd {xs : Slots} {m : Nat} : ∀ {k n : Nat}, k ≤ n → tkOk xs n = true → 0 ≤ gSum xs m k ∧ gSum xs m k ≤ 240 * k
  | 0, n, _, _ => by unfold gSum; omega
  | k + 1, n, h, e => by
    have := gSum_bnd (m := m) (k := k) (n := n) (by omega) e
    have := tkOk_at (k := k) (m := n) (by omega) e
    unfold gSum
    split <;> omega
/-- the code of a plan, a movement and a tick -/
def grC (xs : Slots) (b o k t : Int) : Int := if okP xs b o then (if (inB 0 7 k && inB 0 1000000000 t) = true then (if 0 < GT xs k.toNat then 0 else 6) else 2) else 1
theorem grC_1 {xs : Slots} {b o k t : Int} (h : okP xs b o = false) : grC xs b o k t = 1 := by unfold grC; rw [h]; rfl
theorem grC_2 {xs : Slots} {b o k t : Int} (h : okP xs b o = true) (h2 : (inB 0 7 k && inB 0 1000000000 t) = false) : grC xs b o k t = 2 := by unfold grC; rw [h, h2]; rfl
theorem grC_6 {xs : Slots} {b o t : Int} {m : Nat} (h : okP xs b o = true) (h2 : (inB 0 7 (m : Int) && inB 0 1000000000 t) = true) (h3 : ¬ 0 < GT xs m) : grC xs b o m t = 6 := by unfold grC; rw [h, h2, Int.toNat_natCast, if_neg h3]; rfl
theorem grC_0 {xs : Slots} {b o t : Int} {m : Nat} (h : okP xs b o = true) (h2 : (inB 0 7 (m : Int) && inB 0 1000000000 t) = true) (h3 : 0 < GT xs m) : grC xs b o m t = 0 := by unfold grC; rw [h, h2, Int.toNat_natCast, if_pos h3]; rfl
theorem grC_parts {xs : Slots} {b o k t : Int} (h : grC xs b o k t = 0) : okP xs b o = true ∧ ∃ m : Nat, k = m ∧ m < 8 ∧ (0 ≤ t ∧ t ≤ 1000000000) ∧ 0 < GT xs m := by
  cases ho : okP xs b o
  · rw [grC_1 ho] at h; cases h
  · cases h2 : (inB 0 7 k && inB 0 1000000000 t)
    · rw [grC_2 ho h2] at h; cases h
    · have h3 := h2
      simp only [Bool.and_eq_true, inB, decide_eq_true_eq] at h3
      obtain ⟨m, rfl⟩ : ∃ m : Nat, k = m := ⟨k.toNat, by omega⟩
      refine ⟨rfl, m, rfl, by omega, h3.2, ?_⟩
      by_cases h4 : 0 < GT xs m
      · exact h4
      · rw [grC_6 ho h2 h4] at h; cases h
theorem l04Greens_gt (g : Nat) (T' : TypeId) (G : Nat) (xs : Slots) (b o : Int) (hW : SlW xs) (T : TypeId) (hok : okP xs b o = true) (m : Nat) (hm : m < 8) (w : World) (P0 : At w g (plC (.slice (some ⟨G, 0, none⟩) xs.length xs.length) b o) T') (A0 : At w G (slC xs) T) :
    Calls Try.prog 99 #[.pointer (some ⟨g, 0, none⟩), .int .i64 (m : Int)] w fun e w' => ∃ v, e = .returned (.tuple #[v, .int .i64 (GT xs m)]) ∧ Own1 w' w.heap.size v (cyc xs b).toNat (gL b xs m (cyc xs b).toNat) ∧ Below w.heap.size w w' := by
  have := l04Greens_any g T' G xs b o hW T hok m hm w P0 A0
  rwa [GT_cnt hok m] at this

theorem greenTicks_any (G : Nat) (xs : Slots) (b o : Int) (hW : SlW xs) (T : TypeId) (hlen : xs.length ≤ 8) (htk : tkOk xs xs.length = true) (m : Nat) (hm : m < 8) (w : World) (A0 : At w G (slC xs) T) :
    Calls Try.prog 105 #[.agg (plC (.slice (some ⟨G, 0, none⟩) xs.length xs.length) b o), .int .i64 (m : Int)] w fun e w' => e = .returned (.int .i64 (GT xs m)) ∧ Below w.heap.size w w' := by
  have P0 := At.new w (plC (.slice (some ⟨G, 0, none⟩) xs.length xs.length) b o) 41
  have A1 := A0.alloc (.cells (plC (.slice (some ⟨G, 0, none⟩) xs.length xs.length) b o) 41)
  have B0 := Lib.hid (b0 w (.cells (plC (.slice (some ⟨G, 0, none⟩) xs.length xs.length) b o) 41))
  have HX := Lib.hid (And.intro hW (And.intro hlen htk))
  obtain ⟨n, hnn⟩ : ∃ n, n = xs.length := ⟨_, rfl⟩
  have HN := Lib.hid hnn
  rw [← hnn] at hlen P0 A1 B0 ⊢
  clear hnn hW htk A0
  go_enter Try.func105, Try.ntmps105
  go_wp2_with (first | ((with_reducible refine is_load 39 _ rfl ?_); refine wpList_load_cell rfl 39 _ rfl _ 0 rfl ((plC (.slice (some ⟨G, 0, none⟩) n n) b o)) _ (by with_reducible assumption) _ Try.underlying39 rfl ((.slice (some ⟨G, 0, none⟩) n n)) (plC_0 _ _ _) ?_))
  go_loopw [5, 11] (fun c i wr => ∃ k : Nat, k ≤ n ∧ i = .int .i64 (k : Int) ∧ c = .int .i64 (gSum xs m k) ∧ At wr G (slC xs) T ∧ Hid (Below w.heap.size w wr)) (fun _ i _ => n - (intOf i).toNat)
  case atStart => exact ⟨0, by omega, rfl, rfl, A1, B0⟩
  case round =>
    clear A1 B0 P0
    obtain ⟨k, hk, rfl, rfl, A1, B1⟩ := hrel
    by_cases hlt : k < n
    · have s2 : IntKind.i64.wrap ((k : Int) + 1) = (k : Int) + 1 := IntWalk.i64_in _ (by omega)
      have kd : (k : Int) < (n : Int) := by omega
      have hkl : k < xs.length := by rw [← HN.out]; exact hlt
      have hb8 := (HX.out.1.at hkl).1
      have t1 := gSum_bnd (xs := xs) (m := m) (k := k) (n := xs.length) (by omega) HX.out.2.2
      have t2 := tkOk_at hkl HX.out.2.2
      have hgn : gSum xs m (k + 1) = gSum xs m k + (if bn (sb xs k) m then st xs k else 0) := rfl
      have sa : IntKind.i64.wrap (gSum xs m k + st xs k) = gSum xs m k + st xs k := by rw [IntWalk.i64_in _ (by omega)]
      have SS := slC_size HX.out.1
      have hle : k * 9 + 9 ≤ (slC xs).size := by rw [SS]; omega
      have hsl := slC_slot HX.out.1 hkl (k := k * 9) rfl
      have S1 := sl1_size hb8 (st xs k)
      clear SS
      generalize sb xs k = bb at hb8 hsl S1 hgn
      have N0 := At.new wr #[.bool false, .bool false, .bool false, .bool false, .bool false, .bool false, .bool false, .bool false, .int .i64 0] 107
      have N1 := N0.setRow (sl1 bb (st xs k))
      have ct := N1.cell (sl1_ticks hb8 (st xs k))
      have cg := N1.cell (sl1_green hb8 (st xs k) hm)
      have A2 := (A1.alloc (.cells #[.bool false, .bool false, .bool false, .bool false, .bool false, .bool false, .bool false, .bool false, .int .i64 0] 107)).setRow_other (k := wr.heap.size) (Nat.ne_of_lt A1.lt) (sl1 bb (st xs k))
      have B2 := Lib.hid (bset (bnew B1.out (.cells #[.bool false, .bool false, .bool false, .bool false, .bool false, .bool false, .bool false, .bool false, .int .i64 0] 107)) (g := wr.heap.size) B1.out.size (sl1 bb (st xs k)))
      have HG := Lib.hid hgn
      clear B1 hgn
      generalize bn bb m = x at cg HG
      cases x
      · go_wp2_with (first | ((with_reducible refine is_load 107 _ rfl ?_); refine wpList_load_part rfl 107 _ rfl _ (k * 9) rfl (slC xs) _ (by with_reducible assumption) 9 (hle) _ Try.underlying107 rfl (by kernel_rfl) (sl1 bb (st xs k)) (hsl) ?_) | ((with_reducible refine is_store 107 _ _ rfl ?_); refine wpList_store_at rfl 107 _ _ rfl _ rfl (sl1 bb (st xs k)) rfl (#[.bool false, .bool false, .bool false, .bool false, .bool false, .bool false, .bool false, .bool false, .int .i64 0]) _ (by with_reducible assumption) 9 (S1) (rfl) (by kernel_rfl) (sl1_one _ _) ?_))
        exact ⟨⟨k + 1, by omega, by go_num, by rw [HG.out]; simp, A2, B2⟩, by simp [intOf]; omega⟩
      · go_wp2_with (first | ((with_reducible refine is_load 107 _ rfl ?_); refine wpList_load_part rfl 107 _ rfl _ (k * 9) rfl (slC xs) _ (by with_reducible assumption) 9 (hle) _ Try.underlying107 rfl (by kernel_rfl) (sl1 bb (st xs k)) (hsl) ?_) | ((with_reducible refine is_store 107 _ _ rfl ?_); refine wpList_store_at rfl 107 _ _ rfl _ rfl (sl1 bb (st xs k)) rfl (#[.bool false, .bool false, .bool false, .bool false, .bool false, .bool false, .bool false, .bool false, .int .i64 0]) _ (by with_reducible assumption) 9 (S1) (rfl) (by kernel_rfl) (sl1_one _ _) ?_))
        exact ⟨⟨k + 1, by omega, by go_num, by rw [HG.out]; rfl, A2, B2⟩, by simp [intOf]; omega⟩
    · obtain rfl : n = k := by omega
      have ev : GT xs m = gSum xs m n := by unfold GT; rw [HN.out]
      go_wp2
      go_ret
      exact ⟨by rw [ev]; rfl, B1.out⟩

end Go.Proofs.Ytboahhipobcabab
