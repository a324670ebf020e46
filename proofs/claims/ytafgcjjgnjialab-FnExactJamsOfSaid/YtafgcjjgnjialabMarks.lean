/-
  CONTRACTS: how a law compares, marks and holds slices of pairs.
-/
import Derived.Test.YtafgcjjgnjialabPairs
import Derived.Test.YtafgcjjgnjialabEq
import Derived.Test.YtafgcjjgnjialabHeldOps
import Derived.OwnWalk
namespace Go.Proofs.Ytafgcjjgnjialab
open Go Go.RowKit
set_option maxRecDepth 100000
theorem run_indexP {P : Program} (w : World) (ty e : TypeId) (g off n cap k s : Nat) (hu : P.underlying ty = some (.slice e)) (he : (P.info? e).map (·.size) = some s) (hk : k < n) :
    (Instr.indexAt ty (.slice (some ⟨g, off, none⟩) n cap) (.int .i64 (k : Int))).run P w = .ok (.pointer (some ⟨g, off + k * s, none⟩)) w := by
  cases hq : P.info? e with
  | none => simp [hq] at he
  | some i =>
    have hs : i.size = s := by simpa [hq] using he
    by_cases h0 : k * s = 0
    · simp [Instr.indexAt, asIntOf, run_underlying hu, hk, sizeOf, typeInfo, hq, hs, Addr.add, h0]
    · simp [Instr.indexAt, asIntOf, run_underlying hu, hk, sizeOf, typeInfo, hq, hs, Addr.add, h0]
theorem ext_two {c : Array Value} {o : Nat} {x y : Value} (h1 : c[o]? = some x) (h2 : c[o + 1]? = some y) : c.extract o (o + 2) = #[x, y] := by
  obtain ⟨a1, b1⟩ := Array.getElem?_eq_some_iff.1 h1
  obtain ⟨a2, b2⟩ := Array.getElem?_eq_some_iff.1 h2
  apply Array.ext
  · simp; omega
  · intro i hi1 hi2
    have : i < 2 := by simpa using hi2
    rcases (by omega : i = 0 ∨ i = 1) with rfl | rfl
    · simpa using b1
    · simpa using b2

theorem eqA2_same (x y : Int) (w : World) :
    Calls Try.prog 87 #[.agg #[.int .i64 x, .int .i64 y], .agg #[.int .i64 x, .int .i64 y]] w fun e w' => e = .returned (.bool true) ∧ Below w.heap.size w w' := by
  go_enter Try.func87, Try.ntmps87
  go_wp2
  go_loopw [5] (fun i wr => ∃ k : Nat, k ≤ 2 ∧ i = .int .i64 (k : Int) ∧ Two w #[.int .i64 x, .int .i64 y] 63 #[.int .i64 x, .int .i64 y] 63 wr) (fun i _ => 2 - (intOf i).toNat)
  case atStart => exact ⟨0, by omega, rfl, Two.mk _ _ _ _ _⟩
  case round =>
    obtain ⟨k, hk, rfl, hT⟩ := hrel
    by_cases hlt : k < 2
    · have hz : ∃ z : Int, (#[.int .i64 x, .int .i64 y] : Array Value)[k]? = some (.int .i64 z) := by
        rcases (by omega : k = 0 ∨ k = 1) with rfl | rfl
        · exact ⟨x, rfl⟩
        · exact ⟨y, rfl⟩
      obtain ⟨z, hz⟩ := hz
      have g1 := hT.cell1 hz
      have g2 := hT.cell2 hz
      go_wp2
      go_quiet (fail)
      go_wp2
      exact ⟨⟨k + 1, by omega, by go_num, hT.drewN _⟩, by simp [intOf]; omega⟩
    · go_wp2
      go_ret
      exact ⟨rfl, hT.2.2⟩

theorem eqA2S_same {lo1 lo2 : Nat} {v1 v2 : Value} {n : Nat} {xs : List Nat} {w : World} (O1 : Own2 w lo1 v1 n xs) (O2 : Own2 w lo2 v2 n xs) (hn : n ≤ 16) :
    Calls Try.prog 30 #[v1, v2] w fun e w' => e = .returned (.bool true) ∧ Below w.heap.size w w' := by
  have HO := Lib.hid (And.intro O1 O2)
  obtain ⟨a1, c1, rfl⟩ := O1.any
  obtain ⟨a2, c2, rfl⟩ := O2.any
  clear O1 O2
  go_enter Try.func30, Try.ntmps30
  go_wp2
  go_loopw [5] (fun i wr => ∃ k : Nat, k ≤ n ∧ i = .int .i64 (k : Int) ∧ Hid (Below w.heap.size w wr)) (fun i _ => n - (intOf i).toNat)
  case atStart => exact ⟨0, by omega, rfl, Lib.hid (Below.refl _ _)⟩
  case round =>
    obtain ⟨k, hk, rfl, B1⟩ := hrel
    by_cases hlt : k < n
    · have s2 : IntKind.i64.wrap ((k : Int) + 1) = (k : Int) + 1 := IntWalk.i64_in _ (by omega)
      have kd : (k : Int) < (n : Int) := by omega
      obtain ⟨g1, c1', cur1, hv1, -, A1, hs1, -, hcell1, -⟩ := (HO.out.1.step B1.out).at (by omega)
      obtain ⟨rfl, rfl⟩ : a1 = some ⟨g1, 0, none⟩ ∧ c1 = c1' := by simpa using hv1
      obtain ⟨g2, c2', cur2, hv2, -, A2, hs2, -, hcell2, -⟩ := (HO.out.2.step B1.out).at (by omega)
      obtain ⟨rfl, rfl⟩ : a2 = some ⟨g2, 0, none⟩ ∧ c2 = c2' := by simpa using hv2
      have L1 : ∀ w', Below wr.heap.size wr w' → (Instr.loadAt 63 (.pointer (some ⟨g1, 0 + k * 2, none⟩))).run Try.prog w' = .ok (.agg #[.int .i64 ((nth xs (k * 2) : Nat) : Int), .int .i64 ((nth xs (k * 2 + 1) : Nat) : Int)]) w' := by
        intro w' hb
        have := run_loadAt_part (P := Try.prog) w' g1 (0 + k * 2) 2 63 cur1 63 (0, 0) _ (A1.step hb) Try.underlying63 rfl (by kernel_rfl) (by omega)
        rw [this, ext_two (o := 0 + k * 2) (by rw [show 0 + k * 2 = k * 2 from by omega]; exact hcell1 (k * 2) (by omega)) (by rw [show 0 + k * 2 + 1 = k * 2 + 1 from by omega]; exact hcell1 (k * 2 + 1) (by omega))]
      have L2 : ∀ w', Below wr.heap.size wr w' → (Instr.loadAt 63 (.pointer (some ⟨g2, 0 + k * 2, none⟩))).run Try.prog w' = .ok (.agg #[.int .i64 ((nth xs (k * 2) : Nat) : Int), .int .i64 ((nth xs (k * 2 + 1) : Nat) : Int)]) w' := by
        intro w' hb
        have := run_loadAt_part (P := Try.prog) w' g2 (0 + k * 2) 2 63 cur2 63 (0, 0) _ (A2.step hb) Try.underlying63 rfl (by kernel_rfl) (by omega)
        rw [this, ext_two (o := 0 + k * 2) (by rw [show 0 + k * 2 = k * 2 from by omega]; exact hcell2 (k * 2) (by omega)) (by rw [show 0 + k * 2 + 1 = k * 2 + 1 from by omega]; exact hcell2 (k * 2 + 1) (by omega))]
      clear hcell1 hcell2 A1 A2 hs1 hs2 hv1 hv2
      go_wp2
      refine wp_region_held (S := fun w' => Below wr.heap.size wr w') (by kernel_rfl) ?_
      show wpAnyH _ _ _ _ _ 10 (Array.replicate 10 false) _ _
      have S0 : Below wr.heap.size wr { wr with drawn := wr.drawn + 1 } := bdrew (Below.refl _ wr) 1
      generalize hw0 : ({ wr with drawn := wr.drawn + 1 } : World) = w0 at S0 ⊢
      clear hw0
      refine wpAnyH_take (i := 0) (v := .slice (some ⟨g1, 0, none⟩) n c1) rfl (by kernel_rfl) (by kernel_rfl) (by kernel_rfl) (fun _ _ _ h => h) (yif rfl fun w' hw' => hx_move (.tmp 0) rfl (by kernel_rfl)) (by assumption) ?_
      refine wpAnyH_take (i := 1) (v := .int .i64 (k : Int)) rfl (by kernel_rfl) (by kernel_rfl) (by kernel_rfl) (fun _ _ _ h => h) (yif rfl fun w' hw' => hx_move (.tmp 5) rfl (by kernel_rfl)) (by assumption) ?_
      refine wpAnyH_take (i := 2) (v := .pointer (some ⟨g1, 0 + k * 2, none⟩)) rfl (by kernel_rfl) (by kernel_rfl) (by kernel_rfl) (fun _ _ _ h => h) (yif rfl fun w' hw' => hx_index 47 (.tmp 17) (.tmp 18) rfl (.slice (some ⟨g1, 0, none⟩) n c1) (.int .i64 (k : Int)) (by kernel_rfl) (by kernel_rfl) (run_indexP w' 47 63 g1 0 n c1 k 2 Try.underlying47 (by kernel_rfl) hlt)) (by assumption) ?_
      refine wpAnyH_take (i := 3) (v := .agg #[.int .i64 ((nth xs (k * 2) : Nat) : Int), .int .i64 ((nth xs (k * 2 + 1) : Nat) : Int)]) rfl (by kernel_rfl) (by kernel_rfl) (by kernel_rfl) (fun _ _ _ h => h) (yif rfl fun w' hw' => x_load 63 (.tmp 19) rfl ⟨g1, 0 + k * 2, none⟩ (by kernel_rfl) (L1 w' hw')) (by assumption) ?_
      refine wpAnyH_take (i := 4) (v := .slice (some ⟨g2, 0, none⟩) n c2) rfl (by kernel_rfl) (by kernel_rfl) (by kernel_rfl) (fun _ _ _ h => h) (yif rfl fun w' hw' => hx_move (.tmp 1) rfl (by kernel_rfl)) (by assumption) ?_
      refine wpAnyH_take (i := 5) (v := .int .i64 (k : Int)) rfl (by kernel_rfl) (by kernel_rfl) (by kernel_rfl) (fun _ _ _ h => h) (yif rfl fun w' hw' => hx_move (.tmp 5) rfl (by kernel_rfl)) (by assumption) ?_
      refine wpAnyH_take (i := 6) (v := .pointer (some ⟨g2, 0 + k * 2, none⟩)) rfl (by kernel_rfl) (by kernel_rfl) (by kernel_rfl) (fun _ _ _ h => h) (yif rfl fun w' hw' => hx_index 47 (.tmp 21) (.tmp 22) rfl (.slice (some ⟨g2, 0, none⟩) n c2) (.int .i64 (k : Int)) (by kernel_rfl) (by kernel_rfl) (run_indexP w' 47 63 g2 0 n c2 k 2 Try.underlying47 (by kernel_rfl) hlt)) (by assumption) ?_
      refine wpAnyH_take (i := 7) (v := .agg #[.int .i64 ((nth xs (k * 2) : Nat) : Int), .int .i64 ((nth xs (k * 2 + 1) : Nat) : Int)]) rfl (by kernel_rfl) (by kernel_rfl) (by kernel_rfl) (fun _ _ _ h => h) (yif rfl fun w' hw' => x_load 63 (.tmp 23) rfl ⟨g2, 0 + k * 2, none⟩ (by kernel_rfl) (L2 w' hw')) (by assumption) ?_
      refine wpAnyH_all (rs := [8]) (by kernel_rfl) (by simp) fun i' hi'' => ?_
      obtain rfl := one_of hi''
      refine op_call (f := 87) (args := #[.agg #[.int .i64 ((nth xs (k * 2) : Nat) : Int), .int .i64 ((nth xs (k * 2 + 1) : Nat) : Int)], .agg #[.int .i64 ((nth xs (k * 2) : Nat) : Int), .int .i64 ((nth xs (k * 2 + 1) : Nat) : Int)]]) rfl rfl (by kernel_rfl) ((eqA2_same _ _ _).mono ?_)
      rintro e w9 ⟨rfl, hb9⟩
      have S1 := bthen S0 hb9
      refine ⟨_, rfl, S1, ?_⟩
      refine wpAnyH_take (i := 9) (v := .bool false) rfl (by kernel_rfl) (by kernel_rfl) (by kernel_rfl) (fun _ _ _ h => h) (yif rfl fun w' hw' => by kernel_rfl) (by assumption) ?_
      refine wpAnyH_done (by kernel_rfl) ?_ _
      clear L1 L2
      have B2 := Lib.hid (bthen B1.out S1)
      clear B1 S0 S1 hb9
      generalize hA : Act.put _ _ _ = A
      have eA : A = { tmps := #[.slice (some ⟨g1, 0, none⟩) n c1, .slice (some ⟨g2, 0, none⟩) n c2, undef, undef, u4, .int .i64 (k : Int), .slice (some ⟨g1, 0, none⟩) n c1, .int .i64 (n : Int), .slice (some ⟨g2, 0, none⟩) n c2, .int .i64 (n : Int), .bool false, .int .i64 (k : Int), .slice (some ⟨g1, 0, none⟩) n c1, .int .i64 (n : Int), .bool true, u15, u16, .slice (some ⟨g1, 0, none⟩) n c1, .int .i64 (k : Int), .pointer (some ⟨g1, 0 + k * 2, none⟩), .agg #[.int .i64 ((nth xs (k * 2) : Nat) : Int), .int .i64 ((nth xs (k * 2 + 1) : Nat) : Int)], .slice (some ⟨g2, 0, none⟩) n c2, .int .i64 (k : Int), .pointer (some ⟨g2, 0 + k * 2, none⟩), .agg #[.int .i64 ((nth xs (k * 2) : Nat) : Int), .int .i64 ((nth xs (k * 2 + 1) : Nat) : Int)], .bool true, .bool false], defers := [] } := by rw [← hA]; kernel_rfl
      clear hA
      subst eA
      go_wp2
      exact ⟨⟨k + 1, by omega, by go_num, B2⟩, by simp [intOf]; omega⟩
    · obtain rfl : n = k := by omega
      go_wp2
      go_ret
      exact ⟨rfl, B1.out⟩

/-- the first c cells made 1, 2, 3 .. -/
def mk12 (xs : List Nat) : Nat → List Nat
  | 0 => xs
  | c + 1 => (mk12 xs c).set c (c + 1)
theorem mk12_len (xs : List Nat) : ∀ c, (mk12 xs c).length = xs.length
  | 0 => rfl
  | c + 1 => by rw [mk12, List.length_set]; exact mk12_len xs c
theorem mk12_next (xs : List Nat) {j m : Nat} (h : m = j + 1) : (mk12 xs j).set j m = mk12 xs (j + 1) := by subst h; rfl
theorem mk12_nth (xs : List Nat) : ∀ c, c ≤ xs.length → ∀ j, j < c → nth (mk12 xs c) j = j + 1
  | 0, _, j, h => by omega
  | c + 1, hc, j, h => by
    have hl := mk12_len xs c
    unfold nth
    rw [mk12, List.getD_eq_getElem?_getD, List.getElem?_set]
    by_cases e : c = j
    · subst e
      rw [if_pos rfl, if_pos (by omega)]
      rfl
    · rw [if_neg e, ← List.getD_eq_getElem?_getD]
      exact mk12_nth xs c (by omega) j (by omega)

theorem mark_any {lo : Nat} {v : Value} {n : Nat} {xs : List Nat} {w : World} (O : Own2 w lo v n xs) (hn : n ≤ 16) :
    Calls Try.prog 31 #[v, .int .i64 1] w fun e w' => e = .returned (.int .i64 ((2 * n : Nat) + 1 : Int)) ∧ Own2 w' lo v n (mk12 xs (2 * n)) ∧ Below lo w w' := by
  obtain ⟨a0, cap, rfl⟩ := O.any
  go_enter Try.func31, Try.ntmps31
  go_wp2
  go_loopw [1, 5] (fun s i wr => ∃ k m : Nat, k ≤ n ∧ i = .int .i64 (k : Int) ∧ s = .int .i64 (m : Int) ∧ m = 2 * k + 1 ∧ Own2 wr lo (.slice a0 n cap) n (mk12 xs (2 * k)) ∧ Hid (Below lo w wr)) (fun _ i _ => n - (intOf i).toNat)
  case atStart => exact ⟨0, 1, by omega, rfl, rfl, rfl, O, Lib.hid (Below.refl _ _)⟩
  case round =>
    clear O
    obtain ⟨k, m, hk, rfl, rfl, hm, O1, B1⟩ := hrel
    have HM := Lib.hid hm
    by_cases hlt : k < n
    · have s2 : IntKind.i64.wrap ((k : Int) + 1) = (k : Int) + 1 := IntWalk.i64_in _ (by omega)
      have kd : (k : Int) < (n : Int) := by omega
      clear hm
      go_wp2
      go_loopw [1, 6] (fun s i wr => ∃ c m : Nat, c ≤ 2 ∧ i = .int .i64 (c : Int) ∧ s = .int .i64 (m : Int) ∧ m = 2 * k + c + 1 ∧ Own2 wr lo (.slice a0 n cap) n (mk12 xs (2 * k + c)) ∧ Hid (Below lo w wr)) (fun _ i _ => 2 - (intOf i).toNat)
      case atStart => exact ⟨0, m, by omega, rfl, rfl, HM.out, O1, B1⟩
      case round =>
        clear O1 B1 HM
        obtain ⟨c, m, hc, rfl, rfl, hm, O1, B1⟩ := hrel
        have HM := Lib.hid hm
        by_cases hlc : c < 2
        · have s3 : IntKind.i64.wrap ((m : Int) + 1) = (m : Int) + 1 := IntWalk.i64_in _ (by omega)
          have s4 : IntKind.i64.wrap ((c : Int) + 1) = (c : Int) + 1 := IntWalk.i64_in _ (by omega)
          have kc : decide ((c : Int) < 2) = true := decide_eq_true (by omega)
          obtain ⟨g, cap', cur, hv, hg, hA, hsz, -, -, hset⟩ := O1.at (by omega)
          obtain ⟨rfl, rfl⟩ : a0 = some ⟨g, 0, none⟩ ∧ cap = cap' := by simpa using hv
          have hadr3 : Hid (k * 2 + c = 2 * k + c) := Lib.hid (by omega)
          have O2 := hset (2 * k + c) m (by omega)
          rw [mk12_next xs hm] at O2
          have B2 := Lib.hid (bset B1.out (g := g) hg (cur.setIfInBounds (2 * k + c) (.int .i64 (m : Int))))
          have G2 := Lib.hid (run_storeAt_one (P := Try.prog) wr g (2 * k + c) 63 2 cur (.int .i64 (m : Int)) hA (by kernel_rfl) (by omega) rfl)
          clear hset O1 B1 hv hm hA hsz
          have HO := Lib.hid O2
          clear O2
          go_wp2_with ((with_reducible refine is_store 2 (.tmp 22) (.tmp 20) rfl ?_); refine wpList_store_of rfl 2 (.tmp 22) (.tmp 20) rfl ⟨g, 2 * k + c, none⟩ (by simp only [Act.eval]; exact congrArg (fun q => Value.pointer (some ⟨g, q, none⟩)) hadr3.out) (.int .i64 (m : Int)) rfl _ G2.out ?_)
          exact ⟨⟨c + 1, m + 1, by omega, by go_num, by go_num, by have := HM.out; omega, HO.out, B2⟩, by simp [intOf]; omega⟩
        · obtain rfl : c = 2 := by omega
          go_wp2
          exact ⟨⟨k + 1, m, by omega, by go_num, rfl, by have := HM.out; omega, O1, B1⟩, by simp [intOf]; omega⟩
    · obtain rfl : n = k := by omega
      clear hm
      go_wp2
      go_ret
      exact ⟨by rw [HM.out]; push_cast; rfl, O1, B1.out⟩

theorem held_any {lo : Nat} {v : Value} {n : Nat} {ys : List Nat} {w : World} (O : Own2 w lo v n ys) (hy : ∀ j, j < 2 * n → nth ys j = j + 1) (hn : n ≤ 16) :
    Calls Try.prog 32 #[v, .int .i64 1] w fun e w' => e = .returned (.int .i64 ((2 * n : Nat) + 1 : Int)) ∧ w' = w := by
  have HO := Lib.hid O
  have HY := Lib.hid hy
  obtain ⟨a0, cap, rfl⟩ := O.any
  clear O hy
  go_enter Try.func32, Try.ntmps32
  go_wp2
  go_loopw [1, 5] (fun s i wr => ∃ k m : Nat, k ≤ n ∧ i = .int .i64 (k : Int) ∧ s = .int .i64 (m : Int) ∧ m = 2 * k + 1 ∧ wr = w) (fun _ i _ => n - (intOf i).toNat)
  case atStart => exact ⟨0, 1, by omega, rfl, rfl, rfl, rfl⟩
  case round =>
    obtain ⟨k, m, hk, rfl, rfl, hm, rfl⟩ := hrel
    have HM := Lib.hid hm
    by_cases hlt : k < n
    · have s2 : IntKind.i64.wrap ((k : Int) + 1) = (k : Int) + 1 := IntWalk.i64_in _ (by omega)
      have kd : (k : Int) < (n : Int) := by omega
      clear hm
      go_wp2
      go_loopw [1, 6] (fun s i wr' => ∃ c m : Nat, c ≤ 2 ∧ i = .int .i64 (c : Int) ∧ s = .int .i64 (m : Int) ∧ m = 2 * k + c + 1 ∧ wr' = wr) (fun _ i _ => 2 - (intOf i).toNat)
      case atStart => exact ⟨0, m, by omega, rfl, rfl, HM.out, rfl⟩
      case round =>
        clear HM
        obtain ⟨c, m, hc, rfl, rfl, hm, rfl⟩ := hrel
        have HM := Lib.hid hm
        by_cases hlc : c < 2
        · have s3 : IntKind.i64.wrap ((m : Int) + 1) = (m : Int) + 1 := IntWalk.i64_in _ (by omega)
          have s4 : IntKind.i64.wrap ((c : Int) + 1) = (c : Int) + 1 := IntWalk.i64_in _ (by omega)
          have kc : decide ((c : Int) < 2) = true := decide_eq_true (by omega)
          obtain ⟨g, cap', cur, hv, -, hA, hsz, -, hcell, -⟩ := HO.out.at (by omega)
          obtain ⟨rfl, rfl⟩ : a0 = some ⟨g, 0, none⟩ ∧ cap = cap' := by simpa using hv
          have hcl := hA.cell (hcell (2 * k + c) (by omega))
          rw [HY.out (2 * k + c) (by omega), ← hm, show 2 * k + c = k * 2 + c from by omega] at hcl
          clear hv hm hA hsz hcell
          go_wp2
          exact ⟨⟨c + 1, m + 1, by omega, by go_num, by go_num, by have := HM.out; omega, by trivial⟩, by simp [intOf]; omega⟩
        · obtain rfl : c = 2 := by omega
          go_wp2
          exact ⟨⟨k + 1, m, by omega, by go_num, rfl, by have := HM.out; omega, by trivial⟩, by simp [intOf]; omega⟩
    · obtain rfl : n = k := by omega
      clear hm
      go_wp2
      go_ret
      exact ⟨by rw [HM.out]; push_cast; rfl, by trivial⟩

end Go.Proofs.Ytafgcjjgnjialab
