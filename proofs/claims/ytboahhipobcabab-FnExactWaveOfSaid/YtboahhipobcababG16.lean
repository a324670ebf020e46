/-
  SEVERAL TEXTS IN ONE.
-/
import Derived.Test.YtboahhipobcababWaveI
import Derived.Test.YtboahhipobcababG11
import Derived.Test.YtboahhipobcababOwnSl

/-
  CONTRACTS: what refuses a row of plans: the program, whole.
-/
namespace Go.Proofs.Ytboahhipobcabab
open Go Go.ChangeShapes Go.WideShapes Go.ChangeAt Go.RowKit
set_option maxRecDepth 100000

/-- how long it takes to the plan at k -/
def sm (ts : List Int) : Nat → Int
  | 0 => 0
  | k + 1 => sm ts k + ith ts k
/-- a car that is at the first plan at a tick has green at the plan at k -/
def mG (ps : Ps) (ts : List Int) (m : Nat) (t : Int) (k : Nat) : Bool := gre (pB ps k) (pS ps k) m ((t + sm ts k - pO ps k) % cyc (pS ps k) (pB ps k)).toNat
def mtG (ps : Ps) (ts : List Int) (m : Nat) (t : Nat) : Bool := allK (mG ps ts m t) ps.length
/-- how wide a wave is -/
def wid (ps : Ps) (ts : List Int) (m : Nat) : Nat := cnt (mtG ps ts m) (cyP ps 0).toNat
/-- what WaveWidth answers -/
def vWid (ps : Ps) (ts : List Int) (mv : Int) : Int × Int := if rowC ps ts mv = 0 then ((wid ps ts mv.toNat : Int), 0) else (0, rowC ps ts mv)
theorem vWid_no {ps : Ps} {ts : List Int} {mv : Int} (h : rowC ps ts mv ≠ 0) : vWid ps ts mv = (0, rowC ps ts mv) := by unfold vWid; rw [if_neg h]
theorem vWid_yes {ps : Ps} {ts : List Int} {m : Nat} (h : rowC ps ts m = 0) : vWid ps ts m = ((wid ps ts m : Int), 0) := by unfold vWid; rw [if_pos h, Int.toNat_natCast]
theorem rowC_parts {ps : Ps} {ts : List Int} {mv : Int} (h : rowC ps ts mv = 0) : (∃ m : Nat, mv = m ∧ m < 8) ∧ (∀ k, k < ps.length → okP (pS ps k) (pB ps k) (pO ps k) = true) ∧ (1 ≤ ps.length ∧ ps.length ≤ 6) ∧ ts.length + 1 = ps.length ∧ (∀ k, k < ts.length → 0 ≤ ith ts k ∧ ith ts k ≤ 100000) := by
  cases h1 : allK (pOk ps) ps.length
  · rw [rowC_1 h1] at h; cases h
  · cases h2 : ratOk ps ts mv
    · rw [rowC_2 h1 h2] at h; cases h
    · have h3 := h2
      unfold ratOk inB at h3
      simp only [Bool.and_eq_true, decide_eq_true_eq] at h3
      refine ⟨⟨mv.toNat, by omega, by omega⟩, fun k hk => allK_at (f := pOk ps) h1 hk, h3.1.1, h3.1.2.1, fun k hk => ?_⟩
      have := allK_at h3.2 hk
      simpa [tiOk, inB] using this

theorem PB.alloc {w : World} {G : Nat} {gs : Nat → Nat} {ps : Ps} {T : TypeId} (h : PB w G gs ps T) (x : Obj) : PB (w.alloc x) G gs ps T := h.step (b0 w x)
theorem refusalOfWave_any (G : Nat) (gs : Nat → Nat) (ps : Ps) (T : TypeId) (H : Nat) (ts : List Int) (T4 : TypeId) (mv : Int) (hW : ∀ i, i < ps.length → SlW (pS ps i)) (hn : ps.length ≤ 1048576) (ht : ts.length ≤ 1048576) (w : World) (P0 : PB w G gs ps T) (H0 : At w H (il ts) T4) :
    Calls Try.prog 59 #[.slice (some ⟨G, 0, none⟩) ps.length ps.length, .slice (some ⟨H, 0, none⟩) ts.length ts.length, .int .i64 mv] w fun e w' => e = .returned (.int .i64 (rowC ps ts mv)) ∧ Below w.heap.size w w' := by
  have hmf : ∀ (fn : Fn) (first cap : Array Value) (w : World), (Instr.makeFunc fn first cap).run Try.prog w = .ok (.func fn first cap) w := fun _ _ _ _ => rfl
  have G1 : At (((w.alloc (.cells #[.slice (some ⟨G, 0, none⟩) ps.length ps.length] 25)).alloc (.cells #[.slice (some ⟨H, 0, none⟩) ts.length ts.length] 23)).alloc (.cells #[.int .i64 mv] 2)) w.heap.size #[.slice (some ⟨G, 0, none⟩) ps.length ps.length] 25 := ((At.new w _ _).alloc _).alloc _
  have G2 : At (((w.alloc (.cells #[.slice (some ⟨G, 0, none⟩) ps.length ps.length] 25)).alloc (.cells #[.slice (some ⟨H, 0, none⟩) ts.length ts.length] 23)).alloc (.cells #[.int .i64 mv] 2)) (w.heap.size + 1) #[.slice (some ⟨H, 0, none⟩) ts.length ts.length] 23 := (At.last1 w _ _ _).alloc _
  have G3 : At (((w.alloc (.cells #[.slice (some ⟨G, 0, none⟩) ps.length ps.length] 25)).alloc (.cells #[.slice (some ⟨H, 0, none⟩) ts.length ts.length] 23)).alloc (.cells #[.int .i64 mv] 2)) (w.heap.size + 1 + 1) #[.int .i64 mv] 2 := by
    have := At.new ((w.alloc (.cells #[.slice (some ⟨G, 0, none⟩) ps.length ps.length] 25)).alloc (.cells #[.slice (some ⟨H, 0, none⟩) ts.length ts.length] 23)) #[.int .i64 mv] 2
    rwa [World.size_alloc, World.size_alloc] at this
  have P3 := ((P0.alloc (.cells #[.slice (some ⟨G, 0, none⟩) ps.length ps.length] 25)).alloc (.cells #[.slice (some ⟨H, 0, none⟩) ts.length ts.length] 23)).alloc (.cells #[.int .i64 mv] 2)
  have H3 := ((H0.alloc (.cells #[.slice (some ⟨G, 0, none⟩) ps.length ps.length] 25)).alloc (.cells #[.slice (some ⟨H, 0, none⟩) ts.length ts.length] 23)).alloc (.cells #[.int .i64 mv] 2)
  have B0 := Lib.hid (bnew (bnew (b0 w (.cells #[.slice (some ⟨G, 0, none⟩) ps.length ps.length] 25)) (.cells #[.slice (some ⟨H, 0, none⟩) ts.length ts.length] 23)) (.cells #[.int .i64 mv] 2))
  have KR := refusalOf_any 101 #[.pointer (some ⟨w.heap.size, 0, none⟩), .pointer (some ⟨w.heap.size + 1, 0, none⟩), .pointer (some ⟨w.heap.size + 1 + 1, 0, none⟩)] (rowC ps ts mv) (((w.alloc (.cells #[.slice (some ⟨G, 0, none⟩) ps.length ps.length] 25)).alloc (.cells #[.slice (some ⟨H, 0, none⟩) ts.length ts.length] 23)).alloc (.cells #[.int .i64 mv] 2)) (fun _ => by kernel_rfl) (fun w1 hb => refusalOfWave1_any w.heap.size (w.heap.size + 1) (w.heap.size + 1 + 1) 25 23 2 G gs ps T H ts T4 mv hW hn ht w1 (G1.step hb) (G2.step hb) (G3.step hb) (P3.step hb) (H3.step hb))
  clear G1 G2 G3 P0 H0 P3 H3
  go_enter Try.func59, Try.ntmps59
  go_wp2_with fail
  refine KR.mono ?_
  rintro e w1 ⟨rfl, hb1⟩
  go_wp2_with fail
  go_ret
  exact ⟨rfl, bthen B0.out hb1⟩

end Go.Proofs.Ytboahhipobcabab

/-
  CONTRACTS: the cycle of a plan whose slots are one's own.
-/
namespace Go.Proofs.Ytboahhipobcabab
open Go Go.ChangeShapes Go.WideShapes Go.ChangeAt Go.RowKit
set_option maxRecDepth 100000

/-- slots, and what lies behind them -/
def slY (xs : Slots) (zs : Array Value) : Array Value := slC xs ++ zs

theorem slY_size {xs : Slots} {zs : Array Value} (h : SlW xs) : xs.length * 9 ≤ (slY xs zs).size := by
  unfold slY
  rw [Array.size_append, slC_size h]
  omega

theorem slY_slot {xs : Slots} {zs : Array Value} (h : SlW xs) {i k : Nat} (hi : i < xs.length) (hk : k = i * 9) : (slY xs zs).extract k (k + 9) = sl1 (sb xs i) (st xs i) := by
  rw [← slC_slot h hi hk]
  subst hk
  have hs := slC_size h
  apply Array.ext_getElem?
  intro j
  rw [Array.getElem?_extract, Array.getElem?_extract]
  unfold slY
  by_cases c : j < 9
  · rw [if_pos (by rw [Array.size_append]; omega), if_pos (by omega), Array.getElem?_append_left (by omega)]
  · rw [if_neg (by omega), if_neg (by omega)]

theorem OwnSl.atZ {w : World} {lo : Nat} {v : Value} {xs : Slots} (h : OwnSl w lo v xs) (hn : xs.length ≠ 0) (hW : SlW xs) : ∃ g cap zs, v = .slice (some ⟨g, 0, none⟩) xs.length cap ∧ lo ≤ g ∧ At w g (slY xs zs) 107 := by
  obtain ⟨g, cap, cur, rfl, h1, h2, -, h4, h5⟩ := h.at hn
  refine ⟨g, cap, cur.extract (xs.length * 9) cur.size, rfl, h1, ?_⟩
  have e : slY xs (cur.extract (xs.length * 9) cur.size) = cur := by
    have hs := slC_size hW
    apply Array.ext_getElem?
    intro j
    unfold slY
    by_cases c : j < xs.length * 9
    · rw [Array.getElem?_append_left (by omega), h5 j c, ← Array.getElem?_toList]; rfl
    · rw [Array.getElem?_append_right (by omega), Array.getElem?_extract, hs]
      by_cases d : j < cur.size
      · rw [if_pos (by omega)]; congr 1; omega
      · rw [if_neg (by omega), Array.getElem?_eq_none (by omega)]
  rw [e]
  exact h2


theorem cycleOfZ_any (cp : Nat) (zs : Array Value) (G : Nat) (xs : Slots) (b o : Int) (hW : SlW xs) (T : TypeId) (hn : xs.length ≤ 8) (hb : 0 ≤ b ∧ b ≤ 240) (htk : tkOk xs xs.length = true) (w : World) (A0 : At w G (slY xs zs) T) :
    Calls Try.prog 104 #[.agg (plC (.slice (some ⟨G, 0, none⟩) xs.length cp) b o)] w fun e w' => e = .returned (.int .i64 (cyc xs b)) ∧ Below w.heap.size w w' := by
  have P0 := At.new w (plC (.slice (some ⟨G, 0, none⟩) xs.length cp) b o) 41
  have A1 := A0.alloc (.cells (plC (.slice (some ⟨G, 0, none⟩) xs.length cp) b o) 41)
  have B0 := Lib.hid (b0 w (.cells (plC (.slice (some ⟨G, 0, none⟩) xs.length cp) b o) 41))
  have HX := Lib.hid (And.intro hW (And.intro hn htk))
  have hm := mul_bnd hn hb
  obtain ⟨n, hnn⟩ : ∃ n, n = xs.length := ⟨_, rfl⟩
  have HN := Lib.hid hnn
  obtain ⟨m, hmm⟩ : ∃ m : Int, m = (n : Int) * b := ⟨_, rfl⟩
  have HM := Lib.hid hmm
  rw [← hnn] at hn hm P0 A1 B0 ⊢
  rw [← hmm] at hm
  have sm : IntKind.i64.wrap ((n : Int) * b) = m := by rw [← hmm]; exact IntWalk.i64_in _ (by omega)
  clear hnn hmm hW htk A0
  go_enter Try.func104, Try.ntmps104
  go_wp2_with (first | ((with_reducible refine is_load 39 _ rfl ?_); refine wpList_load_cell rfl 39 _ rfl _ 0 rfl ((plC (.slice (some ⟨G, 0, none⟩) n cp) b o)) _ (by with_reducible assumption) _ Try.underlying39 rfl ((.slice (some ⟨G, 0, none⟩) n cp)) (plC_0 _ _ _) ?_) | ((with_reducible refine is_load 2 _ rfl ?_); refine wpList_load_cell rfl 2 _ rfl _ 1 rfl ((plC (.slice (some ⟨G, 0, none⟩) n cp) b o)) _ (by with_reducible assumption) _ Try.underlying2 rfl (.int .i64 b) (plC_1 _ _ _) ?_))
  go_loopw [3, 15] (fun c i wr => ∃ k : Nat, k ≤ n ∧ i = .int .i64 (k : Int) ∧ c = .int .i64 (m + tks xs k) ∧ At wr G (slY xs zs) T ∧ Hid (Below w.heap.size w wr)) (fun _ i _ => n - (intOf i).toNat)
  case atStart => exact ⟨0, by omega, rfl, by rw [show tks xs 0 = 0 from rfl, Int.add_zero], A1, B0⟩
  case round =>
    clear A1 B0 P0
    obtain ⟨k, hk, rfl, rfl, A1, B1⟩ := hrel
    by_cases hlt : k < n
    · have s2 : IntKind.i64.wrap ((k : Int) + 1) = (k : Int) + 1 := IntWalk.i64_in _ (by omega)
      have kd : (k : Int) < (n : Int) := by omega
      have hkl : k < xs.length := by rw [← HN.out]; exact hlt
      have hb8 := (HX.out.1.at hkl).1
      have t1 := tks_small HX.out.2.1 HX.out.2.2 (k := k) (by omega)
      have t2 := tkOk_at hkl HX.out.2.2
      have sa : IntKind.i64.wrap (m + tks xs k + st xs k) = m + tks xs (k + 1) := by rw [IntWalk.i64_in _ (by omega), Int.add_assoc]; rfl
      have SS := slY_size (zs := zs) HX.out.1
      have hle : k * 9 + 9 ≤ (slY xs zs).size := by omega
      have hsl := slY_slot (zs := zs) HX.out.1 hkl (k := k * 9) rfl
      have S1 := sl1_size hb8 (st xs k)
      clear SS
      generalize sb xs k = bb at hb8 hsl S1
      have N0 := At.new wr #[.bool false, .bool false, .bool false, .bool false, .bool false, .bool false, .bool false, .bool false, .int .i64 0] 107
      have N1 := N0.setRow (sl1 bb (st xs k))
      have A2 := (A1.alloc (.cells #[.bool false, .bool false, .bool false, .bool false, .bool false, .bool false, .bool false, .bool false, .int .i64 0] 107)).setRow_other (k := wr.heap.size) (Nat.ne_of_lt A1.lt) (sl1 bb (st xs k))
      have B2 := Lib.hid (bset (bnew B1.out (.cells #[.bool false, .bool false, .bool false, .bool false, .bool false, .bool false, .bool false, .bool false, .int .i64 0] 107)) (g := wr.heap.size) B1.out.size (sl1 bb (st xs k)))
      clear B1
      go_wp2_with (first | ((with_reducible refine is_load 107 _ rfl ?_); refine wpList_load_part rfl 107 _ rfl _ (k * 9) rfl (slY xs zs) _ (by with_reducible assumption) 9 (hle) _ Try.underlying107 rfl (by kernel_rfl) (sl1 bb (st xs k)) (hsl) ?_) | ((with_reducible refine is_store 107 _ _ rfl ?_); refine wpList_store_at rfl 107 _ _ rfl _ rfl (sl1 bb (st xs k)) rfl (#[.bool false, .bool false, .bool false, .bool false, .bool false, .bool false, .bool false, .bool false, .int .i64 0]) _ (by with_reducible assumption) 9 (S1) (rfl) (by kernel_rfl) (sl1_one _ _) ?_) | ((with_reducible refine is_load 2 _ rfl ?_); refine wpList_load_cell rfl 2 _ rfl _ 8 rfl (sl1 bb (st xs k)) _ (by with_reducible assumption) _ Try.underlying2 rfl (.int .i64 (st xs k)) (sl1_ticks hb8 _) ?_))
      exact ⟨⟨k + 1, by omega, by go_num, rfl, A2, B2⟩, by simp [intOf]; omega⟩
    · obtain rfl : n = k := by omega
      have ev : cyc xs b = m + tks xs n := by rw [HM.out, HN.out]; rfl
      go_wp2
      go_ret
      exact ⟨by rw [ev]; rfl, B1.out⟩

end Go.Proofs.Ytboahhipobcabab
