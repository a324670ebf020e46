/-
  SEVERAL TEXTS IN ONE.
-/
import Derived.Test.YtboahhipobcababOwnSl
import Derived.Test.YtboahhipobcababPlTo
import Derived.Test.YtboahhipobcababSl
import Derived.Test.YtboahhipobcababG1
import Derived.WalkKit
import Derived.Test.YtboahhipobcababG2
import Derived.Deep.LoopGhost
import Derived.IntWalk

/-
  CONTRACTS: slices of slots, wherever they lie, and plans, held against each other.
-/
namespace Go.Proofs.Ytboahhipobcabab
open Go Go.ChangeShapes Go.WideShapes Go.ChangeAt Go.RowKit
set_option maxRecDepth 100000

theorem eqSlotS_st (v1 v2 : Value) (xs : Slots) (hn : xs.length ≤ 1048576) (w : World) (h1 : SSl w v1 xs) (h2 : SSl w v2 xs) :
    Calls Try.prog 72 #[v1, v2] w fun e w' => e = .returned (.bool true) ∧ Below w.heap.size w w' := by
  have hW := h1.wf
  have fr : ∀ {v : Value}, SSl w v xs → xs.length ≠ 0 → ∃ g off cap, v = .slice (some ⟨g, off, none⟩) xs.length cap ∧ ∀ k, k < xs.length → ∀ w', Below w.heap.size w w' → (Instr.loadAt 107 (.pointer (some ⟨g, off + k * 9, none⟩))).run Try.prog w' = .ok (.agg (sl1 (sb xs k) (st xs k))) w' := by
    intro v h hz
    rcases h.val with ⟨rfl, -⟩ | ⟨g, off, cap, rfl, hg, hc⟩
    · exact absurd rfl hz
    · refine ⟨g, off, cap, rfl, fun k hk w' hb => run_loadAt_cells (P := Try.prog) w' g (off + k * 9) 9 107 (sl1 (sb xs k) (st xs k)) _ (sl1_size (hW.at hk).1 _) Try.underlying107 rfl (by kernel_rfl) (fun j hj => ?_)⟩
      rw [← hc k hk j hj]
      unfold World.cell?
      rw [hb.block g hg]
  by_cases z : xs.length = 0
  · obtain ⟨a1, c1, rfl⟩ := h1.any
    obtain ⟨a2, c2, rfl⟩ := h2.any
    rw [z]
    clear fr h1 h2
    go_enter Try.func72, Try.ntmps72
    go_wp2
    go_loopw [5] (fun i wr => i = .int .i64 0 ∧ wr = w) (fun _ _ => 0)
    case atStart => exact ⟨rfl, rfl⟩
    case round =>
      obtain ⟨rfl, rfl⟩ := hrel
      go_wp2
      go_ret
      exact ⟨rfl, Below.refl _ _⟩
  · obtain ⟨g1, off1, cap1, rfl, L1⟩ := fr h1 z
    obtain ⟨g2, off2, cap2, rfl, L2⟩ := fr h2 z
    have HL := Lib.hid (And.intro L1 L2)
    have HW := Lib.hid hW
    clear fr h1 h2 L1 L2 hW
    obtain ⟨n, hnn⟩ : ∃ n, n = xs.length := ⟨_, rfl⟩
    rw [← hnn] at hn z ⊢
    have HN := Lib.hid hnn
    clear hnn
    go_enter Try.func72, Try.ntmps72
    go_wp2
    go_loopw [5] (fun i wr => ∃ k : Nat, k ≤ n ∧ i = .int .i64 (k : Int) ∧ Hid (Below w.heap.size w wr)) (fun i _ => n - (intOf i).toNat)
    case atStart => exact ⟨0, by omega, rfl, Lib.hid (Below.refl _ _)⟩
    case round =>
      obtain ⟨k, hk, rfl, B1⟩ := hrel
      by_cases hlt : k < n
      · have s2 : IntKind.i64.wrap ((k : Int) + 1) = (k : Int) + 1 := IntWalk.i64_in _ (by omega)
        have kd : (k : Int) < (n : Int) := by omega
        have hkl : k < xs.length := by rw [← HN.out]; exact hlt
        have hb := (HW.out.at hkl).1
        have hC := Cb.const wr
        have M1 := Lib.hid (HL.out.1 k hkl)
        have M2 := Lib.hid (HL.out.2 k hkl)
        clear hkl
        go_wp2
        refine wp_region_cb (by kernel_rfl) (by kernel_rfl) ?_
        repeat (first
          | go_big_quiet_skip
          | (go_big_quiet_want; first
            | (refine q_load 107 _ rfl ⟨g1, off1 + k * 9, none⟩ rfl (.agg (sl1 (sb xs k) (st xs k))) (fun w' hw' => M1.out w' (bthen B1.out hw')) ?_; go_simp; go_big_quiet_on)
            | (refine q_load 107 _ rfl ⟨g2, off2 + k * 9, none⟩ rfl (.agg (sl1 (sb xs k) (st xs k))) (fun w' hw' => M2.out w' (bthen B1.out hw')) ?_; go_simp; go_big_quiet_on)
            | (go_big_quiet_op; go_big_quiet_on)
            | (go_big_quiet_op; apply Exists.intro; refine ⟨fun w' hw' => ?_, ?_⟩; (go_at_call 114; exact (eqSlot_same (sb xs k) hb (st xs k) _).mono fun _ _ h => ⟨h.1, hw'.step h.2⟩); go_big_quiet_on)))
        refine wpQuiet_nil ?_
        intro w2 hw2
        have B2 := Lib.hid (bthen B1.out hw2)
        clear M1 M2 hC B1 hw2
        go_wp2
        exact ⟨⟨k + 1, by omega, by go_num, B2⟩, by simp [intOf]; omega⟩
      · obtain rfl : n = k := by omega
        go_wp2
        go_ret
        exact ⟨rfl, B1.out⟩
theorem eqPlan_st (a1 a2 : Option Addr) (c1 c2 : Nat) (xs : Slots) (b o : Int) (hn : xs.length ≤ 1048576) (w : World) (h1 : SSl w (.slice a1 xs.length c1) xs) (h2 : SSl w (.slice a2 xs.length c2) xs) :
    Calls Try.prog 24 #[.agg (plC (.slice a1 xs.length c1) b o), .agg (plC (.slice a2 xs.length c2) b o)] w fun e w' => e = .returned (.bool true) ∧ Below w.heap.size w w' := by
  have T0 := Two.mk w (plC (.slice a1 xs.length c1) b o) 41 (plC (.slice a2 xs.length c2) b o) 41
  have H1 := h1.step (Nat.le_refl _) T0.2.2
  have H2 := h2.step (Nat.le_refl _) T0.2.2
  have KS := eqSlotS_st _ _ xs hn _ H1 H2
  have HT := Lib.hid T0
  clear H1 H2 T0 h1 h2
  have X1 : At _ w.heap.size _ _ := HT.out.1
  have X2 : At _ (w.heap.size + 1) _ _ := HT.out.2.1
  go_enter Try.func24, Try.ntmps24
  go_wp2_with (first | ((with_reducible refine is_load 39 _ rfl ?_); refine wpList_load_cell rfl 39 _ rfl _ 0 rfl (plC (.slice a1 xs.length c1) b o) _ (by with_reducible assumption) _ Try.underlying39 rfl (.slice a1 xs.length c1) (plC_0 _ _ _) ?_) | ((with_reducible refine is_load 39 _ rfl ?_); refine wpList_load_cell rfl 39 _ rfl _ 0 rfl (plC (.slice a2 xs.length c2) b o) _ (by with_reducible assumption) _ Try.underlying39 rfl (.slice a2 xs.length c2) (plC_0 _ _ _) ?_))
  refine KS.mono ?_
  rintro e w1 ⟨rfl, hb1⟩
  have T1 := HT.out.step hb1
  have c1 := T1.cell1 (k := 1) (v := .int .i64 b) (plC_1 _ _ _)
  have c2 := T1.cell2 (k := 1) (v := .int .i64 b) (plC_1 _ _ _)
  have c3 := T1.cell1 (k := 2) (v := .int .i64 o) (plC_2 _ _ _)
  have c4 := T1.cell2 (k := 2) (v := .int .i64 o) (plC_2 _ _ _)
  have B1 := Lib.hid T1.2.2
  clear HT T1 hb1 KS
  go_wp2_with fail
  go_ret
  exact ⟨rfl, B1.out⟩

end Go.Proofs.Ytboahhipobcabab

/-
  CONTRACTS: slices of plans held against each other.
-/
namespace Go.Proofs.Ytboahhipobcabab
open Go Go.ChangeShapes Go.WideShapes Go.ChangeAt Go.RowKit
set_option maxRecDepth 100000

theorem PSl.of_at {w : World} {G cap : Nat} {gs : Nat → Nat} {ps : Ps} {T : TypeId} (hA : At w G (pvC (pvs gs ps ps.length ps.length)) T) (hg : ∀ i, i < ps.length → At w (gs i) (slC (pS ps i)) 107) (hW : ∀ i, i < ps.length → SlW (pS ps i)) (hL : ∀ i, i < ps.length → (pS ps i).length ≤ maxLen) (hm : ps.length ≤ maxLen) : PSl w (.slice (some ⟨G, 0, none⟩) ps.length cap) ps := by
  refine ⟨.inr ⟨G, 0, cap, rfl, hA.lt, fun i hi => ⟨some ⟨gs i, 0, none⟩, (pS ps i).length, SSl.of_at (hg i hi) (hW i hi) (hL i hi), fun j hj => ?_⟩⟩, hm⟩
  rw [cell_of_row _ _ _ _ _ _ hA, Nat.zero_add]
  exact pvC_get (by rw [pvs_len]; exact hi) hj (pvs_at hi hi)

set_option maxHeartbeats 1000000 in
theorem eqPlanS_st (v1 v2 : Value) (ps : Ps) (hn : ps.length ≤ 1048576) (hN : ∀ k, k < ps.length → (pS ps k).length ≤ 1048576) (w : World) (h1 : PSl w v1 ps) (h2 : PSl w v2 ps) :
    Calls Try.prog 14 #[v1, v2] w fun e w' => e = .returned (.bool true) ∧ Below w.heap.size w w' := by
  by_cases z : ps.length = 0
  · obtain ⟨a1, c1, rfl⟩ := h1.any
    obtain ⟨a2, c2, rfl⟩ := h2.any
    rw [z]
    clear h1 h2
    go_enter Try.func14, Try.ntmps14
    go_wp2
    go_loopw [5] (fun i wr => i = .int .i64 0 ∧ wr = w) (fun _ _ => 0)
    case atStart => exact ⟨rfl, rfl⟩
    case round =>
      obtain ⟨rfl, rfl⟩ := hrel
      go_wp2
      go_ret
      exact ⟨rfl, Below.refl _ _⟩
  · obtain ⟨g1, off1, cap1, rfl, L1⟩ := h1.get z 41 _ Try.underlying41 (by kernel_rfl)
    obtain ⟨g2, off2, cap2, rfl, L2⟩ := h2.get z 41 _ Try.underlying41 (by kernel_rfl)
    have HL := Lib.hid (And.intro L1 (And.intro L2 hN))
    clear h1 h2 L1 L2 hN
    obtain ⟨n, hnn⟩ : ∃ n, n = ps.length := ⟨_, rfl⟩
    rw [← hnn] at hn z ⊢
    have HN := Lib.hid hnn
    clear hnn
    go_enter Try.func14, Try.ntmps14
    go_wp2
    go_loopw [5] (fun i wr => ∃ k : Nat, k ≤ n ∧ i = .int .i64 (k : Int) ∧ Hid (Below w.heap.size w wr)) (fun i _ => n - (intOf i).toNat)
    case atStart => exact ⟨0, by omega, rfl, Lib.hid (Below.refl _ _)⟩
    case round =>
      obtain ⟨k, hk, rfl, B1⟩ := hrel
      by_cases hlt : k < n
      · have s2 : IntKind.i64.wrap ((k : Int) + 1) = (k : Int) + 1 := IntWalk.i64_in _ (by omega)
        have kd : (k : Int) < (n : Int) := by omega
        have hkl : k < ps.length := by rw [← HN.out]; exact hlt
        obtain ⟨a1, c1, S1, M1⟩ := HL.out.1 k hkl
        obtain ⟨a2, c2, S2, M2⟩ := HL.out.2.1 k hkl
        have hq := HL.out.2.2 k hkl
        have KE := fun w' (hb : Below w.heap.size w w') => eqPlan_st a1 a2 c1 c2 (pS ps k) (pB ps k) (pO ps k) hq w' (S1.step (Nat.le_refl _) hb) (S2.step (Nat.le_refl _) hb)
        have M1 := Lib.hid M1
        have M2 := Lib.hid M2
        have hC := Cb.const wr
        clear hkl S1 S2 hq
        generalize pB ps k = b at *
        generalize pO ps k = o at *
        generalize (pS ps k).length = ln at *
        go_wp2
        refine wp_region_cb (by kernel_rfl) (by kernel_rfl) ?_
        repeat (first
          | go_big_quiet_skip
          | (go_big_quiet_want; first
            | (refine q_load 41 _ rfl ⟨g1, off1 + k * 3, none⟩ rfl (.agg (plC (.slice a1 ln c1) b o)) (fun w' hw' => M1.out w' (bthen B1.out hw')) ?_; go_simp; go_big_quiet_on)
            | (refine q_load 41 _ rfl ⟨g2, off2 + k * 3, none⟩ rfl (.agg (plC (.slice a2 ln c2) b o)) (fun w' hw' => M2.out w' (bthen B1.out hw')) ?_; go_simp; go_big_quiet_on)
            | (go_big_quiet_op; go_big_quiet_on)
            | (go_big_quiet_op; apply Exists.intro; refine ⟨fun w' hw' => ?_, ?_⟩; (go_at_call 24; exact (KE _ (bthen B1.out hw')).mono fun _ _ h => ⟨h.1, hw'.step h.2⟩); go_big_quiet_on)))
        refine wpQuiet_nil ?_
        intro w2 hw2
        have B2 := Lib.hid (bthen B1.out hw2)
        clear M1 M2 hC B1 hw2 KE
        go_wp2
        exact ⟨⟨k + 1, by omega, by go_num, B2⟩, by simp [intOf]; omega⟩
      · obtain rfl : n = k := by omega
        go_wp2
        go_ret
        exact ⟨rfl, B1.out⟩

end Go.Proofs.Ytboahhipobcabab

/-
  PLANS, AS NUMBERS: the cycle of a plan, what a valid plan is.
  No Go text in it. Conditions: those of each theorem.
-/
namespace Go.Proofs.Ytboahhipobcabab
open Go Go.RowKit

/-- the ticks of the first m slots -/
def tks (xs : Slots) : Nat → Int
  | 0 => 0
  | m + 1 => tks xs m + st xs m
def tkOne (t : Int) : Bool := decide (1 ≤ t ∧ t ≤ 240)
/-- the first m slots have 1 to 240 ticks -/
def tkOk (xs : Slots) : Nat → Bool
  | 0 => true
  | m + 1 => tkOk xs m && tkOne (st xs m)
def btw (b : Int) : Bool := decide (0 ≤ b ∧ b ≤ 240)
/-- the cycle -/
def cyc (xs : Slots) (b : Int) : Int := (xs.length : Int) * b + tks xs xs.length
def lenOk (xs : Slots) : Bool := decide (1 ≤ xs.length ∧ xs.length ≤ 8)
/-- a valid plan -/
def okP (xs : Slots) (b o : Int) : Bool := lenOk xs && (btw b && (tkOk xs xs.length && (decide (cyc xs b ≤ 240) && decide (0 ≤ o ∧ o < cyc xs b))))
theorem tkOk_no {xs : Slots} : ∀ {m k : Nat}, k < m → tkOne (st xs k) = false → tkOk xs m = false
  | 0, k, h, _ => by omega
  | m + 1, k, h, e => by
    unfold tkOk
    by_cases c : k = m
    · subst c; rw [e, Bool.and_false]
    · rw [tkOk_no (by omega : k < m) e, Bool.false_and]
theorem tkOk_next {xs : Slots} {m : Nat} (h : tkOk xs m = true) (e : tkOne (st xs m) = true) : tkOk xs (m + 1) = true := by
  unfold tkOk; rw [h, e]; rfl
theorem tkOk_at {xs : Slots} : ∀ {m k : Nat}, k < m → tkOk xs m = true → 1 ≤ st xs k ∧ st xs k ≤ 240
  | 0, k, h, _ => by omega
  | m + 1, k, h, e => by
    unfold tkOk at e
    rw [Bool.and_eq_true] at e
    by_cases c : k = m
    · subst c; simpa [tkOne] using e.2
    · exact tkOk_at (by omega) e.1
theorem tks_bnd {xs : Slots} : ∀ {m n : Nat}, m ≤ n → tkOk xs n = true → (m : Int) ≤ tks xs m ∧ tks xs m ≤ 240 * m
  | 0, n, _, _ => by unfold tks; omega
  | m + 1, n, h, e => by
    have := tks_bnd (m := m) (n := n) (by omega) e
    have := tkOk_at (k := m) (m := n) (by omega) e
    unfold tks
    omega
theorem okP_parts {xs : Slots} {b o : Int} (h : okP xs b o = true) : (1 ≤ xs.length ∧ xs.length ≤ 8) ∧ (0 ≤ b ∧ b ≤ 240) ∧ tkOk xs xs.length = true ∧ cyc xs b ≤ 240 ∧ 0 ≤ o ∧ o < cyc xs b := by
  unfold okP lenOk btw at h
  simpa [and_assoc] using h
theorem okP_len {xs : Slots} {b o : Int} (h : lenOk xs = false) : okP xs b o = false := by unfold okP; rw [h]; rfl
theorem okP_btw {xs : Slots} {b o : Int} (h : btw b = false) : okP xs b o = false := by unfold okP; rw [h]; simp
theorem okP_tk {xs : Slots} {b o : Int} {k : Nat} (hk : k < xs.length) (h : tkOne (st xs k) = false) : okP xs b o = false := by unfold okP; rw [tkOk_no hk h]; simp
theorem okP_rest {xs : Slots} {b o : Int} (h1 : lenOk xs = true) (h2 : btw b = true) (h3 : tkOk xs xs.length = true) : okP xs b o = (decide (cyc xs b ≤ 240) && decide (0 ≤ o ∧ o < cyc xs b)) := by unfold okP; rw [h1, h2, h3]; rfl
end Go.Proofs.Ytboahhipobcabab

/-
  CONTRACTS: is a number one of a range?
-/
namespace Go.Proofs.Ytboahhipobcabab
open Go Go.RowKit
set_option maxRecDepth 100000

def inB (a b k : Int) : Bool := decide (a ≤ k ∧ k ≤ b)

theorem isArm_b (k n : Int) (w : World) : Calls Try.prog 148 #[.int .i64 k, .int .i64 n] w (Rd (.bool (decide (0 ≤ k ∧ k < n))) w) := by
  by_cases h : 0 ≤ k
  · by_cases h2 : k < n
    · rw [decide_eq_true ⟨h, h2⟩]
      go_enter Try.func148, Try.ntmps148
      go_wp2
      go_ret
      exact Rd.mk0
    · rw [decide_eq_false (by omega)]
      go_enter Try.func148, Try.ntmps148
      go_wp2
      go_ret
      exact Rd.mk0
  · rw [decide_eq_false (by omega)]
    go_enter Try.func148, Try.ntmps148
    go_wp2
    go_ret
    exact Rd.mk0

theorem l00In_b (k a b : Int) (w : World) : Calls Try.prog 64 #[.int .i64 k, .int .i64 a, .int .i64 b] w (Rd (.bool (inB a b k)) w) := by
  by_cases h : a ≤ k
  · by_cases h2 : k ≤ b
    · rw [show inB a b k = true from decide_eq_true ⟨h, h2⟩]
      go_enter Try.func64, Try.ntmps64
      go_wp2
      go_ret
      exact Rd.mk0
    · rw [show inB a b k = false from decide_eq_false (by omega)]
      go_enter Try.func64, Try.ntmps64
      go_wp2
      go_ret
      exact Rd.mk0
  · rw [show inB a b k = false from decide_eq_false (by omega)]
    go_enter Try.func64, Try.ntmps64
    go_wp2
    go_ret
    exact Rd.mk0

end Go.Proofs.Ytboahhipobcabab
