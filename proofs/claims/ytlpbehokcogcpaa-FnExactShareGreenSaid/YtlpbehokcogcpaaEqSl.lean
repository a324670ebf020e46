/-
  CONTRACTS: slices of slots, wherever they lie, and plans, held against each other.
-/
import Derived.Test.YtlpbehokcogcpaaOwnSl
namespace Go.Proofs.Ytlpbehokcogcpaa
open Go Go.ChangeShapes Go.WideShapes Go.ChangeAt Go.RowKit
set_option maxRecDepth 100000

theorem eqSlotS_st (v1 v2 : Value) (xs : Slots) (hn : xs.length ≤ 1048576) (w : World) (h1 : SSl w v1 xs) (h2 : SSl w v2 xs) :
    Calls Try.prog 29 #[v1, v2] w fun e w' => e = .returned (.bool true) ∧ Below w.heap.size w w' := by
  have hW := h1.wf
  have fr : ∀ {v : Value}, SSl w v xs → xs.length ≠ 0 → ∃ g off cap, v = .slice (some ⟨g, off, none⟩) xs.length cap ∧ ∀ k, k < xs.length → ∀ w', Below w.heap.size w w' → (Instr.loadAt 49 (.pointer (some ⟨g, off + k * 9, none⟩))).run Try.prog w' = .ok (.agg (sl1 (sb xs k) (st xs k))) w' := by
    intro v h hz
    rcases h.val with ⟨rfl, -⟩ | ⟨g, off, cap, rfl, hg, hc⟩
    · exact absurd rfl hz
    · refine ⟨g, off, cap, rfl, fun k hk w' hb => run_loadAt_cells (P := Try.prog) w' g (off + k * 9) 9 49 (sl1 (sb xs k) (st xs k)) _ (sl1_size (hW.at hk).1 _) Try.underlying49 rfl (by kernel_rfl) (fun j hj => ?_)⟩
      rw [← hc k hk j hj]
      unfold World.cell?
      rw [hb.block g hg]
  by_cases z : xs.length = 0
  · obtain ⟨a1, c1, rfl⟩ := h1.any
    obtain ⟨a2, c2, rfl⟩ := h2.any
    rw [z]
    clear fr h1 h2
    go_enter Try.func29, Try.ntmps29
    go_wp2
    go_loopw [5] (fun i wr => i = .int .i64 0 ∧ wr = w) (fun _ _ => 0)
    case atStart => exact ⟨rfl, rfl⟩
    case round =>
      obtain ⟨rfl, rfl⟩ := hrel
      go_wp2
      go_ret
      exact ⟨rfl, Below.refl _ _⟩
  · obtain ⟨g1, off1, cap1, rfl, L1⟩ := fr h1 z
    obtain ⟨g2, off2, cap2, rfl, L2⟩ := fr h2 z
    have HL := Lib.hid (And.intro L1 L2)
    have HW := Lib.hid hW
    clear fr h1 h2 L1 L2 hW
    obtain ⟨n, hnn⟩ : ∃ n, n = xs.length := ⟨_, rfl⟩
    rw [← hnn] at hn z ⊢
    have HN := Lib.hid hnn
    clear hnn
    go_enter Try.func29, Try.ntmps29
    go_wp2
    go_loopw [5] (fun i wr => ∃ k : Nat, k ≤ n ∧ i = .int .i64 (k : Int) ∧ Hid (Below w.heap.size w wr)) (fun i _ => n - (intOf i).toNat)
    case atStart => exact ⟨0, by omega, rfl, Lib.hid (Below.refl _ _)⟩
    case round =>
      obtain ⟨k, hk, rfl, B1⟩ := hrel
      by_cases hlt : k < n
      · have s2 : IntKind.i64.wrap ((k : Int) + 1) = (k : Int) + 1 := IntWalk.i64_in _ (by omega)
        have kd : (k : Int) < (n : Int) := by omega
        have hkl : k < xs.length := by rw [← HN.out]; exact hlt
        have hb := (HW.out.at hkl).1
        have hC := Cb.const wr
        have M1 := Lib.hid (HL.out.1 k hkl)
        have M2 := Lib.hid (HL.out.2 k hkl)
        clear hkl
        go_wp2
        refine wp_region_cb (by kernel_rfl) (by kernel_rfl) ?_
        repeat (first
          | go_big_quiet_skip
          | (go_big_quiet_want; first
            | (refine q_load 49 _ rfl ⟨g1, off1 + k * 9, none⟩ rfl (.agg (sl1 (sb xs k) (st xs k))) (fun w' hw' => M1.out w' (bthen B1.out hw')) ?_; go_simp; go_big_quiet_on)
            | (refine q_load 49 _ rfl ⟨g2, off2 + k * 9, none⟩ rfl (.agg (sl1 (sb xs k) (st xs k))) (fun w' hw' => M2.out w' (bthen B1.out hw')) ?_; go_simp; go_big_quiet_on)
            | (go_big_quiet_op; go_big_quiet_on)
            | (go_big_quiet_op; apply Exists.intro; refine ⟨fun w' hw' => ?_, ?_⟩; (go_at_call 44; exact (eqSlot_same (sb xs k) hb (st xs k) _).mono fun _ _ h => ⟨h.1, hw'.step h.2⟩); go_big_quiet_on)))
        refine wpQuiet_nil ?_
        intro w2 hw2
        have B2 := Lib.hid (bthen B1.out hw2)
        clear M1 M2 hC B1 hw2
        go_wp2
        exact ⟨⟨k + 1, by omega, by go_num, B2⟩, by simp [intOf]; omega⟩
      · obtain rfl : n = k := by omega
        go_wp2
        go_ret
        exact ⟨rfl, B1.out⟩

theorem eqPlan_st (a1 a2 : Option Addr) (c1 c2 : Nat) (xs : Slots) (b o : Int) (hn : xs.length ≤ 1048576) (w : World) (h1 : SSl w (.slice a1 xs.length c1) xs) (h2 : SSl w (.slice a2 xs.length c2) xs) :
    Calls Try.prog 10 #[.agg (plC (.slice a1 xs.length c1) b o), .agg (plC (.slice a2 xs.length c2) b o)] w fun e w' => e = .returned (.bool true) ∧ Below w.heap.size w w' := by
  have T0 := Two.mk w (plC (.slice a1 xs.length c1) b o) 28 (plC (.slice a2 xs.length c2) b o) 28
  have H1 := h1.step (Nat.le_refl _) T0.2.2
  have H2 := h2.step (Nat.le_refl _) T0.2.2
  have KS := eqSlotS_st _ _ xs hn _ H1 H2
  have HT := Lib.hid T0
  clear H1 H2 T0 h1 h2
  have X1 : At _ w.heap.size _ _ := HT.out.1
  have X2 : At _ (w.heap.size + 1) _ _ := HT.out.2.1
  go_enter Try.func10, Try.ntmps10
  go_wp2_with (first | ((with_reducible refine is_load 26 _ rfl ?_); refine wpList_load_cell rfl 26 _ rfl _ 0 rfl (plC (.slice a1 xs.length c1) b o) _ (by with_reducible assumption) _ Try.underlying26 rfl (.slice a1 xs.length c1) (plC_0 _ _ _) ?_) | ((with_reducible refine is_load 26 _ rfl ?_); refine wpList_load_cell rfl 26 _ rfl _ 0 rfl (plC (.slice a2 xs.length c2) b o) _ (by with_reducible assumption) _ Try.underlying26 rfl (.slice a2 xs.length c2) (plC_0 _ _ _) ?_))
  refine KS.mono ?_
  rintro e w1 ⟨rfl, hb1⟩
  have T1 := HT.out.step hb1
  have c1 := T1.cell1 (k := 1) (v := .int .i64 b) (plC_1 _ _ _)
  have c2 := T1.cell2 (k := 1) (v := .int .i64 b) (plC_1 _ _ _)
  have c3 := T1.cell1 (k := 2) (v := .int .i64 o) (plC_2 _ _ _)
  have c4 := T1.cell2 (k := 2) (v := .int .i64 o) (plC_2 _ _ _)
  have B1 := Lib.hid T1.2.2
  clear HT T1 hb1 KS
  go_wp2_with fail
  go_ret
  exact ⟨rfl, B1.out⟩

end Go.Proofs.Ytlpbehokcogcpaa
