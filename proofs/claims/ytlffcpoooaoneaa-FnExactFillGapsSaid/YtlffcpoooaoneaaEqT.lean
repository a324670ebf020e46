/-
  CONTRACTS: slices of tallies, wherever they lie, held against each other.
-/
import Derived.Test.YtlffcpoooaoneaaOwnT
namespace Go.Proofs.Ytlffcpoooaoneaa
open Go Go.ChangeShapes Go.WideShapes Go.ChangeAt Go.RowKit
set_option maxRecDepth 100000

theorem eqTallyS_st (v1 v2 : Value) (xs : Ts) (hn : xs.length ≤ 1048576) (w : World) (h1 : STl w v1 xs) (h2 : STl w v2 xs) :
    Calls Try.prog 19 #[v1, v2] w fun e w' => e = .returned (.bool true) ∧ Below w.heap.size w w' := by
  have fr : ∀ {v : Value}, STl w v xs → xs.length ≠ 0 → ∃ g off cap, v = .slice (some ⟨g, off, none⟩) xs.length cap ∧ ∀ k, k < xs.length → ∀ w', Below w.heap.size w w' → (Instr.loadAt 111 (.pointer (some ⟨g, off + k * 3, none⟩))).run Try.prog w' = .ok (.agg (t1 (tn xs k) (tc xs k) (tf xs k))) w' := by
    intro v h hz
    rcases h.val with ⟨rfl, -⟩ | ⟨g, off, cap, rfl, hg, hc⟩
    · exact absurd rfl hz
    · refine ⟨g, off, cap, rfl, fun k hk w' hb => run_loadAt_cells (P := Try.prog) w' g (off + k * 3) 3 111 (t1 (tn xs k) (tc xs k) (tf xs k)) _ (t1_size _ _ _) Try.underlying111 rfl (by kernel_rfl) (fun j hj => ?_)⟩
      rw [← hc k hk j hj]
      unfold World.cell?
      rw [hb.block g hg]
  by_cases z : xs.length = 0
  · obtain ⟨a1, c1, rfl⟩ := h1.any
    obtain ⟨a2, c2, rfl⟩ := h2.any
    rw [z]
    clear fr h1 h2
    go_enter Try.func19, Try.ntmps19
    go_wp2
    go_loopw [5] (fun i wr => i = .int .i64 0 ∧ wr = w) (fun _ _ => 0)
    case atStart => exact ⟨rfl, rfl⟩
    case round =>
      obtain ⟨rfl, rfl⟩ := hrel
      go_wp2
      go_ret
      exact ⟨rfl, Below.refl _ _⟩
  · obtain ⟨g1, off1, cap1, rfl, L1⟩ := fr h1 z
    obtain ⟨g2, off2, cap2, rfl, L2⟩ := fr h2 z
    have HL := Lib.hid (And.intro L1 L2)
    clear fr h1 h2 L1 L2
    obtain ⟨n, hnn⟩ : ∃ n, n = xs.length := ⟨_, rfl⟩
    rw [← hnn] at hn z ⊢
    have HN := Lib.hid hnn
    clear hnn
    go_enter Try.func19, Try.ntmps19
    go_wp2
    go_loopw [5] (fun i wr => ∃ k : Nat, k ≤ n ∧ i = .int .i64 (k : Int) ∧ Hid (Below w.heap.size w wr)) (fun i _ => n - (intOf i).toNat)
    case atStart => exact ⟨0, by omega, rfl, Lib.hid (Below.refl _ _)⟩
    case round =>
      obtain ⟨k, hk, rfl, B1⟩ := hrel
      by_cases hlt : k < n
      · have s2 : IntKind.i64.wrap ((k : Int) + 1) = (k : Int) + 1 := IntWalk.i64_in _ (by omega)
        have kd : (k : Int) < (n : Int) := by omega
        have hkl : k < xs.length := by rw [← HN.out]; exact hlt
        have hC := Cb.const wr
        have M1 := Lib.hid (HL.out.1 k hkl)
        have M2 := Lib.hid (HL.out.2 k hkl)
        clear hkl
        go_wp2
        refine wp_region_cb (by kernel_rfl) (by kernel_rfl) ?_
        repeat (first
          | go_big_quiet_skip
          | (go_big_quiet_want; first
            | (refine q_load 111 _ rfl ⟨g1, off1 + k * 3, none⟩ rfl (.agg (t1 (tn xs k) (tc xs k) (tf xs k))) (fun w' hw' => M1.out w' (bthen B1.out hw')) ?_; go_simp; go_big_quiet_on)
            | (refine q_load 111 _ rfl ⟨g2, off2 + k * 3, none⟩ rfl (.agg (t1 (tn xs k) (tc xs k) (tf xs k))) (fun w' hw' => M2.out w' (bthen B1.out hw')) ?_; go_simp; go_big_quiet_on)
            | (go_big_quiet_op; go_big_quiet_on)
            | (go_big_quiet_op; apply Exists.intro; refine ⟨fun w' hw' => ?_, ?_⟩; (go_at_call 77; exact (eqTally_same _ _ _ _).mono fun _ _ h => ⟨h.1, hw'.step h.2⟩); go_big_quiet_on)))
        refine wpQuiet_nil ?_
        intro w2 hw2
        have B2 := Lib.hid (bthen B1.out hw2)
        clear M1 M2 hC B1 hw2
        go_wp2
        exact ⟨⟨k + 1, by omega, by go_num, B2⟩, by simp [intOf]; omega⟩
      · obtain rfl : n = k := by omega
        go_wp2
        go_ret
        exact ⟨rfl, B1.out⟩

end Go.Proofs.Ytlffcpoooaoneaa
