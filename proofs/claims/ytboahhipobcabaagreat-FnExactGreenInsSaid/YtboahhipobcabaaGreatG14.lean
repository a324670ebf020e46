/-
  SEVERAL TEXTS IN ONE.
-/
import Derived.Test.YtboahhipobcabaaGreatToPlan
import Derived.Test.YtboahhipobcabaaGreatG8
import Derived.Laws.AppendOwn
import Derived.Great.BuildSlice
import Derived.Test.YtboahhipobcabaaGreatPlTo

/-
  CONTRACTS: slices of slots of one's own.
-/
namespace Go.Proofs.YtboahhipobcabaaGreat
open Go Go.ChangeShapes Go.WideShapes Go.ChangeAt Go.RowKit
set_option maxRecDepth 100000

/-- cells of slots, as a list -/
def slL (xs : Slots) : List Value := xs.flatMap sll
theorem slL_toC (xs : Slots) : (slL xs).toArray = slC xs := rfl
theorem slL_length {xs : Slots} (h : SlW xs) : (slL xs).length = xs.length * 9 := slL_len h
theorem slL_at {xs : Slots} (h : SlW xs) {i j : Nat} (hi : i < xs.length) (hj : j < 9) : (slL xs)[i * 9 + j]? = (sl1 (sb xs i) (st xs i))[j]? := by
  have := slC_get h hi hj
  rw [← Array.getElem?_toList] at this
  exact this
theorem sll_one (s : List Bool × Int) : ∀ u ∈ sll s, u.oneCell' = true := by
  intro u hu
  unfold sll at hu
  rcases List.mem_append.1 hu with h | h
  · obtain ⟨b, -, rfl⟩ := List.mem_map.1 h
    rfl
  · simp only [List.mem_singleton] at h
    subst h
    rfl
theorem slL_one (xs : Slots) : ∀ u ∈ slL xs, u.oneCell' = true := by
  intro u hu
  obtain ⟨s, -, hs⟩ := List.mem_flatMap.1 hu
  exact sll_one s u hs
/-- v is a slice of the slots xs, in memory from block lo on -/
def OwnSl (w : World) (lo : Nat) (v : Value) (xs : Slots) : Prop := w.ownsRow lo 55 9 v xs.length (slL xs)
section
variable {w w' : World} {lo : Nat} {v : Value} {xs : Slots}
theorem OwnSl.nil (w : World) (lo : Nat) : OwnSl w lo (.slice none 0 0) [] := ⟨rfl, .inl ⟨rfl, rfl⟩⟩
theorem OwnSl.step (h : OwnSl w lo v xs) (hb : Below w.heap.size w w') : OwnSl w' lo v xs := by
  refine ⟨h.1, h.2.imp id ?_⟩
  rintro ⟨g, cap, cur, rfl, h1, h2, h3, h4, h5, h6⟩
  have hl : g < w.heap.size := (Array.getElem?_eq_some_iff.1 h2).1
  exact ⟨g, cap, cur, rfl, h1, (hb.block g hl).trans h2, h3, h4, h5, h6⟩
theorem OwnSl.low {lo' : Nat} (h : OwnSl w lo v xs) (hl : lo' ≤ lo) : OwnSl w lo' v xs := by
  refine ⟨h.1, h.2.imp id ?_⟩
  rintro ⟨g, cap, cur, rfl, h1, h2⟩
  exact ⟨g, cap, cur, rfl, by omega, h2⟩
theorem OwnSl.any (h : OwnSl w lo v xs) : ∃ a cap, v = .slice a xs.length cap := by
  rcases h.2 with ⟨rfl, e⟩ | ⟨g, cap, cur, rfl, -⟩
  · exact ⟨none, 0, by rw [e]⟩
  · exact ⟨_, cap, rfl⟩
theorem OwnSl.block (h : OwnSl w lo v xs) : ∀ k, v.ownBlock = some k → lo ≤ k ∧ k < w.heap.size := by
  intro k hk
  rcases h.2 with ⟨rfl, -⟩ | ⟨g, cap, cur, rfl, h1, h2, -⟩
  · cases hk
  · have e : g = k := by simpa [Value.ownBlock] using hk
    have hl : g < w.heap.size := (Array.getElem?_eq_some_iff.1 h2).1
    omega
theorem OwnSl.setRow_other (h : OwnSl w lo v xs) {g : Nat} (hne : ∀ k, v.ownBlock = some k → k ≠ g) (c : Array Value) : OwnSl (w.setRow g c) lo v xs := by
  refine ⟨h.1, h.2.imp id ?_⟩
  rintro ⟨g', cap, cur, rfl, h1, h2, h3, h4, h5, h6⟩
  exact ⟨g', cap, cur, rfl, h1, (heap_setRow_other _ _ _ _ (hne g' rfl)).trans h2, h3, h4, h5, h6⟩
theorem OwnSl.alloc (h : OwnSl w lo v xs) (o : Obj) : OwnSl (w.alloc o) lo v xs := h.step (b0 w o)
/-- what is known of a slice that is not empty -/
theorem OwnSl.at (h : OwnSl w lo v xs) (hn : xs.length ≠ 0) : ∃ g cap cur, v = .slice (some ⟨g, 0, none⟩) xs.length cap ∧ lo ≤ g ∧ At w g cur 55 ∧ xs.length ≤ cap ∧ xs.length * 9 ≤ cur.size ∧ ∀ p, p < xs.length * 9 → cur[p]? = (slL xs)[p]? := by
  rcases h.2 with ⟨-, h0⟩ | ⟨g, cap, cur, rfl, h1, h2, h3, h4, h5, h6⟩
  · exact absurd h0 hn
  · refine ⟨g, cap, cur, rfl, h1, h2, h3, by omega, fun p hp => ?_⟩
    rw [← h6, List.getElem?_take_of_lt hp, Array.getElem?_toList]
theorem OwnSl.st (h : OwnSl w lo v xs) (hW : SlW xs) (hm : xs.length ≤ maxLen) : SSl w v xs := by
  refine ⟨?_, hW, hm⟩
  by_cases z : xs.length = 0
  · obtain rfl := List.length_eq_zero_iff.1 z
    obtain ⟨a, cap, rfl⟩ := h.any
    exact .inl ⟨rfl, a, cap, rfl⟩
  · obtain ⟨g, cap, cur, rfl, -, hA, -, -, hc⟩ := h.at z
    refine .inr ⟨g, 0, cap, rfl, hA.lt, fun i hi j hj => ?_⟩
    rw [cell_of_row _ _ _ _ _ _ hA, Nat.zero_add, hc _ (by omega), slL_at hW hi hj]
end
theorem SSl.of_at {w : World} {g cap : Nat} {xs : Slots} {T : TypeId} (h : At w g (slC xs) T) (hW : SlW xs) (hm : xs.length ≤ maxLen) : SSl w (.slice (some ⟨g, 0, none⟩) xs.length cap) xs :=
  ⟨.inr ⟨g, 0, cap, rfl, h.lt, fun i hi j hj => by rw [cell_of_row _ _ _ _ _ _ h, Nat.zero_add, slC_get hW hi hj]⟩, hW, hm⟩
theorem run_noSl (W : World) : (Instr.buildSlice 56 0 #[]).run Tryz.prog W = .ok (.slice (some ⟨W.heap.size, 0, none⟩) 0 0) (W.alloc (.cells #[] 55)) := by kernel_rfl
theorem OwnSl.empty (w : World) {lo : Nat} (hl : lo ≤ w.heap.size) : (w.alloc (.cells #[] 55)).ownsRow lo 55 9 (.slice (some ⟨w.heap.size, 0, none⟩) 0 0) 0 [] :=
  ⟨rfl, .inr ⟨w.heap.size, 0, #[], rfl, hl, At.new w #[] 55, Nat.le_refl _, by unfold maxLen; omega, rfl, rfl⟩⟩
theorem sl_cells {w : World} {g : Nat} {xs : Slots} {T : TypeId} (hA : At w g (slC xs) T) : ∀ j u, (slL xs)[j]? = some u → w.cell? ((⟨g, 0, none⟩ : Addr).add j) = some u := by
  intro j u h
  have e : (⟨g, 0, none⟩ : Addr).add j = ⟨g, j, none⟩ := by
    unfold Addr.add
    by_cases z : j = 0
    · subst z; rfl
    · rw [if_neg z]; congr 1; show 0 + j = j; omega
  rw [e]
  refine hA.cell ?_
  rw [← Array.getElem?_toList]
  exact h
theorem info_slot : ∃ i : TypeInfo, Tryz.prog.info? 55 = some i ∧ i.zero = some (.agg #[.bool false, .bool false, .bool false, .bool false, .bool false, .bool false, .bool false, .bool false, .int .i64 0]) ∧ i.size = 9 ∧ i.bytes = 16 := by
  have hi : (Tryz.prog.info? 55).map (fun i => (i.zero, i.size, i.bytes)) = some (some (.agg #[.bool false, .bool false, .bool false, .bool false, .bool false, .bool false, .bool false, .bool false, .int .i64 0]), 9, 16) := by kernel_rfl
  obtain ⟨i, h1, h2, h3, h4⟩ := info_parts hi
  exact ⟨i, h1, h2, h3, h4⟩
theorem BelowSl.grownBy {w w' : World} {r : Option Nat} {B : Nat} (h : w.grownBy w' r) (hB : B ≤ w.heap.size) (hr : ∀ k, r = some k → B ≤ k) : Below B w w' :=
  ⟨h.os, h.tape, h.output, h.size, fun k hk => h.block k (by omega) (fun e => by have := hr k e.symm; omega)⟩
/-- what an answer that is a plan and a code is -/
structure PR (w w' : World) (xs : Slots) (b o c : Int) (e : Ending) : Prop where
  ex : ∃ v, e = .returned (.tuple #[.agg (plC v b o), .int .i64 c]) ∧ OwnSl w' w.heap.size v xs
  below : Below w.heap.size w w'

end Go.Proofs.YtboahhipobcabaaGreat

/-
  CONTRACTS: slices of slots, wherever they lie, and plans, held against each other.
-/
namespace Go.Proofs.YtboahhipobcabaaGreat
open Go Go.ChangeShapes Go.WideShapes Go.ChangeAt Go.RowKit
set_option maxRecDepth 100000

theorem eqSlotS_st (v1 v2 : Value) (xs : Slots) (hn : xs.length ≤ 1048576) (w : World) (h1 : SSl w v1 xs) (h2 : SSl w v2 xs) :
    Calls Tryz.prog 112 #[v1, v2] w fun e w' => e = .returned (.bool true) ∧ Below w.heap.size w w' := by
  have hW := h1.wf
  have fr : ∀ {v : Value}, SSl w v xs → xs.length ≠ 0 → ∃ g off cap, v = .slice (some ⟨g, off, none⟩) xs.length cap ∧ ∀ k, k < xs.length → ∀ w', Below w.heap.size w w' → (Instr.loadAt 55 (.pointer (some ⟨g, off + k * 9, none⟩))).run Tryz.prog w' = .ok (.agg (sl1 (sb xs k) (st xs k))) w' := by
    intro v h hz
    rcases h.val with ⟨rfl, -⟩ | ⟨g, off, cap, rfl, hg, hc⟩
    · exact absurd rfl hz
    · refine ⟨g, off, cap, rfl, fun k hk w' hb => run_loadAt_cells (P := Tryz.prog) w' g (off + k * 9) 9 55 (sl1 (sb xs k) (st xs k)) _ (sl1_size (hW.at hk).1 _) Tryz.underlying55 rfl (by kernel_rfl) (fun j hj => ?_)⟩
      rw [← hc k hk j hj]
      unfold World.cell?
      rw [hb.block g hg]
  by_cases z : xs.length = 0
  · obtain ⟨a1, c1, rfl⟩ := h1.any
    obtain ⟨a2, c2, rfl⟩ := h2.any
    rw [z]
    clear fr h1 h2
    go_enter Tryz.func112, Tryz.ntmps112
    go_wp2
    go_loopw [5] (fun i wr => i = .int .i64 0 ∧ wr = w) (fun _ _ => 0)
    case atStart => exact ⟨rfl, rfl⟩
    case round =>
      obtain ⟨rfl, rfl⟩ := hrel
      go_wp2
      go_ret
      exact ⟨rfl, Below.refl _ _⟩
  · obtain ⟨g1, off1, cap1, rfl, L1⟩ := fr h1 z
    obtain ⟨g2, off2, cap2, rfl, L2⟩ := fr h2 z
    have HL := Lib.hid (And.intro L1 L2)
    have HW := Lib.hid hW
    clear fr h1 h2 L1 L2 hW
    obtain ⟨n, hnn⟩ : ∃ n, n = xs.length := ⟨_, rfl⟩
    rw [← hnn] at hn z ⊢
    have HN := Lib.hid hnn
    clear hnn
    go_enter Tryz.func112, Tryz.ntmps112
    go_wp2
    go_loopw [5] (fun i wr => ∃ k : Nat, k ≤ n ∧ i = .int .i64 (k : Int) ∧ Hid (Below w.heap.size w wr)) (fun i _ => n - (intOf i).toNat)
    case atStart => exact ⟨0, by omega, rfl, Lib.hid (Below.refl _ _)⟩
    case round =>
      obtain ⟨k, hk, rfl, B1⟩ := hrel
      by_cases hlt : k < n
      · have s2 : IntKind.i64.wrap ((k : Int) + 1) = (k : Int) + 1 := IntWalk.i64_in _ (by omega)
        have kd : (k : Int) < (n : Int) := by omega
        have hkl : k < xs.length := by rw [← HN.out]; exact hlt
        have hb := (HW.out.at hkl).1
        have hC := Cb.const wr
        have M1 := Lib.hid (HL.out.1 k hkl)
        have M2 := Lib.hid (HL.out.2 k hkl)
        clear hkl
        go_wp2
        refine wp_region_cb (by kernel_rfl) (by kernel_rfl) ?_
        repeat (first
          | go_big_quiet_skip
          | (go_big_quiet_want; first
            | (refine q_load 55 _ rfl ⟨g1, off1 + k * 9, none⟩ rfl (.agg (sl1 (sb xs k) (st xs k))) (fun w' hw' => M1.out w' (bthen B1.out hw')) ?_; go_simp; go_big_quiet_on)
            | (refine q_load 55 _ rfl ⟨g2, off2 + k * 9, none⟩ rfl (.agg (sl1 (sb xs k) (st xs k))) (fun w' hw' => M2.out w' (bthen B1.out hw')) ?_; go_simp; go_big_quiet_on)
            | (go_big_quiet_op; go_big_quiet_on)
            | (go_big_quiet_op; apply Exists.intro; refine ⟨fun w' hw' => ?_, ?_⟩; (go_at_call 143; exact (eqSlot_same (sb xs k) hb (st xs k) _).mono fun _ _ h => ⟨h.1, hw'.step h.2⟩); go_big_quiet_on)))
        refine wpQuiet_nil ?_
        intro w2 hw2
        have B2 := Lib.hid (bthen B1.out hw2)
        clear M1 M2 hC B1 hw2
        go_wp2
        exact ⟨⟨k + 1, by omega, by go_num, B2⟩, by simp [intOf]; omega⟩
      · obtain rfl : n = k := by omega
        go_wp2
        go_ret
        exact ⟨rfl, B1.out⟩
theorem eqPlan_st (a1 a2 : Option Addr) (c1 c2 : Nat) (xs : Slots) (b o : Int) (hn : xs.length ≤ 1048576) (w : World) (h1 : SSl w (.slice a1 xs.length c1) xs) (h2 : SSl w (.slice a2 xs.length c2) xs) :
    Calls Tryz.prog 64 #[.agg (plC (.slice a1 xs.length c1) b o), .agg (plC (.slice a2 xs.length c2) b o)] w fun e w' => e = .returned (.bool true) ∧ Below w.heap.size w w' := by
  have T0 := Two.mk w (plC (.slice a1 xs.length c1) b o) 58 (plC (.slice a2 xs.length c2) b o) 58
  have H1 := h1.step (Nat.le_refl _) T0.2.2
  have H2 := h2.step (Nat.le_refl _) T0.2.2
  have KS := eqSlotS_st _ _ xs hn _ H1 H2
  have HT := Lib.hid T0
  clear H1 H2 T0 h1 h2
  have X1 : At _ w.heap.size _ _ := HT.out.1
  have X2 : At _ (w.heap.size + 1) _ _ := HT.out.2.1
  go_enter Tryz.func64, Tryz.ntmps64
  go_wp2_with (first | ((with_reducible refine is_load 56 _ rfl ?_); refine wpList_load_cell rfl 56 _ rfl _ 0 rfl (plC (.slice a1 xs.length c1) b o) _ (by with_reducible assumption) _ Tryz.underlying56 rfl (.slice a1 xs.length c1) (plC_0 _ _ _) ?_) | ((with_reducible refine is_load 56 _ rfl ?_); refine wpList_load_cell rfl 56 _ rfl _ 0 rfl (plC (.slice a2 xs.length c2) b o) _ (by with_reducible assumption) _ Tryz.underlying56 rfl (.slice a2 xs.length c2) (plC_0 _ _ _) ?_))
  refine KS.mono ?_
  rintro e w1 ⟨rfl, hb1⟩
  have T1 := HT.out.step hb1
  have c1 := T1.cell1 (k := 1) (v := .int .i64 b) (plC_1 _ _ _)
  have c2 := T1.cell2 (k := 1) (v := .int .i64 b) (plC_1 _ _ _)
  have c3 := T1.cell1 (k := 2) (v := .int .i64 o) (plC_2 _ _ _)
  have c4 := T1.cell2 (k := 2) (v := .int .i64 o) (plC_2 _ _ _)
  have B1 := Lib.hid T1.2.2
  clear HT T1 hb1 KS
  go_wp2_with fail
  go_ret
  exact ⟨rfl, B1.out⟩

end Go.Proofs.YtboahhipobcabaaGreat

/-
  CONTRACTS: slices of plans held against each other.
-/
namespace Go.Proofs.YtboahhipobcabaaGreat
open Go Go.ChangeShapes Go.WideShapes Go.ChangeAt Go.RowKit
set_option maxRecDepth 100000

theorem PSl.of_at {w : World} {G cap : Nat} {gs : Nat → Nat} {ps : Ps} {T : TypeId} (hA : At w G (pvC (pvs gs ps ps.length ps.length)) T) (hg : ∀ i, i < ps.length → At w (gs i) (slC (pS ps i)) 55) (hW : ∀ i, i < ps.length → SlW (pS ps i)) (hL : ∀ i, i < ps.length → (pS ps i).length ≤ maxLen) (hm : ps.length ≤ maxLen) : PSl w (.slice (some ⟨G, 0, none⟩) ps.length cap) ps := by
  refine ⟨.inr ⟨G, 0, cap, rfl, hA.lt, fun i hi => ⟨some ⟨gs i, 0, none⟩, (pS ps i).length, SSl.of_at (hg i hi) (hW i hi) (hL i hi), fun j hj => ?_⟩⟩, hm⟩
  rw [cell_of_row _ _ _ _ _ _ hA, Nat.zero_add]
  exact pvC_get (by rw [pvs_len]; exact hi) hj (pvs_at hi hi)

set_option maxHeartbeats 1000000 in
theorem eqPlanS_st (v1 v2 : Value) (ps : Ps) (hn : ps.length ≤ 1048576) (hN : ∀ k, k < ps.length → (pS ps k).length ≤ 1048576) (w : World) (h1 : PSl w v1 ps) (h2 : PSl w v2 ps) :
    Calls Tryz.prog 37 #[v1, v2] w fun e w' => e = .returned (.bool true) ∧ Below w.heap.size w w' := by
  by_cases z : ps.length = 0
  · obtain ⟨a1, c1, rfl⟩ := h1.any
    obtain ⟨a2, c2, rfl⟩ := h2.any
    rw [z]
    clear h1 h2
    go_enter Tryz.func37, Tryz.ntmps37
    go_wp2
    go_loopw [5] (fun i wr => i = .int .i64 0 ∧ wr = w) (fun _ _ => 0)
    case atStart => exact ⟨rfl, rfl⟩
    case round =>
      obtain ⟨rfl, rfl⟩ := hrel
      go_wp2
      go_ret
      exact ⟨rfl, Below.refl _ _⟩
  · obtain ⟨g1, off1, cap1, rfl, L1⟩ := h1.get z 58 _ Tryz.underlying58 (by kernel_rfl)
    obtain ⟨g2, off2, cap2, rfl, L2⟩ := h2.get z 58 _ Tryz.underlying58 (by kernel_rfl)
    have HL := Lib.hid (And.intro L1 (And.intro L2 hN))
    clear h1 h2 L1 L2 hN
    obtain ⟨n, hnn⟩ : ∃ n, n = ps.length := ⟨_, rfl⟩
    rw [← hnn] at hn z ⊢
    have HN := Lib.hid hnn
    clear hnn
    go_enter Tryz.func37, Tryz.ntmps37
    go_wp2
    go_loopw [5] (fun i wr => ∃ k : Nat, k ≤ n ∧ i = .int .i64 (k : Int) ∧ Hid (Below w.heap.size w wr)) (fun i _ => n - (intOf i).toNat)
    case atStart => exact ⟨0, by omega, rfl, Lib.hid (Below.refl _ _)⟩
    case round =>
      obtain ⟨k, hk, rfl, B1⟩ := hrel
      by_cases hlt : k < n
      · have s2 : IntKind.i64.wrap ((k : Int) + 1) = (k : Int) + 1 := IntWalk.i64_in _ (by omega)
        have kd : (k : Int) < (n : Int) := by omega
        have hkl : k < ps.length := by rw [← HN.out]; exact hlt
        obtain ⟨a1, c1, S1, M1⟩ := HL.out.1 k hkl
        obtain ⟨a2, c2, S2, M2⟩ := HL.out.2.1 k hkl
        have hq := HL.out.2.2 k hkl
        have KE := fun w' (hb : Below w.heap.size w w') => eqPlan_st a1 a2 c1 c2 (pS ps k) (pB ps k) (pO ps k) hq w' (S1.step (Nat.le_refl _) hb) (S2.step (Nat.le_refl _) hb)
        have M1 := Lib.hid M1
        have M2 := Lib.hid M2
        have hC := Cb.const wr
        clear hkl S1 S2 hq
        generalize pB ps k = b at *
        generalize pO ps k = o at *
        generalize (pS ps k).length = ln at *
        go_wp2
        refine wp_region_cb (by kernel_rfl) (by kernel_rfl) ?_
        repeat (first
          | go_big_quiet_skip
          | (go_big_quiet_want; first
            | (refine q_load 58 _ rfl ⟨g1, off1 + k * 3, none⟩ rfl (.agg (plC (.slice a1 ln c1) b o)) (fun w' hw' => M1.out w' (bthen B1.out hw')) ?_; go_simp; go_big_quiet_on)
            | (refine q_load 58 _ rfl ⟨g2, off2 + k * 3, none⟩ rfl (.agg (plC (.slice a2 ln c2) b o)) (fun w' hw' => M2.out w' (bthen B1.out hw')) ?_; go_simp; go_big_quiet_on)
            | (go_big_quiet_op; go_big_quiet_on)
            | (go_big_quiet_op; apply Exists.intro; refine ⟨fun w' hw' => ?_, ?_⟩; (go_at_call 64; exact (KE _ (bthen B1.out hw')).mono fun _ _ h => ⟨h.1, hw'.step h.2⟩); go_big_quiet_on)))
        refine wpQuiet_nil ?_
        intro w2 hw2
        have B2 := Lib.hid (bthen B1.out hw2)
        clear M1 M2 hC B1 hw2 KE
        go_wp2
        exact ⟨⟨k + 1, by omega, by go_num, B2⟩, by simp [intOf]; omega⟩
      · obtain rfl : n = k := by omega
        go_wp2
        go_ret
        exact ⟨rfl, B1.out⟩

end Go.Proofs.YtboahhipobcabaaGreat
