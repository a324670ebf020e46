/-
  CONTRACTS: SetTurn, the program's.
-/
import Derived.Test.YtafgcjjgnjialaaTurned
import Derived.Test.YtafgcjjgnjialaaHeldOps
namespace Go.Proofs.Ytafgcjjgnjialaa
open Go Go.RowKit
set_option maxRecDepth 100000

theorem run_indexA {P : Program} (w : World) (ty e : TypeId) (n k s : Nat) (g off : Nat) (hu : P.underlying ty = some (.array n e)) (he : (P.info? e).map (·.size) = some s) (hk : k < n) :
    (Instr.indexAt ty (.pointer (some ⟨g, off, none⟩)) (.int .i64 k)).run P w = .ok (.pointer (some ⟨g, off + k * s, none⟩)) w := by
  cases hq : P.info? e with
  | none => simp [hq] at he
  | some i =>
    have hs : i.size = s := by simpa [hq] using he
    by_cases h0 : k * s = 0
    · simp [Instr.indexAt, Instr.sureAddr, asIntOf, run_underlying hu, hk, sizeOf, typeInfo, hq, hs, Addr.add, h0]
    · simp [Instr.indexAt, Instr.sureAddr, asIntOf, run_underlying hu, hk, sizeOf, typeInfo, hq, hs, Addr.add, h0]
/-- what a valid row is like -/
theorem okJ_rowTo {i o : Int} {ts ps : List Nat} (hl : ts.length = 16) (h : okJ i o ts ps = true) {k : Nat} (hk : k < 4) : (∀ c, nth (row4 ts k) c ≤ 1065353216) ∧ ∀ c : Nat, o ≤ (c : Int) → c < 4 → nth (row4 ts k) c = 0 := by
  refine ⟨fun c => ?_, fun c h1 h2 => ?_⟩
  · rcases Nat.lt_or_ge c 4 with hc | hc
    · rw [row4_nth hl k hc]
      exact okJ_turns hl h _ (nth_mem (by omega))
    · unfold nth
      rw [List.getD_eq_getElem?_getD, List.getElem?_eq_none (by rw [row4_len hl hk]; exact hc)]
      exact Nat.zero_le _
  · rw [okJ_model] at h
    have hr : rowsSTo i o ts ps 4 = true := by simp at h; exact h.2
    have h1' : rowS i o ts ps k = true := List.all_eq_true.1 hr _ (by simp; omega)
    have h2' : cellsTo i o k (row4 ts k) 4 = true := by unfold rowS at h1'; simp at h1'; exact h1'.1
    have h3 := cellsTo_at h2 h2'
    unfold cellOk at h3
    simp at h3
    rcases h3.2 with e | e
    · exact e
    · omega
theorem nth_tg {ts : List Nat} (hl : ts.length = 16) {k : Nat} {p : Nat} (hp : p / 4 = k) : nth (row4 ts k) (p % 4) = nth ts p := by
  rw [row4_nth hl k (by omega), show 4 * k + p % 4 = p from by omega]
theorem putRow_agr {ts r : List Nat} (hl : ts.length = 16) (hct : ∀ x ∈ ts, x < 4294967296) (hr : r.length = 4) {k : Nat} (hk : k < 4) {o n x : Nat} (h : ∀ c, c < 4 → Agr (nth r c) (if c < o then tgC o n x (row4 ts k) c else nth (row4 ts k) c)) : AgrL (putRow ts k r) (tgT o k n x ts) := by
  refine ⟨putRow_len hl hr hk, tgT_len _ _ _ _ _, fun p hp => ?_⟩
  rw [putRow_nth hl hr hk, tgT_nth _ _ _ _ _ hp]
  by_cases hpk : p / 4 = k
  · rw [if_pos hpk]
    have := h (p % 4) (by omega)
    by_cases ho : p % 4 < o
    · rw [if_pos ho] at this; rw [if_pos ⟨hpk, ho⟩]; exact this
    · rw [if_neg ho, nth_tg hl hpk] at this; rw [if_neg (fun e => ho e.2)]; exact this
  · rw [if_neg hpk, if_neg (fun e => hpk e.1)]
    exact Agr.refl (u32_lt hct p)

set_option maxHeartbeats 4000000 in
theorem SetTurn_b (i o : Int) (ts ps : List Nat) (hi : -9223372036854775808 ≤ i ∧ i ≤ 9223372036854775807) (ho : -9223372036854775808 ≤ o ∧ o ≤ 9223372036854775807) (hlt : ts.length = 16) (hlp : ps.length = 4) (hct : ∀ x ∈ ts, x < 4294967296) (hcp : ∀ x ∈ ps, x < 4294967296) (k : Int) (hk : -9223372036854775808 ≤ k ∧ k ≤ 9223372036854775807) (n : Int) (hn : -9223372036854775808 ≤ n ∧ n ≤ 9223372036854775807) (x : Nat) (hx : x < 4294967296) (w : World) :
    Calls Try.prog 17 #[.agg (jn i o ts ps), .int .i64 k, .int .i64 n, .float .f32 x] w fun e w' => e = .returned (.tuple #[.agg (jn (vSetTurn i o ts ps k n x).1 (vSetTurn i o ts ps k n x).2.1 (vSetTurn i o ts ps k n x).2.2.1 (vSetTurn i o ts ps k n x).2.2.2.1), .int .i64 (vSetTurn i o ts ps k n x).2.2.2.2]) ∧ Below w.heap.size w w' := by
  have A0 : At ((w.alloc (.cells (jn i o ts ps) 30)).alloc (.cells (#[.int .i64 0, .int .i64 0, .float .f32 0, .float .f32 0, .float .f32 0, .float .f32 0, .float .f32 0, .float .f32 0, .float .f32 0, .float .f32 0, .float .f32 0, .float .f32 0, .float .f32 0, .float .f32 0, .float .f32 0, .float .f32 0, .float .f32 0, .float .f32 0, .float .f32 0, .float .f32 0, .float .f32 0, .float .f32 0]) 30)) w.heap.size (jn i o ts ps) 30 := (At.new w _ _).alloc _
  have R0 : At ((w.alloc (.cells (jn i o ts ps) 30)).alloc (.cells (#[.int .i64 0, .int .i64 0, .float .f32 0, .float .f32 0, .float .f32 0, .float .f32 0, .float .f32 0, .float .f32 0, .float .f32 0, .float .f32 0, .float .f32 0, .float .f32 0, .float .f32 0, .float .f32 0, .float .f32 0, .float .f32 0, .float .f32 0, .float .f32 0, .float .f32 0, .float .f32 0, .float .f32 0, .float .f32 0]) 30)) (w.heap.size + 1) (#[.int .i64 0, .int .i64 0, .float .f32 0, .float .f32 0, .float .f32 0, .float .f32 0, .float .f32 0, .float .f32 0, .float .f32 0, .float .f32 0, .float .f32 0, .float .f32 0, .float .f32 0, .float .f32 0, .float .f32 0, .float .f32 0, .float .f32 0, .float .f32 0, .float .f32 0, .float .f32 0, .float .f32 0, .float .f32 0]) 30 := At.last1 w _ _ _
  have B0 := Lib.hid (bnew (b0 w (.cells (jn i o ts ps) 30)) (.cells (#[.int .i64 0, .int .i64 0, .float .f32 0, .float .f32 0, .float .f32 0, .float .f32 0, .float .f32 0, .float .f32 0, .float .f32 0, .float .f32 0, .float .f32 0, .float .f32 0, .float .f32 0, .float .f32 0, .float .f32 0, .float .f32 0, .float .f32 0, .float .f32 0, .float .f32 0, .float .f32 0, .float .f32 0, .float .f32 0]) 30))
  have SZ := jn_size hlt hlp i o
  cases h : okJ i o ts ps
  · have ev : (vSetTurn i o ts ps k n x) = (0, 0, zeros 16, zeros 4, 1) := by unfold vSetTurn; rw [h]; rfl
    rw [ev]
    clear ev
    go_enter Try.func17, Try.ntmps17
    go_wp2_with (((with_reducible refine is_load 30 _ rfl ?_); refine wpList_load_at rfl 30 _ rfl _ rfl (jn i o ts ps) _ A0 22 (SZ) _ Try.underlying30 rfl (by kernel_rfl) ?_))
    refine (ValidJunction_b i o ts ps hi ho hlt hlp hct hcp _).mono ?_
    rw [h]
    rintro e w1 ⟨rfl, hb1⟩
    have A1 := A0.step hb1
    have R1 := R0.step hb1
    have B1 := Lib.hid (bthen B0.out hb1)
    clear A0 R0 B0 hb1
    have R9 := R1.setRow (#[.int .i64 0, .int .i64 0, .float .f32 0, .float .f32 0, .float .f32 0, .float .f32 0, .float .f32 0, .float .f32 0, .float .f32 0, .float .f32 0, .float .f32 0, .float .f32 0, .float .f32 0, .float .f32 0, .float .f32 0, .float .f32 0, .float .f32 0, .float .f32 0, .float .f32 0, .float .f32 0, .float .f32 0, .float .f32 0])
    have B9 := Lib.hid (bset B1.out (g := w.heap.size + 1) (by omega) (#[.int .i64 0, .int .i64 0, .float .f32 0, .float .f32 0, .float .f32 0, .float .f32 0, .float .f32 0, .float .f32 0, .float .f32 0, .float .f32 0, .float .f32 0, .float .f32 0, .float .f32 0, .float .f32 0, .float .f32 0, .float .f32 0, .float .f32 0, .float .f32 0, .float .f32 0, .float .f32 0, .float .f32 0, .float .f32 0]))
    go_wp2_with (((with_reducible refine is_store 30 (.tmp 8) (.tmp 13) rfl ?_); refine wpList_store_at rfl 30 (.tmp 8) (.tmp 13) rfl _ rfl (#[.int .i64 0, .int .i64 0, .float .f32 0, .float .f32 0, .float .f32 0, .float .f32 0, .float .f32 0, .float .f32 0, .float .f32 0, .float .f32 0, .float .f32 0, .float .f32 0, .float .f32 0, .float .f32 0, .float .f32 0, .float .f32 0, .float .f32 0, .float .f32 0, .float .f32 0, .float .f32 0, .float .f32 0, .float .f32 0]) rfl (#[.int .i64 0, .int .i64 0, .float .f32 0, .float .f32 0, .float .f32 0, .float .f32 0, .float .f32 0, .float .f32 0, .float .f32 0, .float .f32 0, .float .f32 0, .float .f32 0, .float .f32 0, .float .f32 0, .float .f32 0, .float .f32 0, .float .f32 0, .float .f32 0, .float .f32 0, .float .f32 0, .float .f32 0, .float .f32 0]) _ (by assumption) 22 ((by rw [zlit]; exact jn_size (zeros_len 16) (zeros_len 4) _ _)) ((by rw [zlit]; exact jn_size (zeros_len 16) (zeros_len 4) _ _)) (by kernel_rfl) ((by rw [zlit]; exact jn_one _ _ _ _)) ?_))
    rw [← zlit]
    exact bodyPost_ret (v := .tuple #[.agg (#[.int .i64 0, .int .i64 0, .float .f32 0, .float .f32 0, .float .f32 0, .float .f32 0, .float .f32 0, .float .f32 0, .float .f32 0, .float .f32 0, .float .f32 0, .float .f32 0, .float .f32 0, .float .f32 0, .float .f32 0, .float .f32 0, .float .f32 0, .float .f32 0, .float .f32 0, .float .f32 0, .float .f32 0, .float .f32 0]), .int .i64 1]) (results_at_tmp (p := 8) (ty := 30) rfl _ _ _ (#[.int .i64 0, .int .i64 0, .float .f32 0, .float .f32 0, .float .f32 0, .float .f32 0, .float .f32 0, .float .f32 0, .float .f32 0, .float .f32 0, .float .f32 0, .float .f32 0, .float .f32 0, .float .f32 0, .float .f32 0, .float .f32 0, .float .f32 0, .float .f32 0, .float .f32 0, .float .f32 0, .float .f32 0, .float .f32 0]) _ (.int .i64 1) rfl rfl R9 _ Try.underlying30 rfl 22 ((by rw [zlit]; exact jn_size (zeros_len 16) (zeros_len 4) _ _)) (by kernel_rfl)) rfl ⟨rfl, B9.out⟩
  have hb := okJ_arms h
  by_cases hki : 0 ≤ k ∧ k < i
  · obtain ⟨q, rfl⟩ := Int.eq_ofNat_of_zero_le hki.1
    have hq : q < 4 := by omega
    by_cases hno : 0 ≤ n ∧ n < o
    · obtain ⟨m, rfl⟩ := Int.eq_ofNat_of_zero_le hno.1
      obtain ⟨c, rfl⟩ := Int.eq_ofNat_of_zero_le (show 0 ≤ o by omega)
      have hm : m < c := by omega
      have hc : 1 ≤ c ∧ c ≤ 4 := by omega
      have hin : decide (0 ≤ (q : Int) ∧ (q : Int) < i) = true := decide_eq_true (by omega)
      have hon : decide (0 ≤ (m : Int) ∧ (m : Int) < (c : Int)) = true := decide_eq_true (by omega)
      have HR := Lib.hid (okJ_rowTo hlt h hq).1
      clear hki hno hb
      cases hst : shareTurn (c : Int) x
      · have ev : (vSetTurn i c ts ps q m x) = (0, 0, zeros 16, zeros 4, 2) := by unfold vSetTurn; rw [h, hin, hon, hst]; rfl
        rw [ev]
        clear ev
        go_enter Try.func17, Try.ntmps17
        go_wp2_with (((with_reducible refine is_load 30 _ rfl ?_); refine wpList_load_at rfl 30 _ rfl _ rfl (jn i c ts ps) _ A0 22 (SZ) _ Try.underlying30 rfl (by kernel_rfl) ?_))
        refine (ValidJunction_b i c ts ps hi ho hlt hlp hct hcp _).mono ?_
        rw [h]
        rintro e w1 ⟨rfl, hb1⟩
        have A1 := A0.step hb1
        have R1 := R0.step hb1
        have B1 := Lib.hid (bthen B0.out hb1)
        clear A0 R0 B0 hb1
        go_wp2_with (((with_reducible refine is_load 2 _ rfl ?_); refine wpList_load_cell rfl 2 _ rfl _ 0 rfl (jn i c ts ps) _ A1 _ Try.underlying2 rfl (.int .i64 i) (jn_ins i c ts ps) ?_))
        refine (isArm_b q i _).mono ?_
        rw [hin]
        rintro e w2 ⟨rfl, n2, rfl⟩
        have A2 := A1.drewN n2
        have R2 := R1.drewN n2
        have B2 := Lib.hid (bdrew B1.out n2)
        generalize hw2 : World.drewN _ _ = w2 at A2 R2 B2 ⊢
        clear A1 R1 B1 hw2
        go_wp2_with (((with_reducible refine is_load 2 _ rfl ?_); refine wpList_load_cell_g rfl 2 _ rfl _ 1 rfl (jn i c ts ps) _ A2 _ Try.underlying2 rfl (.int .i64 (c : Int)) (jn_outs i c ts ps) ?_))
        refine (isArm_b m c _).mono ?_
        rw [hon]
        rintro e w3 ⟨rfl, n3, rfl⟩
        have A3 := A2.drewN n3
        have R3 := R2.drewN n3
        have B3 := Lib.hid (bdrew B2.out n3)
        generalize hw3 : World.drewN _ _ = w3 at A3 R3 B3 ⊢
        clear A2 R2 B2 hw3
        go_wp2_with (((with_reducible refine is_load 2 _ rfl ?_); refine wpList_load_cell_g rfl 2 _ rfl _ 1 rfl (jn i c ts ps) _ A3 _ Try.underlying2 rfl (.int .i64 (c : Int)) (jn_outs i c ts ps) ?_))
        refine (isNewTurn_b x hx c _).mono ?_
        rw [hst]
        rintro e w4 ⟨rfl, n4, rfl⟩
        have A4 := A3.drewN n4
        have R4 := R3.drewN n4
        have B4 := Lib.hid (bdrew B3.out n4)
        generalize hw4 : World.drewN _ _ = w4 at A4 R4 B4 ⊢
        clear A3 R3 B3 hw4
        have R9 := R4.setRow (#[.int .i64 0, .int .i64 0, .float .f32 0, .float .f32 0, .float .f32 0, .float .f32 0, .float .f32 0, .float .f32 0, .float .f32 0, .float .f32 0, .float .f32 0, .float .f32 0, .float .f32 0, .float .f32 0, .float .f32 0, .float .f32 0, .float .f32 0, .float .f32 0, .float .f32 0, .float .f32 0, .float .f32 0, .float .f32 0])
        have B9 := Lib.hid (bset B4.out (g := w.heap.size + 1) (by omega) (#[.int .i64 0, .int .i64 0, .float .f32 0, .float .f32 0, .float .f32 0, .float .f32 0, .float .f32 0, .float .f32 0, .float .f32 0, .float .f32 0, .float .f32 0, .float .f32 0, .float .f32 0, .float .f32 0, .float .f32 0, .float .f32 0, .float .f32 0, .float .f32 0, .float .f32 0, .float .f32 0, .float .f32 0, .float .f32 0]))
        go_wp2_with (((with_reducible refine is_store 30 (.tmp 8) (.tmp 33) rfl ?_); refine wpList_store_at rfl 30 (.tmp 8) (.tmp 33) rfl _ rfl (#[.int .i64 0, .int .i64 0, .float .f32 0, .float .f32 0, .float .f32 0, .float .f32 0, .float .f32 0, .float .f32 0, .float .f32 0, .float .f32 0, .float .f32 0, .float .f32 0, .float .f32 0, .float .f32 0, .float .f32 0, .float .f32 0, .float .f32 0, .float .f32 0, .float .f32 0, .float .f32 0, .float .f32 0, .float .f32 0]) rfl (#[.int .i64 0, .int .i64 0, .float .f32 0, .float .f32 0, .float .f32 0, .float .f32 0, .float .f32 0, .float .f32 0, .float .f32 0, .float .f32 0, .float .f32 0, .float .f32 0, .float .f32 0, .float .f32 0, .float .f32 0, .float .f32 0, .float .f32 0, .float .f32 0, .float .f32 0, .float .f32 0, .float .f32 0, .float .f32 0]) _ (by assumption) 22 ((by rw [zlit]; exact jn_size (zeros_len 16) (zeros_len 4) _ _)) ((by rw [zlit]; exact jn_size (zeros_len 16) (zeros_len 4) _ _)) (by kernel_rfl) ((by rw [zlit]; exact jn_one _ _ _ _)) ?_))
        rw [← zlit]
        exact bodyPost_ret (v := .tuple #[.agg (#[.int .i64 0, .int .i64 0, .float .f32 0, .float .f32 0, .float .f32 0, .float .f32 0, .float .f32 0, .float .f32 0, .float .f32 0, .float .f32 0, .float .f32 0, .float .f32 0, .float .f32 0, .float .f32 0, .float .f32 0, .float .f32 0, .float .f32 0, .float .f32 0, .float .f32 0, .float .f32 0, .float .f32 0, .float .f32 0]), .int .i64 2]) (results_at_tmp (p := 8) (ty := 30) rfl _ _ _ (#[.int .i64 0, .int .i64 0, .float .f32 0, .float .f32 0, .float .f32 0, .float .f32 0, .float .f32 0, .float .f32 0, .float .f32 0, .float .f32 0, .float .f32 0, .float .f32 0, .float .f32 0, .float .f32 0, .float .f32 0, .float .f32 0, .float .f32 0, .float .f32 0, .float .f32 0, .float .f32 0, .float .f32 0, .float .f32 0]) _ (.int .i64 2) rfl rfl R9 _ Try.underlying30 rfl 22 ((by rw [zlit]; exact jn_size (zeros_len 16) (zeros_len 4) _ _)) (by kernel_rfl)) rfl ⟨rfl, B9.out⟩
      · have hx1 : x ≤ 1065353216 := by unfold shareTurn shrB at hst; simp at hst; exact hst.1
        have hcond : (decide (0 ≤ (q : Int) ∧ (q : Int) < i) && decide (0 ≤ (m : Int) ∧ (m : Int) < (c : Int)) && shareTurn (c : Int) x) = true := by rw [hin, hon, hst]; rfl
        go_enter Try.func17, Try.ntmps17
        go_wp2_with (((with_reducible refine is_load 30 _ rfl ?_); refine wpList_load_at rfl 30 _ rfl _ rfl (jn i c ts ps) _ A0 22 (SZ) _ Try.underlying30 rfl (by kernel_rfl) ?_))
        refine (ValidJunction_b i c ts ps hi ho hlt hlp hct hcp _).mono ?_
        rw [h]
        rintro e w1 ⟨rfl, hb1⟩
        have A1 := A0.step hb1
        have R1 := R0.step hb1
        have B1 := Lib.hid (bthen B0.out hb1)
        clear A0 R0 B0 hb1
        go_wp2_with (((with_reducible refine is_load 2 _ rfl ?_); refine wpList_load_cell rfl 2 _ rfl _ 0 rfl (jn i c ts ps) _ A1 _ Try.underlying2 rfl (.int .i64 i) (jn_ins i c ts ps) ?_))
        refine (isArm_b q i _).mono ?_
        rw [hin]
        rintro e w2 ⟨rfl, n2, rfl⟩
        have A2 := A1.drewN n2
        have R2 := R1.drewN n2
        have B2 := Lib.hid (bdrew B1.out n2)
        generalize hw2 : World.drewN _ _ = w2 at A2 R2 B2 ⊢
        clear A1 R1 B1 hw2
        go_wp2_with (((with_reducible refine is_load 2 _ rfl ?_); refine wpList_load_cell_g rfl 2 _ rfl _ 1 rfl (jn i c ts ps) _ A2 _ Try.underlying2 rfl (.int .i64 (c : Int)) (jn_outs i c ts ps) ?_))
        refine (isArm_b m c _).mono ?_
        rw [hon]
        rintro e w3 ⟨rfl, n3, rfl⟩
        have A3 := A2.drewN n3
        have R3 := R2.drewN n3
        have B3 := Lib.hid (bdrew B2.out n3)
        generalize hw3 : World.drewN _ _ = w3 at A3 R3 B3 ⊢
        clear A2 R2 B2 hw3
        go_wp2_with (((with_reducible refine is_load 2 _ rfl ?_); refine wpList_load_cell_g rfl 2 _ rfl _ 1 rfl (jn i c ts ps) _ A3 _ Try.underlying2 rfl (.int .i64 (c : Int)) (jn_outs i c ts ps) ?_))
        refine (isNewTurn_b x hx c _).mono ?_
        rw [hst]
        rintro e w4 ⟨rfl, n4, rfl⟩
        have A4 := A3.drewN n4
        have R4 := R3.drewN n4
        have B4 := Lib.hid (bdrew B3.out n4)
        generalize hw4 : World.drewN _ _ = w4 at A4 R4 B4 ⊢
        clear A3 R3 B3 hw4
        go_wp2
        refine wp_region_held (S := fun _ => True) (by kernel_rfl) ?_
        show wpAnyH _ _ _ _ _ 13 (Array.replicate 13 false) _ _
        have A5 : At { w4 with drawn := w4.drawn + 1 } w.heap.size (jn i c ts ps) 30 := A4
        have R5 : At { w4 with drawn := w4.drawn + 1 } (w.heap.size + 1) (#[.int .i64 0, .int .i64 0, .float .f32 0, .float .f32 0, .float .f32 0, .float .f32 0, .float .f32 0, .float .f32 0, .float .f32 0, .float .f32 0, .float .f32 0, .float .f32 0, .float .f32 0, .float .f32 0, .float .f32 0, .float .f32 0, .float .f32 0, .float .f32 0, .float .f32 0, .float .f32 0, .float .f32 0, .float .f32 0]) 30 := R4
        have B5 : Hid (Below w.heap.size w { w4 with drawn := w4.drawn + 1 }) := Lib.hid (bdrew B4.out 1)
        generalize ({ w4 with drawn := w4.drawn + 1 } : World) = w5 at A5 R5 B5 ⊢
        clear A4 R4 B4
        have ld4 : (Instr.loadAt 23 (.pointer (some ⟨w.heap.size, 2 + q * 4, none⟩))).run Try.prog w5 = .ok (.agg (fl (row4 ts q))) w5 := by
          have := run_loadAt_part (P := Try.prog) w5 w.heap.size (2 + q * 4) 4 23 (jn i c ts ps) 30 (0, 0) _ A5 Try.underlying23 rfl (by kernel_rfl) (by rw [SZ]; omega)
          rwa [jn_row hlt hlp i c hq (by omega)] at this
        have ld6 : (Instr.loadAt 2 (.pointer (some ⟨w.heap.size, 1, none⟩))).run Try.prog w5 = .ok (.int .i64 (c : Int)) w5 := run_load_one w5 2 _ Try.underlying2 rfl _ _ (A5.cell (jn_outs i c ts ps))
        refine wpAnyH_take (i := 0) (v := .int .i64 (q : Int)) rfl (by kernel_rfl) (by kernel_rfl) (by kernel_rfl) (fun _ _ _ h => h) (yif rfl fun w' hw' => hx_move (.tmp 1) rfl (by kernel_rfl)) trivial ?_
        refine wpAnyH_take (i := 1) (v := .int .i64 (q : Int)) rfl (by kernel_rfl) (by kernel_rfl) (by kernel_rfl) (fun _ _ _ h => h) (yif rfl fun w' hw' => hx_move (.tmp 1) rfl (by kernel_rfl)) trivial ?_
        refine wpAnyH_take (i := 2) (v := .pointer (some ⟨w.heap.size, 2, none⟩)) rfl (by kernel_rfl) (by kernel_rfl) (by kernel_rfl) (fun _ _ _ h => h) (yif rfl fun w' hw' => by kernel_rfl) trivial ?_
        refine wpAnyH_take (i := 3) (v := .pointer (some ⟨w.heap.size, 2 + q * 4, none⟩)) rfl (by kernel_rfl) (by kernel_rfl) (by kernel_rfl) (fun _ _ _ h => h) (yif rfl fun w' hw' => hx_index 27 (.tmp 36) (.tmp 35) rfl (.pointer (some ⟨w.heap.size, 2, none⟩)) (.int .i64 (q : Int)) (by kernel_rfl) (by kernel_rfl) (run_indexA w' 27 23 4 q 4 _ _ Try.underlying27 (by kernel_rfl) hq)) trivial ?_
        refine wpAnyH_take (i := 5) (v := .pointer (some ⟨w.heap.size, 1, none⟩)) rfl (by kernel_rfl) (by kernel_rfl) (by kernel_rfl) (fun _ _ _ h => h) (yif rfl fun w' hw' => by kernel_rfl) trivial ?_
        refine wpAnyH_take (i := 7) (v := .int .i64 (m : Int)) rfl (by kernel_rfl) (by kernel_rfl) (by kernel_rfl) (fun _ _ _ h => h) (yif rfl fun w' hw' => hx_move (.tmp 2) rfl (by kernel_rfl)) trivial ?_
        refine wpAnyH_take (i := 8) (v := .float .f32 x) rfl (by kernel_rfl) (by kernel_rfl) (by kernel_rfl) (fun _ _ _ h => h) (yif rfl fun w' hw' => hx_move (.tmp 3) rfl (by kernel_rfl)) trivial ?_
        refine wpAnyH_take (i := 10) (v := .pointer (some ⟨w.heap.size, 2, none⟩)) rfl (by kernel_rfl) (by kernel_rfl) (by kernel_rfl) (fun _ _ _ h => h) (yif rfl fun w' hw' => by kernel_rfl) trivial ?_
        refine wpAnyH_all (rs := [4, 6]) (by kernel_rfl) (by simp) fun i' hi' => ?_
        have hi2 : i' = 4 ∨ i' = 6 := by simpa using hi'
        clear hi'
        rcases hi2 with rfl | rfl
        · refine op_value (v := .agg (fl (row4 ts q))) rfl rfl (x_load 23 (.tmp 37) rfl ⟨w.heap.size, 2 + q * 4, none⟩ (by kernel_rfl) ld4) ⟨trivial, ?_⟩
          refine wpAnyH_all (rs := [6]) (by kernel_rfl) (by simp) fun i' hi'' => ?_
          obtain rfl := one_of hi''
          refine op_value (v := .int .i64 (c : Int)) rfl rfl (x_load 2 (.tmp 39) rfl ⟨w.heap.size, 1, none⟩ (by kernel_rfl) ld6) ⟨trivial, ?_⟩
          refine wpAnyH_all (rs := [9]) (by kernel_rfl) (by simp) fun i' hi'' => ?_
          obtain rfl := one_of hi''
          refine op_call (f := 57) (args := #[.agg (fl (row4 ts q)), .int .i64 (c : Int), .int .i64 (m : Int), .float .f32 x]) rfl rfl (by kernel_rfl) ((turned_any (row4 ts q) (row4_len hlt hq) HR.out c m hc hm x hx1 w5).mono ?_)
          rintro e w6 ⟨r, rfl, hrl, hag, hb6⟩
          have A6 := A5.step hb6
          have R6 := R5.step hb6
          have B6 := Lib.hid (bthen B5.out hb6)
          refine ⟨_, rfl, trivial, ?_⟩
          have JS := jn_spliceRow hlt hrl i (c : Int) ps (k := q) hq (off := 2 + q * 4) (by omega)
          have hpl := putRow_len hlt hrl hq
          have hAL : AgrL (putRow ts q r) (tgT c q m x ts) := putRow_agr hlt hct hrl hq hag
          clear hag A5 R5 B5 hb6 ld4 ld6
          refine wpAnyH_all (rs := [11]) (by kernel_rfl) (by simp) fun i' hi'' => ?_
          obtain rfl := one_of hi''
          refine op_value (v := .pointer (some ⟨w.heap.size, 2 + q * 4, none⟩)) rfl rfl (hx_index 27 (.tmp 44) (.tmp 34) rfl (.pointer (some ⟨w.heap.size, 2, none⟩)) (.int .i64 (q : Int)) (by kernel_rfl) (by kernel_rfl) (run_indexA _ 27 23 4 q 4 _ _ Try.underlying27 (by kernel_rfl) hq)) ⟨trivial, ?_⟩
          refine wpAnyH_all (rs := [12]) (by kernel_rfl) (by simp) fun i' hi'' => ?_
          obtain rfl := one_of hi''
          have hst := run_storeAt_part (P := Try.prog) w6 w.heap.size (2 + q * 4) 30 23 (jn i c ts ps) (fl r) A6 (by rw [fl_size, hrl]; kernel_rfl) (by rw [SZ, fl_size, hrl]; omega) (fl_one _)
          rw [JS] at hst
          refine op_skip rfl rfl (hx_store 23 (.tmp 45) (.tmp 43) rfl (.pointer (some ⟨w.heap.size, 2 + q * 4, none⟩)) (.agg (fl r)) (by kernel_rfl) (by kernel_rfl) hst) ⟨trivial, ?_⟩
          refine wpAnyH_done (by kernel_rfl) ?_ _
          have A7 := A6.setRow (jn i c (putRow ts q r) ps)
          have R7 := R6.setRow_other (k := w.heap.size) (by omega) (jn i c (putRow ts q r) ps)
          have B7 := Lib.hid (bset B6.out (g := w.heap.size) (Nat.le_refl _) (jn i c (putRow ts q r) ps))
          clear hst JS A6 R6 B6
          generalize w6.setRow w.heap.size (jn i c (putRow ts q r) ps) = w7 at A7 R7 B7 ⊢
          generalize putRow ts q r = tn at A7 R7 B7 hpl hAL ⊢
          generalize hA : Act.put _ _ _ = A
          have eA : A = { tmps := #[.agg (jn i c ts ps), .int .i64 (q : Int), .int .i64 (m : Int), .float .f32 x, .pointer (some ⟨w.heap.size, 0, none⟩), undef, undef, undef, .pointer (some ⟨w.heap.size + 1, 0, none⟩), .int .i64 0, .agg (jn i c ts ps), .bool true, .bool false, undef, .int .i64 (q : Int), .pointer (some ⟨w.heap.size, 0, none⟩), .int .i64 i, .bool true, .bool false, .bool false, .int .i64 (m : Int), .pointer (some ⟨w.heap.size, 1, none⟩), .int .i64 (c : Int), .bool true, .bool false, .bool false, .bool false, .float .f32 x, .pointer (some ⟨w.heap.size, 1, none⟩), .int .i64 (c : Int), .bool true, .bool false, .bool false, undef, .int .i64 (q : Int), .int .i64 (q : Int), .pointer (some ⟨w.heap.size, 2, none⟩), .pointer (some ⟨w.heap.size, 2 + q * 4, none⟩), .agg (fl (row4 ts q)), .pointer (some ⟨w.heap.size, 1, none⟩), .int .i64 (c : Int), .int .i64 (m : Int), .float .f32 x, .agg (fl r), .pointer (some ⟨w.heap.size, 2, none⟩), .pointer (some ⟨w.heap.size, 2 + q * 4, none⟩), undef, undef, undef, undef, undef], defers := [] } := by rw [← hA]; kernel_rfl
          clear hA
          subst eA
          have CT := hAL.lt
          have OK := hAL.ok (i := i) (o := (c : Int)) (ps := ps)
          have SN := jn_size hpl hlp i (c : Int)
          cases ht : okJ i c tn ps
          · have ev : (vSetTurn i c ts ps q m x) = (0, 0, zeros 16, zeros 4, 4) := by unfold vSetTurn; simp only [Int.toNat_natCast]; rw [h, if_pos rfl, hcond, if_pos rfl, if_neg (by rw [← OK, ht]; decide)]
            go_wp2_with (((with_reducible refine is_load 30 _ rfl ?_); refine wpList_load_at rfl 30 _ rfl _ rfl (jn i c tn ps) _ A7 22 (SN) _ Try.underlying30 rfl (by kernel_rfl) ?_))
            refine (ValidJunction_b i c tn ps hi ho hpl hlp CT hcp _).mono ?_
            rw [ht]
            rintro e w8 ⟨rfl, hb8⟩
            have R8 := R7.step hb8
            have B8 := Lib.hid (bthen B7.out hb8)
            clear R7 B7 A7 hb8
            have R9 := R8.setRow (#[.int .i64 0, .int .i64 0, .float .f32 0, .float .f32 0, .float .f32 0, .float .f32 0, .float .f32 0, .float .f32 0, .float .f32 0, .float .f32 0, .float .f32 0, .float .f32 0, .float .f32 0, .float .f32 0, .float .f32 0, .float .f32 0, .float .f32 0, .float .f32 0, .float .f32 0, .float .f32 0, .float .f32 0, .float .f32 0])
            have B9 := Lib.hid (bset B8.out (g := w.heap.size + 1) (by omega) (#[.int .i64 0, .int .i64 0, .float .f32 0, .float .f32 0, .float .f32 0, .float .f32 0, .float .f32 0, .float .f32 0, .float .f32 0, .float .f32 0, .float .f32 0, .float .f32 0, .float .f32 0, .float .f32 0, .float .f32 0, .float .f32 0, .float .f32 0, .float .f32 0, .float .f32 0, .float .f32 0, .float .f32 0, .float .f32 0]))
            go_wp2_with (((with_reducible refine is_store 30 (.tmp 8) (.tmp 49) rfl ?_); refine wpList_store_at rfl 30 (.tmp 8) (.tmp 49) rfl _ rfl (#[.int .i64 0, .int .i64 0, .float .f32 0, .float .f32 0, .float .f32 0, .float .f32 0, .float .f32 0, .float .f32 0, .float .f32 0, .float .f32 0, .float .f32 0, .float .f32 0, .float .f32 0, .float .f32 0, .float .f32 0, .float .f32 0, .float .f32 0, .float .f32 0, .float .f32 0, .float .f32 0, .float .f32 0, .float .f32 0]) rfl (#[.int .i64 0, .int .i64 0, .float .f32 0, .float .f32 0, .float .f32 0, .float .f32 0, .float .f32 0, .float .f32 0, .float .f32 0, .float .f32 0, .float .f32 0, .float .f32 0, .float .f32 0, .float .f32 0, .float .f32 0, .float .f32 0, .float .f32 0, .float .f32 0, .float .f32 0, .float .f32 0, .float .f32 0, .float .f32 0]) _ (by assumption) 22 ((by rw [zlit]; exact jn_size (zeros_len 16) (zeros_len 4) _ _)) ((by rw [zlit]; exact jn_size (zeros_len 16) (zeros_len 4) _ _)) (by kernel_rfl) ((by rw [zlit]; exact jn_one _ _ _ _)) ?_))
            exact bodyPost_ret (v := .tuple #[.agg (#[.int .i64 0, .int .i64 0, .float .f32 0, .float .f32 0, .float .f32 0, .float .f32 0, .float .f32 0, .float .f32 0, .float .f32 0, .float .f32 0, .float .f32 0, .float .f32 0, .float .f32 0, .float .f32 0, .float .f32 0, .float .f32 0, .float .f32 0, .float .f32 0, .float .f32 0, .float .f32 0, .float .f32 0, .float .f32 0]), .int .i64 4]) (results_at_tmp (p := 8) (ty := 30) rfl _ _ _ (#[.int .i64 0, .int .i64 0, .float .f32 0, .float .f32 0, .float .f32 0, .float .f32 0, .float .f32 0, .float .f32 0, .float .f32 0, .float .f32 0, .float .f32 0, .float .f32 0, .float .f32 0, .float .f32 0, .float .f32 0, .float .f32 0, .float .f32 0, .float .f32 0, .float .f32 0, .float .f32 0, .float .f32 0, .float .f32 0]) _ (.int .i64 4) rfl rfl R9 _ Try.underlying30 rfl 22 ((by rw [zlit]; exact jn_size (zeros_len 16) (zeros_len 4) _ _)) (by kernel_rfl)) rfl ⟨by rw [ev, ← zlit], B9.out⟩
          · have eq := AgrL.eq hAL ht
            subst eq
            have ev : (vSetTurn i c ts ps q m x) = (i, (c : Int), tgT c q m x ts, ps, 0) := by unfold vSetTurn; simp only [Int.toNat_natCast]; rw [h, if_pos rfl, hcond, if_pos rfl, if_pos ht]
            go_wp2_with (((with_reducible refine is_load 30 _ rfl ?_); refine wpList_load_at rfl 30 _ rfl _ rfl (jn i c (tgT c q m x ts) ps) _ A7 22 (SN) _ Try.underlying30 rfl (by kernel_rfl) ?_))
            refine (ValidJunction_b i c (tgT c q m x ts) ps hi ho hpl hlp CT hcp _).mono ?_
            rw [ht]
            rintro e w8 ⟨rfl, hb8⟩
            have A8 := A7.step hb8
            have R8 := R7.step hb8
            have B8 := Lib.hid (bthen B7.out hb8)
            clear R7 B7 A7 hb8
            have R9 := R8.setRow (jn i c (tgT c q m x ts) ps)
            have B9 := Lib.hid (bset B8.out (g := w.heap.size + 1) (by omega) (jn i c (tgT c q m x ts) ps))
            go_wp2_with (first | ((with_reducible refine is_load 30 _ rfl ?_); refine wpList_load_at rfl 30 _ rfl _ rfl (jn i c (tgT c q m x ts) ps) _ A8 22 (SN) _ Try.underlying30 rfl (by kernel_rfl) ?_) | ((with_reducible refine is_store 30 (.tmp 8) (.tmp 50) rfl ?_); refine wpList_store_at rfl 30 (.tmp 8) (.tmp 50) rfl _ rfl (jn i c (tgT c q m x ts) ps) rfl (#[.int .i64 0, .int .i64 0, .float .f32 0, .float .f32 0, .float .f32 0, .float .f32 0, .float .f32 0, .float .f32 0, .float .f32 0, .float .f32 0, .float .f32 0, .float .f32 0, .float .f32 0, .float .f32 0, .float .f32 0, .float .f32 0, .float .f32 0, .float .f32 0, .float .f32 0, .float .f32 0, .float .f32 0, .float .f32 0]) _ R8 22 (SN) ((by rw [zlit]; exact jn_size (zeros_len 16) (zeros_len 4) _ _)) (by kernel_rfl) (jn_one _ _ _ _) ?_))
            exact bodyPost_ret (v := .tuple #[.agg (jn i c (tgT c q m x ts) ps), .int .i64 0]) (results_at_tmp (p := 8) (ty := 30) rfl _ _ _ (jn i c (tgT c q m x ts) ps) _ (.int .i64 0) rfl rfl R9 _ Try.underlying30 rfl 22 (SN) (by kernel_rfl)) rfl ⟨by rw [ev], B9.out⟩
        · refine op_value (v := .int .i64 (c : Int)) rfl rfl (x_load 2 (.tmp 39) rfl ⟨w.heap.size, 1, none⟩ (by kernel_rfl) ld6) ⟨trivial, ?_⟩
          refine wpAnyH_all (rs := [4]) (by kernel_rfl) (by simp) fun i' hi'' => ?_
          obtain rfl := one_of hi''
          refine op_value (v := .agg (fl (row4 ts q))) rfl rfl (x_load 23 (.tmp 37) rfl ⟨w.heap.size, 2 + q * 4, none⟩ (by kernel_rfl) ld4) ⟨trivial, ?_⟩
          refine wpAnyH_all (rs := [9]) (by kernel_rfl) (by simp) fun i' hi'' => ?_
          obtain rfl := one_of hi''
          refine op_call (f := 57) (args := #[.agg (fl (row4 ts q)), .int .i64 (c : Int), .int .i64 (m : Int), .float .f32 x]) rfl rfl (by kernel_rfl) ((turned_any (row4 ts q) (row4_len hlt hq) HR.out c m hc hm x hx1 w5).mono ?_)
          rintro e w6 ⟨r, rfl, hrl, hag, hb6⟩
          have A6 := A5.step hb6
          have R6 := R5.step hb6
          have B6 := Lib.hid (bthen B5.out hb6)
          refine ⟨_, rfl, trivial, ?_⟩
          have JS := jn_spliceRow hlt hrl i (c : Int) ps (k := q) hq (off := 2 + q * 4) (by omega)
          have hpl := putRow_len hlt hrl hq
          have hAL : AgrL (putRow ts q r) (tgT c q m x ts) := putRow_agr hlt hct hrl hq hag
          clear hag A5 R5 B5 hb6 ld4 ld6
          refine wpAnyH_all (rs := [11]) (by kernel_rfl) (by simp) fun i' hi'' => ?_
          obtain rfl := one_of hi''
          refine op_value (v := .pointer (some ⟨w.heap.size, 2 + q * 4, none⟩)) rfl rfl (hx_index 27 (.tmp 44) (.tmp 34) rfl (.pointer (some ⟨w.heap.size, 2, none⟩)) (.int .i64 (q : Int)) (by kernel_rfl) (by kernel_rfl) (run_indexA _ 27 23 4 q 4 _ _ Try.underlying27 (by kernel_rfl) hq)) ⟨trivial, ?_⟩
          refine wpAnyH_all (rs := [12]) (by kernel_rfl) (by simp) fun i' hi'' => ?_
          obtain rfl := one_of hi''
          have hst := run_storeAt_part (P := Try.prog) w6 w.heap.size (2 + q * 4) 30 23 (jn i c ts ps) (fl r) A6 (by rw [fl_size, hrl]; kernel_rfl) (by rw [SZ, fl_size, hrl]; omega) (fl_one _)
          rw [JS] at hst
          refine op_skip rfl rfl (hx_store 23 (.tmp 45) (.tmp 43) rfl (.pointer (some ⟨w.heap.size, 2 + q * 4, none⟩)) (.agg (fl r)) (by kernel_rfl) (by kernel_rfl) hst) ⟨trivial, ?_⟩
          refine wpAnyH_done (by kernel_rfl) ?_ _
          have A7 := A6.setRow (jn i c (putRow ts q r) ps)
          have R7 := R6.setRow_other (k := w.heap.size) (by omega) (jn i c (putRow ts q r) ps)
          have B7 := Lib.hid (bset B6.out (g := w.heap.size) (Nat.le_refl _) (jn i c (putRow ts q r) ps))
          clear hst JS A6 R6 B6
          generalize w6.setRow w.heap.size (jn i c (putRow ts q r) ps) = w7 at A7 R7 B7 ⊢
          generalize putRow ts q r = tn at A7 R7 B7 hpl hAL ⊢
          generalize hA : Act.put _ _ _ = A
          have eA : A = { tmps := #[.agg (jn i c ts ps), .int .i64 (q : Int), .int .i64 (m : Int), .float .f32 x, .pointer (some ⟨w.heap.size, 0, none⟩), undef, undef, undef, .pointer (some ⟨w.heap.size + 1, 0, none⟩), .int .i64 0, .agg (jn i c ts ps), .bool true, .bool false, undef, .int .i64 (q : Int), .pointer (some ⟨w.heap.size, 0, none⟩), .int .i64 i, .bool true, .bool false, .bool false, .int .i64 (m : Int), .pointer (some ⟨w.heap.size, 1, none⟩), .int .i64 (c : Int), .bool true, .bool false, .bool false, .bool false, .float .f32 x, .pointer (some ⟨w.heap.size, 1, none⟩), .int .i64 (c : Int), .bool true, .bool false, .bool false, undef, .int .i64 (q : Int), .int .i64 (q : Int), .pointer (some ⟨w.heap.size, 2, none⟩), .pointer (some ⟨w.heap.size, 2 + q * 4, none⟩), .agg (fl (row4 ts q)), .pointer (some ⟨w.heap.size, 1, none⟩), .int .i64 (c : Int), .int .i64 (m : Int), .float .f32 x, .agg (fl r), .pointer (some ⟨w.heap.size, 2, none⟩), .pointer (some ⟨w.heap.size, 2 + q * 4, none⟩), undef, undef, undef, undef, undef], defers := [] } := by rw [← hA]; kernel_rfl
          clear hA
          subst eA
          have CT := hAL.lt
          have OK := hAL.ok (i := i) (o := (c : Int)) (ps := ps)
          have SN := jn_size hpl hlp i (c : Int)
          cases ht : okJ i c tn ps
          · have ev : (vSetTurn i c ts ps q m x) = (0, 0, zeros 16, zeros 4, 4) := by unfold vSetTurn; simp only [Int.toNat_natCast]; rw [h, if_pos rfl, hcond, if_pos rfl, if_neg (by rw [← OK, ht]; decide)]
            go_wp2_with (((with_reducible refine is_load 30 _ rfl ?_); refine wpList_load_at rfl 30 _ rfl _ rfl (jn i c tn ps) _ A7 22 (SN) _ Try.underlying30 rfl (by kernel_rfl) ?_))
            refine (ValidJunction_b i c tn ps hi ho hpl hlp CT hcp _).mono ?_
            rw [ht]
            rintro e w8 ⟨rfl, hb8⟩
            have R8 := R7.step hb8
            have B8 := Lib.hid (bthen B7.out hb8)
            clear R7 B7 A7 hb8
            have R9 := R8.setRow (#[.int .i64 0, .int .i64 0, .float .f32 0, .float .f32 0, .float .f32 0, .float .f32 0, .float .f32 0, .float .f32 0, .float .f32 0, .float .f32 0, .float .f32 0, .float .f32 0, .float .f32 0, .float .f32 0, .float .f32 0, .float .f32 0, .float .f32 0, .float .f32 0, .float .f32 0, .float .f32 0, .float .f32 0, .float .f32 0])
            have B9 := Lib.hid (bset B8.out (g := w.heap.size + 1) (by omega) (#[.int .i64 0, .int .i64 0, .float .f32 0, .float .f32 0, .float .f32 0, .float .f32 0, .float .f32 0, .float .f32 0, .float .f32 0, .float .f32 0, .float .f32 0, .float .f32 0, .float .f32 0, .float .f32 0, .float .f32 0, .float .f32 0, .float .f32 0, .float .f32 0, .float .f32 0, .float .f32 0, .float .f32 0, .float .f32 0]))
            go_wp2_with (((with_reducible refine is_store 30 (.tmp 8) (.tmp 49) rfl ?_); refine wpList_store_at rfl 30 (.tmp 8) (.tmp 49) rfl _ rfl (#[.int .i64 0, .int .i64 0, .float .f32 0, .float .f32 0, .float .f32 0, .float .f32 0, .float .f32 0, .float .f32 0, .float .f32 0, .float .f32 0, .float .f32 0, .float .f32 0, .float .f32 0, .float .f32 0, .float .f32 0, .float .f32 0, .float .f32 0, .float .f32 0, .float .f32 0, .float .f32 0, .float .f32 0, .float .f32 0]) rfl (#[.int .i64 0, .int .i64 0, .float .f32 0, .float .f32 0, .float .f32 0, .float .f32 0, .float .f32 0, .float .f32 0, .float .f32 0, .float .f32 0, .float .f32 0, .float .f32 0, .float .f32 0, .float .f32 0, .float .f32 0, .float .f32 0, .float .f32 0, .float .f32 0, .float .f32 0, .float .f32 0, .float .f32 0, .float .f32 0]) _ (by assumption) 22 ((by rw [zlit]; exact jn_size (zeros_len 16) (zeros_len 4) _ _)) ((by rw [zlit]; exact jn_size (zeros_len 16) (zeros_len 4) _ _)) (by kernel_rfl) ((by rw [zlit]; exact jn_one _ _ _ _)) ?_))
            exact bodyPost_ret (v := .tuple #[.agg (#[.int .i64 0, .int .i64 0, .float .f32 0, .float .f32 0, .float .f32 0, .float .f32 0, .float .f32 0, .float .f32 0, .float .f32 0, .float .f32 0, .float .f32 0, .float .f32 0, .float .f32 0, .float .f32 0, .float .f32 0, .float .f32 0, .float .f32 0, .float .f32 0, .float .f32 0, .float .f32 0, .float .f32 0, .float .f32 0]), .int .i64 4]) (results_at_tmp (p := 8) (ty := 30) rfl _ _ _ (#[.int .i64 0, .int .i64 0, .float .f32 0, .float .f32 0, .float .f32 0, .float .f32 0, .float .f32 0, .float .f32 0, .float .f32 0, .float .f32 0, .float .f32 0, .float .f32 0, .float .f32 0, .float .f32 0, .float .f32 0, .float .f32 0, .float .f32 0, .float .f32 0, .float .f32 0, .float .f32 0, .float .f32 0, .float .f32 0]) _ (.int .i64 4) rfl rfl R9 _ Try.underlying30 rfl 22 ((by rw [zlit]; exact jn_size (zeros_len 16) (zeros_len 4) _ _)) (by kernel_rfl)) rfl ⟨by rw [ev, ← zlit], B9.out⟩
          · have eq := AgrL.eq hAL ht
            subst eq
            have ev : (vSetTurn i c ts ps q m x) = (i, (c : Int), tgT c q m x ts, ps, 0) := by unfold vSetTurn; simp only [Int.toNat_natCast]; rw [h, if_pos rfl, hcond, if_pos rfl, if_pos ht]
            go_wp2_with (((with_reducible refine is_load 30 _ rfl ?_); refine wpList_load_at rfl 30 _ rfl _ rfl (jn i c (tgT c q m x ts) ps) _ A7 22 (SN) _ Try.underlying30 rfl (by kernel_rfl) ?_))
            refine (ValidJunction_b i c (tgT c q m x ts) ps hi ho hpl hlp CT hcp _).mono ?_
            rw [ht]
            rintro e w8 ⟨rfl, hb8⟩
            have A8 := A7.step hb8
            have R8 := R7.step hb8
            have B8 := Lib.hid (bthen B7.out hb8)
            clear R7 B7 A7 hb8
            have R9 := R8.setRow (jn i c (tgT c q m x ts) ps)
            have B9 := Lib.hid (bset B8.out (g := w.heap.size + 1) (by omega) (jn i c (tgT c q m x ts) ps))
            go_wp2_with (first | ((with_reducible refine is_load 30 _ rfl ?_); refine wpList_load_at rfl 30 _ rfl _ rfl (jn i c (tgT c q m x ts) ps) _ A8 22 (SN) _ Try.underlying30 rfl (by kernel_rfl) ?_) | ((with_reducible refine is_store 30 (.tmp 8) (.tmp 50) rfl ?_); refine wpList_store_at rfl 30 (.tmp 8) (.tmp 50) rfl _ rfl (jn i c (tgT c q m x ts) ps) rfl (#[.int .i64 0, .int .i64 0, .float .f32 0, .float .f32 0, .float .f32 0, .float .f32 0, .float .f32 0, .float .f32 0, .float .f32 0, .float .f32 0, .float .f32 0, .float .f32 0, .float .f32 0, .float .f32 0, .float .f32 0, .float .f32 0, .float .f32 0, .float .f32 0, .float .f32 0, .float .f32 0, .float .f32 0, .float .f32 0]) _ R8 22 (SN) ((by rw [zlit]; exact jn_size (zeros_len 16) (zeros_len 4) _ _)) (by kernel_rfl) (jn_one _ _ _ _) ?_))
            exact bodyPost_ret (v := .tuple #[.agg (jn i c (tgT c q m x ts) ps), .int .i64 0]) (results_at_tmp (p := 8) (ty := 30) rfl _ _ _ (jn i c (tgT c q m x ts) ps) _ (.int .i64 0) rfl rfl R9 _ Try.underlying30 rfl 22 (SN) (by kernel_rfl)) rfl ⟨by rw [ev], B9.out⟩
    · have hon : decide (0 ≤ n ∧ n < o) = false := decide_eq_false hno
      have hin : decide (0 ≤ (q : Int) ∧ (q : Int) < i) = true := decide_eq_true (by omega)
      clear hki hno hb
      have ev : (vSetTurn i o ts ps q n x) = (0, 0, zeros 16, zeros 4, 2) := by unfold vSetTurn; rw [h, hin, hon]; rfl
      rw [ev]
      clear ev
      go_enter Try.func17, Try.ntmps17
      go_wp2_with (((with_reducible refine is_load 30 _ rfl ?_); refine wpList_load_at rfl 30 _ rfl _ rfl (jn i o ts ps) _ A0 22 (SZ) _ Try.underlying30 rfl (by kernel_rfl) ?_))
      refine (ValidJunction_b i o ts ps hi ho hlt hlp hct hcp _).mono ?_
      rw [h]
      rintro e w1 ⟨rfl, hb1⟩
      have A1 := A0.step hb1
      have R1 := R0.step hb1
      have B1 := Lib.hid (bthen B0.out hb1)
      clear A0 R0 B0 hb1
      go_wp2_with (((with_reducible refine is_load 2 _ rfl ?_); refine wpList_load_cell rfl 2 _ rfl _ 0 rfl (jn i o ts ps) _ A1 _ Try.underlying2 rfl (.int .i64 i) (jn_ins i o ts ps) ?_))
      refine (isArm_b q i _).mono ?_
      rw [hin]
      rintro e w2 ⟨rfl, n2, rfl⟩
      have A2 := A1.drewN n2
      have R2 := R1.drewN n2
      have B2 := Lib.hid (bdrew B1.out n2)
      generalize hw2 : World.drewN _ _ = w2 at A2 R2 B2 ⊢
      clear A1 R1 B1 hw2
      go_wp2_with (((with_reducible refine is_load 2 _ rfl ?_); refine wpList_load_cell_g rfl 2 _ rfl _ 1 rfl (jn i o ts ps) _ A2 _ Try.underlying2 rfl (.int .i64 o) (jn_outs i o ts ps) ?_))
      refine (isArm_b n o _).mono ?_
      rw [hon]
      rintro e w3 ⟨rfl, n3, rfl⟩
      have A3 := A2.drewN n3
      have R3 := R2.drewN n3
      have B3 := Lib.hid (bdrew B2.out n3)
      generalize hw3 : World.drewN _ _ = w3 at A3 R3 B3 ⊢
      clear A2 R2 B2 hw3
      have R9 := R3.setRow (#[.int .i64 0, .int .i64 0, .float .f32 0, .float .f32 0, .float .f32 0, .float .f32 0, .float .f32 0, .float .f32 0, .float .f32 0, .float .f32 0, .float .f32 0, .float .f32 0, .float .f32 0, .float .f32 0, .float .f32 0, .float .f32 0, .float .f32 0, .float .f32 0, .float .f32 0, .float .f32 0, .float .f32 0, .float .f32 0])
      have B9 := Lib.hid (bset B3.out (g := w.heap.size + 1) (by omega) (#[.int .i64 0, .int .i64 0, .float .f32 0, .float .f32 0, .float .f32 0, .float .f32 0, .float .f32 0, .float .f32 0, .float .f32 0, .float .f32 0, .float .f32 0, .float .f32 0, .float .f32 0, .float .f32 0, .float .f32 0, .float .f32 0, .float .f32 0, .float .f32 0, .float .f32 0, .float .f32 0, .float .f32 0, .float .f32 0]))
      go_wp2_with (((with_reducible refine is_store 30 (.tmp 8) (.tmp 33) rfl ?_); refine wpList_store_at rfl 30 (.tmp 8) (.tmp 33) rfl _ rfl (#[.int .i64 0, .int .i64 0, .float .f32 0, .float .f32 0, .float .f32 0, .float .f32 0, .float .f32 0, .float .f32 0, .float .f32 0, .float .f32 0, .float .f32 0, .float .f32 0, .float .f32 0, .float .f32 0, .float .f32 0, .float .f32 0, .float .f32 0, .float .f32 0, .float .f32 0, .float .f32 0, .float .f32 0, .float .f32 0]) rfl (#[.int .i64 0, .int .i64 0, .float .f32 0, .float .f32 0, .float .f32 0, .float .f32 0, .float .f32 0, .float .f32 0, .float .f32 0, .float .f32 0, .float .f32 0, .float .f32 0, .float .f32 0, .float .f32 0, .float .f32 0, .float .f32 0, .float .f32 0, .float .f32 0, .float .f32 0, .float .f32 0, .float .f32 0, .float .f32 0]) _ (by assumption) 22 ((by rw [zlit]; exact jn_size (zeros_len 16) (zeros_len 4) _ _)) ((by rw [zlit]; exact jn_size (zeros_len 16) (zeros_len 4) _ _)) (by kernel_rfl) ((by rw [zlit]; exact jn_one _ _ _ _)) ?_))
      rw [← zlit]
      exact bodyPost_ret (v := .tuple #[.agg (#[.int .i64 0, .int .i64 0, .float .f32 0, .float .f32 0, .float .f32 0, .float .f32 0, .float .f32 0, .float .f32 0, .float .f32 0, .float .f32 0, .float .f32 0, .float .f32 0, .float .f32 0, .float .f32 0, .float .f32 0, .float .f32 0, .float .f32 0, .float .f32 0, .float .f32 0, .float .f32 0, .float .f32 0, .float .f32 0]), .int .i64 2]) (results_at_tmp (p := 8) (ty := 30) rfl _ _ _ (#[.int .i64 0, .int .i64 0, .float .f32 0, .float .f32 0, .float .f32 0, .float .f32 0, .float .f32 0, .float .f32 0, .float .f32 0, .float .f32 0, .float .f32 0, .float .f32 0, .float .f32 0, .float .f32 0, .float .f32 0, .float .f32 0, .float .f32 0, .float .f32 0, .float .f32 0, .float .f32 0, .float .f32 0, .float .f32 0]) _ (.int .i64 2) rfl rfl R9 _ Try.underlying30 rfl 22 ((by rw [zlit]; exact jn_size (zeros_len 16) (zeros_len 4) _ _)) (by kernel_rfl)) rfl ⟨rfl, B9.out⟩
  · have hin : decide (0 ≤ k ∧ k < i) = false := decide_eq_false hki
    clear hki hb
    have ev : (vSetTurn i o ts ps k n x) = (0, 0, zeros 16, zeros 4, 2) := by unfold vSetTurn; rw [h, hin]; rfl
    rw [ev]
    clear ev
    go_enter Try.func17, Try.ntmps17
    go_wp2_with (((with_reducible refine is_load 30 _ rfl ?_); refine wpList_load_at rfl 30 _ rfl _ rfl (jn i o ts ps) _ A0 22 (SZ) _ Try.underlying30 rfl (by kernel_rfl) ?_))
    refine (ValidJunction_b i o ts ps hi ho hlt hlp hct hcp _).mono ?_
    rw [h]
    rintro e w1 ⟨rfl, hb1⟩
    have A1 := A0.step hb1
    have R1 := R0.step hb1
    have B1 := Lib.hid (bthen B0.out hb1)
    clear A0 R0 B0 hb1
    go_wp2_with (((with_reducible refine is_load 2 _ rfl ?_); refine wpList_load_cell rfl 2 _ rfl _ 0 rfl (jn i o ts ps) _ A1 _ Try.underlying2 rfl (.int .i64 i) (jn_ins i o ts ps) ?_))
    refine (isArm_b k i _).mono ?_
    rw [hin]
    rintro e w2 ⟨rfl, n2, rfl⟩
    have A2 := A1.drewN n2
    have R2 := R1.drewN n2
    have B2 := Lib.hid (bdrew B1.out n2)
    generalize hw2 : World.drewN _ _ = w2 at A2 R2 B2 ⊢
    clear A1 R1 B1 hw2
    have R9 := R2.setRow (#[.int .i64 0, .int .i64 0, .float .f32 0, .float .f32 0, .float .f32 0, .float .f32 0, .float .f32 0, .float .f32 0, .float .f32 0, .float .f32 0, .float .f32 0, .float .f32 0, .float .f32 0, .float .f32 0, .float .f32 0, .float .f32 0, .float .f32 0, .float .f32 0, .float .f32 0, .float .f32 0, .float .f32 0, .float .f32 0])
    have B9 := Lib.hid (bset B2.out (g := w.heap.size + 1) (by omega) (#[.int .i64 0, .int .i64 0, .float .f32 0, .float .f32 0, .float .f32 0, .float .f32 0, .float .f32 0, .float .f32 0, .float .f32 0, .float .f32 0, .float .f32 0, .float .f32 0, .float .f32 0, .float .f32 0, .float .f32 0, .float .f32 0, .float .f32 0, .float .f32 0, .float .f32 0, .float .f32 0, .float .f32 0, .float .f32 0]))
    go_wp2_with (((with_reducible refine is_store 30 (.tmp 8) (.tmp 33) rfl ?_); refine wpList_store_at rfl 30 (.tmp 8) (.tmp 33) rfl _ rfl (#[.int .i64 0, .int .i64 0, .float .f32 0, .float .f32 0, .float .f32 0, .float .f32 0, .float .f32 0, .float .f32 0, .float .f32 0, .float .f32 0, .float .f32 0, .float .f32 0, .float .f32 0, .float .f32 0, .float .f32 0, .float .f32 0, .float .f32 0, .float .f32 0, .float .f32 0, .float .f32 0, .float .f32 0, .float .f32 0]) rfl (#[.int .i64 0, .int .i64 0, .float .f32 0, .float .f32 0, .float .f32 0, .float .f32 0, .float .f32 0, .float .f32 0, .float .f32 0, .float .f32 0, .float .f32 0, .float .f32 0, .float .f32 0, .float .f32 0, .float .f32 0, .float .f32 0, .float .f32 0, .float .f32 0, .float .f32 0, .float .f32 0, .float .f32 0, .float .f32 0]) _ (by assumption) 22 ((by rw [zlit]; exact jn_size (zeros_len 16) (zeros_len 4) _ _)) ((by rw [zlit]; exact jn_size (zeros_len 16) (zeros_len 4) _ _)) (by kernel_rfl) ((by rw [zlit]; exact jn_one _ _ _ _)) ?_))
    rw [← zlit]
    exact bodyPost_ret (v := .tuple #[.agg (#[.int .i64 0, .int .i64 0, .float .f32 0, .float .f32 0, .float .f32 0, .float .f32 0, .float .f32 0, .float .f32 0, .float .f32 0, .float .f32 0, .float .f32 0, .float .f32 0, .float .f32 0, .float .f32 0, .float .f32 0, .float .f32 0, .float .f32 0, .float .f32 0, .float .f32 0, .float .f32 0, .float .f32 0, .float .f32 0]), .int .i64 2]) (results_at_tmp (p := 8) (ty := 30) rfl _ _ _ (#[.int .i64 0, .int .i64 0, .float .f32 0, .float .f32 0, .float .f32 0, .float .f32 0, .float .f32 0, .float .f32 0, .float .f32 0, .float .f32 0, .float .f32 0, .float .f32 0, .float .f32 0, .float .f32 0, .float .f32 0, .float .f32 0, .float .f32 0, .float .f32 0, .float .f32 0, .float .f32 0, .float .f32 0, .float .f32 0]) _ (.int .i64 2) rfl rfl R9 _ Try.underlying30 rfl 22 ((by rw [zlit]; exact jn_size (zeros_len 16) (zeros_len 4) _ _)) (by kernel_rfl)) rfl ⟨rfl, B9.out⟩

end Go.Proofs.Ytafgcjjgnjialaa
