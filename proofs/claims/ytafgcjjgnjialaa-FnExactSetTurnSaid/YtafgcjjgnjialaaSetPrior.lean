/-
  CONTRACTS: SetPrior.
-/
import Derived.Test.YtafgcjjgnjialaaValid
import Derived.Test.YtafgcjjgnjialaaToJn
namespace Go.Proofs.Ytafgcjjgnjialaa
open Go Go.RowKit
set_option maxRecDepth 100000

def vSetPrior (i o : Int) (ts ps : List Nat) (k : Int) (x : Nat) : Int × Int × List Nat × List Nat × Int :=
  if okJ i o ts ps then (if decide (0 ≤ k ∧ k < i) && priB x then (i, o, ts, ps.set k.toNat x, 0) else (0, 0, zeros 16, zeros 4, 2)) else (0, 0, zeros 16, zeros 4, 1)
theorem okJ_arms {i o : Int} {ts ps : List Nat} (h : okJ i o ts ps = true) : (1 ≤ i ∧ i ≤ 4) ∧ 1 ≤ o ∧ o ≤ 4 := by
  unfold okJ inB at h; simp at h; exact ⟨h.1.1.1, h.1.1.2⟩
theorem okJ_turns {i o : Int} {ts ps : List Nat} (hl : ts.length = 16) (h : okJ i o ts ps = true) : ∀ x ∈ ts, x ≤ 1065353216 := by
  intro x hx
  rw [okJ_model] at h
  have hr : rowsSTo i o ts ps 4 = true := by simp at h; exact h.2
  obtain ⟨q, hq, rfl⟩ := List.mem_iff_getElem.1 hx
  have h1 : rowS i o ts ps (q / 4) = true := List.all_eq_true.1 hr _ (by simp; omega)
  have h2 : cellsTo i o (q / 4) (row4 ts (q / 4)) 4 = true := by unfold rowS at h1; simp at h1; exact h1.1
  have h3 := cellsTo_shr (n := q % 4) (by omega) h2
  rw [row4_nth hl _ (by omega), Nat.div_add_mod] at h3
  unfold nth at h3
  rwa [List.getD_eq_getElem?_getD, List.getElem?_eq_getElem hq, Option.getD_some] at h3
theorem okJ_priors {i o : Int} {ts ps : List Nat} (hl : ps.length = 4) (h : okJ i o ts ps = true) : ∀ x ∈ ps, x < 2139095040 := by
  intro x hx
  have ha : amtTo i ps 4 = true := by unfold okJ at h; simp at h; exact h.1.2
  obtain ⟨q, hq, rfl⟩ := List.mem_iff_getElem.1 hx
  have h1 := amtTo_at (k := q) (by omega) ha
  unfold amtA amtB nth at h1
  rw [List.getD_eq_getElem?_getD, List.getElem?_eq_getElem hq, Option.getD_some] at h1
  simp at h1
  exact h1.1
theorem zeros_good (n : Nat) : ∀ x ∈ zeros n, x < 4294967296 ∧ nanB x = false := fun x hx => by obtain rfl := List.eq_of_mem_replicate hx; decide
theorem vSetPrior_good {i o : Int} {ts ps : List Nat} (hlt : ts.length = 16) (hlp : ps.length = 4) (k : Int) (x : Nat) :
    (vSetPrior i o ts ps k x).2.2.1.length = 16 ∧ (vSetPrior i o ts ps k x).2.2.2.1.length = 4 ∧ (∀ y ∈ (vSetPrior i o ts ps k x).2.2.1, y < 4294967296 ∧ nanB y = false) ∧ ∀ y ∈ (vSetPrior i o ts ps k x).2.2.2.1, y < 4294967296 ∧ nanB y = false := by
  unfold vSetPrior
  split
  · rename_i h
    split
    · rename_i h2
      simp at h2
      have hp := priB_amt h2.2
      exact ⟨hlt, by simp [hlp], fun y hy => nan_le (okJ_turns hlt h y hy) (by omega), fun y hy => by
        rcases List.mem_or_eq_of_mem_set hy with hy | rfl
        · exact nan_le (Nat.le_of_lt (okJ_priors hlp h y hy)) (by omega)
        · exact nan_le hp.2 (by omega)⟩
    · exact ⟨zeros_len _, zeros_len _, zeros_good _, zeros_good _⟩
  · exact ⟨zeros_len _, zeros_len _, zeros_good _, zeros_good _⟩

set_option maxHeartbeats 1000000 in
theorem SetPrior_b (i o : Int) (ts ps : List Nat) (hi : -9223372036854775808 ≤ i ∧ i ≤ 9223372036854775807) (ho : -9223372036854775808 ≤ o ∧ o ≤ 9223372036854775807) (hlt : ts.length = 16) (hlp : ps.length = 4) (hct : ∀ x ∈ ts, x < 4294967296) (hcp : ∀ x ∈ ps, x < 4294967296) (k : Int) (hk : -9223372036854775808 ≤ k ∧ k ≤ 9223372036854775807) (x : Nat) (hx : x < 4294967296) (w : World) :
    Calls Try.prog 24 #[.agg (jn i o ts ps), .int .i64 k, .float .f32 x] w fun e w' => e = .returned (.tuple #[.agg (jn (vSetPrior i o ts ps k x).1 (vSetPrior i o ts ps k x).2.1 (vSetPrior i o ts ps k x).2.2.1 (vSetPrior i o ts ps k x).2.2.2.1), .int .i64 (vSetPrior i o ts ps k x).2.2.2.2]) ∧ Below w.heap.size w w' := by
  have A0 : At ((w.alloc (.cells (jn i o ts ps) 30)).alloc (.cells (#[.int .i64 0, .int .i64 0, .float .f32 0, .float .f32 0, .float .f32 0, .float .f32 0, .float .f32 0, .float .f32 0, .float .f32 0, .float .f32 0, .float .f32 0, .float .f32 0, .float .f32 0, .float .f32 0, .float .f32 0, .float .f32 0, .float .f32 0, .float .f32 0, .float .f32 0, .float .f32 0, .float .f32 0, .float .f32 0]) 30)) w.heap.size (jn i o ts ps) 30 := (At.new w _ _).alloc _
  have R0 : At ((w.alloc (.cells (jn i o ts ps) 30)).alloc (.cells (#[.int .i64 0, .int .i64 0, .float .f32 0, .float .f32 0, .float .f32 0, .float .f32 0, .float .f32 0, .float .f32 0, .float .f32 0, .float .f32 0, .float .f32 0, .float .f32 0, .float .f32 0, .float .f32 0, .float .f32 0, .float .f32 0, .float .f32 0, .float .f32 0, .float .f32 0, .float .f32 0, .float .f32 0, .float .f32 0]) 30)) (w.heap.size + 1) (#[.int .i64 0, .int .i64 0, .float .f32 0, .float .f32 0, .float .f32 0, .float .f32 0, .float .f32 0, .float .f32 0, .float .f32 0, .float .f32 0, .float .f32 0, .float .f32 0, .float .f32 0, .float .f32 0, .float .f32 0, .float .f32 0, .float .f32 0, .float .f32 0, .float .f32 0, .float .f32 0, .float .f32 0, .float .f32 0]) 30 := At.last1 w _ _ _
  have B0 := Lib.hid (bnew (b0 w (.cells (jn i o ts ps) 30)) (.cells (#[.int .i64 0, .int .i64 0, .float .f32 0, .float .f32 0, .float .f32 0, .float .f32 0, .float .f32 0, .float .f32 0, .float .f32 0, .float .f32 0, .float .f32 0, .float .f32 0, .float .f32 0, .float .f32 0, .float .f32 0, .float .f32 0, .float .f32 0, .float .f32 0, .float .f32 0, .float .f32 0, .float .f32 0, .float .f32 0]) 30))
  have SZ := jn_size hlt hlp i o
  cases h : okJ i o ts ps
  · have ev : (vSetPrior i o ts ps k x) = (0, 0, zeros 16, zeros 4, 1) := by unfold vSetPrior; rw [h]; rfl
    rw [ev]
    clear ev
    go_enter Try.func24, Try.ntmps24
    go_wp2_with (((with_reducible refine is_load 30 _ rfl ?_); refine wpList_load_at rfl 30 _ rfl _ rfl (jn i o ts ps) _ (by assumption) 22 (SZ) _ Try.underlying30 rfl (by kernel_rfl) ?_))
    refine (ValidJunction_b i o ts ps hi ho hlt hlp hct hcp _).mono ?_
    rw [h]
    rintro e w1 ⟨rfl, hb1⟩
    have A1 := A0.step hb1
    have R1 := R0.step hb1
    have B1 := Lib.hid (bthen B0.out hb1)
    clear A0 R0 B0 hb1
    have R9 := R1.setRow (#[.int .i64 0, .int .i64 0, .float .f32 0, .float .f32 0, .float .f32 0, .float .f32 0, .float .f32 0, .float .f32 0, .float .f32 0, .float .f32 0, .float .f32 0, .float .f32 0, .float .f32 0, .float .f32 0, .float .f32 0, .float .f32 0, .float .f32 0, .float .f32 0, .float .f32 0, .float .f32 0, .float .f32 0, .float .f32 0])
    have B9 := Lib.hid (bset B1.out (g := w.heap.size + 1) (by omega) (#[.int .i64 0, .int .i64 0, .float .f32 0, .float .f32 0, .float .f32 0, .float .f32 0, .float .f32 0, .float .f32 0, .float .f32 0, .float .f32 0, .float .f32 0, .float .f32 0, .float .f32 0, .float .f32 0, .float .f32 0, .float .f32 0, .float .f32 0, .float .f32 0, .float .f32 0, .float .f32 0, .float .f32 0, .float .f32 0]))
    go_wp2_with (((with_reducible refine is_store 30 (.tmp 6) (.tmp 11) rfl ?_); refine wpList_store_at rfl 30 (.tmp 6) (.tmp 11) rfl _ rfl (#[.int .i64 0, .int .i64 0, .float .f32 0, .float .f32 0, .float .f32 0, .float .f32 0, .float .f32 0, .float .f32 0, .float .f32 0, .float .f32 0, .float .f32 0, .float .f32 0, .float .f32 0, .float .f32 0, .float .f32 0, .float .f32 0, .float .f32 0, .float .f32 0, .float .f32 0, .float .f32 0, .float .f32 0, .float .f32 0]) rfl (#[.int .i64 0, .int .i64 0, .float .f32 0, .float .f32 0, .float .f32 0, .float .f32 0, .float .f32 0, .float .f32 0, .float .f32 0, .float .f32 0, .float .f32 0, .float .f32 0, .float .f32 0, .float .f32 0, .float .f32 0, .float .f32 0, .float .f32 0, .float .f32 0, .float .f32 0, .float .f32 0, .float .f32 0, .float .f32 0]) _ (by assumption) 22 ((by rw [zlit]; exact jn_size (zeros_len 16) (zeros_len 4) _ _)) ((by rw [zlit]; exact jn_size (zeros_len 16) (zeros_len 4) _ _)) (by kernel_rfl) ((by rw [zlit]; exact jn_one _ _ _ _)) ?_))
    rw [← zlit]
    exact bodyPost_ret (v := .tuple #[.agg (#[.int .i64 0, .int .i64 0, .float .f32 0, .float .f32 0, .float .f32 0, .float .f32 0, .float .f32 0, .float .f32 0, .float .f32 0, .float .f32 0, .float .f32 0, .float .f32 0, .float .f32 0, .float .f32 0, .float .f32 0, .float .f32 0, .float .f32 0, .float .f32 0, .float .f32 0, .float .f32 0, .float .f32 0, .float .f32 0]), .int .i64 1]) (results_at_tmp (p := 6) (ty := 30) rfl _ _ _ (#[.int .i64 0, .int .i64 0, .float .f32 0, .float .f32 0, .float .f32 0, .float .f32 0, .float .f32 0, .float .f32 0, .float .f32 0, .float .f32 0, .float .f32 0, .float .f32 0, .float .f32 0, .float .f32 0, .float .f32 0, .float .f32 0, .float .f32 0, .float .f32 0, .float .f32 0, .float .f32 0, .float .f32 0, .float .f32 0]) _ (.int .i64 1) rfl rfl R9 _ Try.underlying30 rfl 22 ((by rw [zlit]; exact jn_size (zeros_len 16) (zeros_len 4) _ _)) (by kernel_rfl)) rfl ⟨rfl, B9.out⟩
  have hb := okJ_arms h
  have hs1 : IntKind.i64.wrap (i - 1) = i - 1 := IntWalk.i64_in _ (by omega)
  by_cases hki : 0 ≤ k ∧ k < i
  · obtain ⟨q, rfl⟩ := Int.eq_ofNat_of_zero_le hki.1
    have hq : q < 4 := by omega
    have hin : decide (0 ≤ (q : Int) ∧ (q : Int) < i) = true := decide_eq_true (by omega)
    clear hb
    cases hp : priB x
    · have ev : (vSetPrior i o ts ps (q : Int) x) = (0, 0, zeros 16, zeros 4, 2) := by unfold vSetPrior; rw [h, hp, Bool.and_false]; rfl
      rw [ev]
      clear ev hki
      go_enter Try.func24, Try.ntmps24
      go_wp2_with (((with_reducible refine is_load 30 _ rfl ?_); refine wpList_load_at rfl 30 _ rfl _ rfl (jn i o ts ps) _ (by assumption) 22 (SZ) _ Try.underlying30 rfl (by kernel_rfl) ?_))
      refine (ValidJunction_b i o ts ps hi ho hlt hlp hct hcp _).mono ?_
      rw [h]
      rintro e w1 ⟨rfl, hb1⟩
      have A1 := A0.step hb1
      have R1 := R0.step hb1
      have B1 := Lib.hid (bthen B0.out hb1)
      clear A0 R0 B0 hb1
      go_wp2_with (((with_reducible refine is_load 2 _ rfl ?_); refine wpList_load_cell rfl 2 _ rfl _ 0 rfl (jn i o ts ps) _ (by assumption) _ Try.underlying2 rfl (.int .i64 i) (jn_ins i o ts ps) ?_))
      refine (isArm_b q i _).mono ?_
      rw [hin]
      rintro e w2 ⟨rfl, n2, rfl⟩
      have A2 := A1.drewN n2
      have R2 := R1.drewN n2
      have B2 := Lib.hid (bdrew B1.out n2)
      generalize hw2 : World.drewN _ _ = w2 at A2 R2 B2 ⊢
      clear A1 R1 B1 hw2
      go_wp2_with fail
      refine (isPrior_b x hx _).mono ?_
      rw [hp]
      rintro e w3 ⟨rfl, n3, rfl⟩
      have R3 := R2.drewN n3
      have B3 := Lib.hid (bdrew B2.out n3)
      generalize hw3 : World.drewN _ _ = w3 at R3 B3 ⊢
      clear A2 R2 B2 hw3
      have R9 := R3.setRow (#[.int .i64 0, .int .i64 0, .float .f32 0, .float .f32 0, .float .f32 0, .float .f32 0, .float .f32 0, .float .f32 0, .float .f32 0, .float .f32 0, .float .f32 0, .float .f32 0, .float .f32 0, .float .f32 0, .float .f32 0, .float .f32 0, .float .f32 0, .float .f32 0, .float .f32 0, .float .f32 0, .float .f32 0, .float .f32 0])
      have B9 := Lib.hid (bset B3.out (g := w.heap.size + 1) (by omega) (#[.int .i64 0, .int .i64 0, .float .f32 0, .float .f32 0, .float .f32 0, .float .f32 0, .float .f32 0, .float .f32 0, .float .f32 0, .float .f32 0, .float .f32 0, .float .f32 0, .float .f32 0, .float .f32 0, .float .f32 0, .float .f32 0, .float .f32 0, .float .f32 0, .float .f32 0, .float .f32 0, .float .f32 0, .float .f32 0]))
      go_wp2_with (((with_reducible refine is_store 30 (.tmp 6) (.tmp 22) rfl ?_); refine wpList_store_at rfl 30 (.tmp 6) (.tmp 22) rfl _ rfl (#[.int .i64 0, .int .i64 0, .float .f32 0, .float .f32 0, .float .f32 0, .float .f32 0, .float .f32 0, .float .f32 0, .float .f32 0, .float .f32 0, .float .f32 0, .float .f32 0, .float .f32 0, .float .f32 0, .float .f32 0, .float .f32 0, .float .f32 0, .float .f32 0, .float .f32 0, .float .f32 0, .float .f32 0, .float .f32 0]) rfl (#[.int .i64 0, .int .i64 0, .float .f32 0, .float .f32 0, .float .f32 0, .float .f32 0, .float .f32 0, .float .f32 0, .float .f32 0, .float .f32 0, .float .f32 0, .float .f32 0, .float .f32 0, .float .f32 0, .float .f32 0, .float .f32 0, .float .f32 0, .float .f32 0, .float .f32 0, .float .f32 0, .float .f32 0, .float .f32 0]) _ (by assumption) 22 ((by rw [zlit]; exact jn_size (zeros_len 16) (zeros_len 4) _ _)) ((by rw [zlit]; exact jn_size (zeros_len 16) (zeros_len 4) _ _)) (by kernel_rfl) ((by rw [zlit]; exact jn_one _ _ _ _)) ?_))
      rw [← zlit]
      exact bodyPost_ret (v := .tuple #[.agg (#[.int .i64 0, .int .i64 0, .float .f32 0, .float .f32 0, .float .f32 0, .float .f32 0, .float .f32 0, .float .f32 0, .float .f32 0, .float .f32 0, .float .f32 0, .float .f32 0, .float .f32 0, .float .f32 0, .float .f32 0, .float .f32 0, .float .f32 0, .float .f32 0, .float .f32 0, .float .f32 0, .float .f32 0, .float .f32 0]), .int .i64 2]) (results_at_tmp (p := 6) (ty := 30) rfl _ _ _ (#[.int .i64 0, .int .i64 0, .float .f32 0, .float .f32 0, .float .f32 0, .float .f32 0, .float .f32 0, .float .f32 0, .float .f32 0, .float .f32 0, .float .f32 0, .float .f32 0, .float .f32 0, .float .f32 0, .float .f32 0, .float .f32 0, .float .f32 0, .float .f32 0, .float .f32 0, .float .f32 0, .float .f32 0, .float .f32 0]) _ (.int .i64 2) rfl rfl R9 _ Try.underlying30 rfl 22 ((by rw [zlit]; exact jn_size (zeros_len 16) (zeros_len 4) _ _)) (by kernel_rfl)) rfl ⟨rfl, B9.out⟩
    · have ev : (vSetPrior i o ts ps (q : Int) x) = (i, o, ts, ps.set q x, 0) := by unfold vSetPrior; rw [h, hp, decide_eq_true hki]; rfl
      have SN := jn_size hlt (ps := ps.set q x) (by rw [List.length_set]; exact hlp) i o
      rw [ev]
      clear ev hki
      go_enter Try.func24, Try.ntmps24
      go_wp2_with (((with_reducible refine is_load 30 _ rfl ?_); refine wpList_load_at rfl 30 _ rfl _ rfl (jn i o ts ps) _ (by assumption) 22 (SZ) _ Try.underlying30 rfl (by kernel_rfl) ?_))
      refine (ValidJunction_b i o ts ps hi ho hlt hlp hct hcp _).mono ?_
      rw [h]
      rintro e w1 ⟨rfl, hb1⟩
      have A1 := A0.step hb1
      have R1 := R0.step hb1
      have B1 := Lib.hid (bthen B0.out hb1)
      clear A0 R0 B0 hb1
      go_wp2_with (((with_reducible refine is_load 2 _ rfl ?_); refine wpList_load_cell rfl 2 _ rfl _ 0 rfl (jn i o ts ps) _ (by assumption) _ Try.underlying2 rfl (.int .i64 i) (jn_ins i o ts ps) ?_))
      refine (isArm_b q i _).mono ?_
      rw [hin]
      rintro e w2 ⟨rfl, n2, rfl⟩
      have A2 := A1.drewN n2
      have R2 := R1.drewN n2
      have B2 := Lib.hid (bdrew B1.out n2)
      generalize hw2 : World.drewN _ _ = w2 at A2 R2 B2 ⊢
      clear A1 R1 B1 hw2
      go_wp2_with fail
      refine (isPrior_b x hx _).mono ?_
      rw [hp]
      rintro e w3 ⟨rfl, n3, rfl⟩
      have A3 := A2.drewN n3
      have R3 := R2.drewN n3
      have B3 := Lib.hid (bdrew B2.out n3)
      generalize hw3 : World.drewN _ _ = w3 at A3 R3 B3 ⊢
      clear A2 R2 B2 hw3
      have A4 := A3.setRow (jn i o ts (ps.set q x))
      have R4 := R3.setRow_other (k := w.heap.size) (by omega) (jn i o ts (ps.set q x))
      have B4 := Lib.hid (bset B3.out (g := w.heap.size) (Nat.le_refl _) (jn i o ts (ps.set q x)))
      have R9 := R4.setRow (jn i o ts (ps.set q x))
      have B9 := Lib.hid (bset B4.out (g := w.heap.size + 1) (by omega) (jn i o ts (ps.set q x)))
      go_wp2_with (first | ((with_reducible refine is_store 22 (.tmp 26) (.tmp 24) rfl ?_); refine wpList_store_cell rfl 22 (.tmp 26) (.tmp 24) rfl _ _ rfl (.float .f32 x) rfl (jn i o ts ps) _ (by assumption) (by rw [SZ]; omega) (by kernel_rfl) rfl (jn i o ts (ps.set q x)) (jn_setPrior hlt i o (k := q) (by omega) x) ?_) | ((with_reducible refine is_load 30 _ rfl ?_); refine wpList_load_at rfl 30 _ rfl _ rfl (jn i o ts (ps.set q x)) _ (by assumption) 22 (SN) _ Try.underlying30 rfl (by kernel_rfl) ?_) | ((with_reducible refine is_store 30 (.tmp 6) (.tmp 27) rfl ?_); refine wpList_store_at rfl 30 (.tmp 6) (.tmp 27) rfl _ rfl (jn i o ts (ps.set q x)) rfl (#[.int .i64 0, .int .i64 0, .float .f32 0, .float .f32 0, .float .f32 0, .float .f32 0, .float .f32 0, .float .f32 0, .float .f32 0, .float .f32 0, .float .f32 0, .float .f32 0, .float .f32 0, .float .f32 0, .float .f32 0, .float .f32 0, .float .f32 0, .float .f32 0, .float .f32 0, .float .f32 0, .float .f32 0, .float .f32 0]) _ (by assumption) 22 (SN) ((by rw [zlit]; exact jn_size (zeros_len 16) (zeros_len 4) _ _)) (by kernel_rfl) (jn_one _ _ _ _) ?_))
      exact bodyPost_ret (v := .tuple #[.agg (jn i o ts (ps.set q x)), .int .i64 0]) (results_at_tmp (p := 6) (ty := 30) rfl _ _ _ (jn i o ts (ps.set q x)) _ (.int .i64 0) rfl rfl R9 _ Try.underlying30 rfl 22 (SN) (by kernel_rfl)) rfl ⟨rfl, B9.out⟩
  · have ev : (vSetPrior i o ts ps k x) = (0, 0, zeros 16, zeros 4, 2) := by unfold vSetPrior; rw [h, decide_eq_false hki]; rfl
    rw [ev]
    have hin : decide (0 ≤ k ∧ k < i) = false := decide_eq_false (by omega)
    clear ev hki hb
    go_enter Try.func24, Try.ntmps24
    go_wp2_with (((with_reducible refine is_load 30 _ rfl ?_); refine wpList_load_at rfl 30 _ rfl _ rfl (jn i o ts ps) _ (by assumption) 22 (SZ) _ Try.underlying30 rfl (by kernel_rfl) ?_))
    refine (ValidJunction_b i o ts ps hi ho hlt hlp hct hcp _).mono ?_
    rw [h]
    rintro e w1 ⟨rfl, hb1⟩
    have A1 := A0.step hb1
    have R1 := R0.step hb1
    have B1 := Lib.hid (bthen B0.out hb1)
    clear A0 R0 B0 hb1
    go_wp2_with (((with_reducible refine is_load 2 _ rfl ?_); refine wpList_load_cell rfl 2 _ rfl _ 0 rfl (jn i o ts ps) _ (by assumption) _ Try.underlying2 rfl (.int .i64 i) (jn_ins i o ts ps) ?_))
    refine (isArm_b k i _).mono ?_
    rw [hin]
    rintro e w2 ⟨rfl, n2, rfl⟩
    have A2 := A1.drewN n2
    have R2 := R1.drewN n2
    have B2 := Lib.hid (bdrew B1.out n2)
    generalize hw2 : World.drewN _ _ = w2 at A2 R2 B2 ⊢
    clear A1 R1 B1 hw2
    have R9 := R2.setRow (#[.int .i64 0, .int .i64 0, .float .f32 0, .float .f32 0, .float .f32 0, .float .f32 0, .float .f32 0, .float .f32 0, .float .f32 0, .float .f32 0, .float .f32 0, .float .f32 0, .float .f32 0, .float .f32 0, .float .f32 0, .float .f32 0, .float .f32 0, .float .f32 0, .float .f32 0, .float .f32 0, .float .f32 0, .float .f32 0])
    have B9 := Lib.hid (bset B2.out (g := w.heap.size + 1) (by omega) (#[.int .i64 0, .int .i64 0, .float .f32 0, .float .f32 0, .float .f32 0, .float .f32 0, .float .f32 0, .float .f32 0, .float .f32 0, .float .f32 0, .float .f32 0, .float .f32 0, .float .f32 0, .float .f32 0, .float .f32 0, .float .f32 0, .float .f32 0, .float .f32 0, .float .f32 0, .float .f32 0, .float .f32 0, .float .f32 0]))
    go_wp2_with (((with_reducible refine is_store 30 (.tmp 6) (.tmp 22) rfl ?_); refine wpList_store_at rfl 30 (.tmp 6) (.tmp 22) rfl _ rfl (#[.int .i64 0, .int .i64 0, .float .f32 0, .float .f32 0, .float .f32 0, .float .f32 0, .float .f32 0, .float .f32 0, .float .f32 0, .float .f32 0, .float .f32 0, .float .f32 0, .float .f32 0, .float .f32 0, .float .f32 0, .float .f32 0, .float .f32 0, .float .f32 0, .float .f32 0, .float .f32 0, .float .f32 0, .float .f32 0]) rfl (#[.int .i64 0, .int .i64 0, .float .f32 0, .float .f32 0, .float .f32 0, .float .f32 0, .float .f32 0, .float .f32 0, .float .f32 0, .float .f32 0, .float .f32 0, .float .f32 0, .float .f32 0, .float .f32 0, .float .f32 0, .float .f32 0, .float .f32 0, .float .f32 0, .float .f32 0, .float .f32 0, .float .f32 0, .float .f32 0]) _ (by assumption) 22 ((by rw [zlit]; exact jn_size (zeros_len 16) (zeros_len 4) _ _)) ((by rw [zlit]; exact jn_size (zeros_len 16) (zeros_len 4) _ _)) (by kernel_rfl) ((by rw [zlit]; exact jn_one _ _ _ _)) ?_))
    rw [← zlit]
    exact bodyPost_ret (v := .tuple #[.agg (#[.int .i64 0, .int .i64 0, .float .f32 0, .float .f32 0, .float .f32 0, .float .f32 0, .float .f32 0, .float .f32 0, .float .f32 0, .float .f32 0, .float .f32 0, .float .f32 0, .float .f32 0, .float .f32 0, .float .f32 0, .float .f32 0, .float .f32 0, .float .f32 0, .float .f32 0, .float .f32 0, .float .f32 0, .float .f32 0]), .int .i64 2]) (results_at_tmp (p := 6) (ty := 30) rfl _ _ _ (#[.int .i64 0, .int .i64 0, .float .f32 0, .float .f32 0, .float .f32 0, .float .f32 0, .float .f32 0, .float .f32 0, .float .f32 0, .float .f32 0, .float .f32 0, .float .f32 0, .float .f32 0, .float .f32 0, .float .f32 0, .float .f32 0, .float .f32 0, .float .f32 0, .float .f32 0, .float .f32 0, .float .f32 0, .float .f32 0]) _ (.int .i64 2) rfl rfl R9 _ Try.underlying30 rfl 22 ((by rw [zlit]; exact jn_size (zeros_len 16) (zeros_len 4) _ _)) (by kernel_rfl)) rfl ⟨rfl, B9.out⟩

set_option maxHeartbeats 1000000 in
theorem sSetPrior_b (i o : Int) (ts ps : List Nat) (hi : -9223372036854775808 ≤ i ∧ i ≤ 9223372036854775807) (ho : -9223372036854775808 ≤ o ∧ o ≤ 9223372036854775807) (hlt : ts.length = 16) (hlp : ps.length = 4) (hct : ∀ x ∈ ts, x < 4294967296) (hcp : ∀ x ∈ ps, x < 4294967296) (k : Int) (hk : -9223372036854775808 ≤ k ∧ k ≤ 9223372036854775807) (x : Nat) (hx : x < 4294967296) (w : World) :
    Calls Try.prog 23 #[.agg (jn i o ts ps), .int .i64 k, .float .f32 x] w fun e w' => e = .returned (.tuple #[.agg (jn (vSetPrior i o ts ps k x).1 (vSetPrior i o ts ps k x).2.1 (vSetPrior i o ts ps k x).2.2.1 (vSetPrior i o ts ps k x).2.2.2.1), .int .i64 (vSetPrior i o ts ps k x).2.2.2.2]) ∧ Below w.heap.size w w' := by
  have A0 : At ((w.alloc (.cells (jn i o ts ps) 30)).alloc (.cells (#[.int .i64 0, .int .i64 0, .float .f32 0, .float .f32 0, .float .f32 0, .float .f32 0, .float .f32 0, .float .f32 0, .float .f32 0, .float .f32 0, .float .f32 0, .float .f32 0, .float .f32 0, .float .f32 0, .float .f32 0, .float .f32 0, .float .f32 0, .float .f32 0, .float .f32 0, .float .f32 0, .float .f32 0, .float .f32 0]) 30)) w.heap.size (jn i o ts ps) 30 := (At.new w _ _).alloc _
  have R0 : At ((w.alloc (.cells (jn i o ts ps) 30)).alloc (.cells (#[.int .i64 0, .int .i64 0, .float .f32 0, .float .f32 0, .float .f32 0, .float .f32 0, .float .f32 0, .float .f32 0, .float .f32 0, .float .f32 0, .float .f32 0, .float .f32 0, .float .f32 0, .float .f32 0, .float .f32 0, .float .f32 0, .float .f32 0, .float .f32 0, .float .f32 0, .float .f32 0, .float .f32 0, .float .f32 0]) 30)) (w.heap.size + 1) (#[.int .i64 0, .int .i64 0, .float .f32 0, .float .f32 0, .float .f32 0, .float .f32 0, .float .f32 0, .float .f32 0, .float .f32 0, .float .f32 0, .float .f32 0, .float .f32 0, .float .f32 0, .float .f32 0, .float .f32 0, .float .f32 0, .float .f32 0, .float .f32 0, .float .f32 0, .float .f32 0, .float .f32 0, .float .f32 0]) 30 := At.last1 w _ _ _
  have B0 := Lib.hid (bnew (b0 w (.cells (jn i o ts ps) 30)) (.cells (#[.int .i64 0, .int .i64 0, .float .f32 0, .float .f32 0, .float .f32 0, .float .f32 0, .float .f32 0, .float .f32 0, .float .f32 0, .float .f32 0, .float .f32 0, .float .f32 0, .float .f32 0, .float .f32 0, .float .f32 0, .float .f32 0, .float .f32 0, .float .f32 0, .float .f32 0, .float .f32 0, .float .f32 0, .float .f32 0]) 30))
  have SZ := jn_size hlt hlp i o
  cases h : okJ i o ts ps
  · have ev : (vSetPrior i o ts ps k x) = (0, 0, zeros 16, zeros 4, 1) := by unfold vSetPrior; rw [h]; rfl
    rw [ev]
    clear ev
    go_enter Try.func23, Try.ntmps23
    go_wp2_with fail
    refine (l03Ok_b _ i o ts ps hi ho hlt hlp hct hcp _ _ A0).mono ?_
    rw [h]
    rintro e w1 ⟨rfl, n1, rfl⟩
    have A1 := A0.drewN n1
    have R1 := R0.drewN n1
    have B1 := Lib.hid (bdrew B0.out n1)
    generalize hw1 : World.drewN _ _ = w1 at A1 R1 B1 ⊢
    clear A0 R0 B0 hw1
    have R9 := R1.setRow (#[.int .i64 0, .int .i64 0, .float .f32 0, .float .f32 0, .float .f32 0, .float .f32 0, .float .f32 0, .float .f32 0, .float .f32 0, .float .f32 0, .float .f32 0, .float .f32 0, .float .f32 0, .float .f32 0, .float .f32 0, .float .f32 0, .float .f32 0, .float .f32 0, .float .f32 0, .float .f32 0, .float .f32 0, .float .f32 0])
    have B9 := Lib.hid (bset B1.out (g := w.heap.size + 1) (by omega) (#[.int .i64 0, .int .i64 0, .float .f32 0, .float .f32 0, .float .f32 0, .float .f32 0, .float .f32 0, .float .f32 0, .float .f32 0, .float .f32 0, .float .f32 0, .float .f32 0, .float .f32 0, .float .f32 0, .float .f32 0, .float .f32 0, .float .f32 0, .float .f32 0, .float .f32 0, .float .f32 0, .float .f32 0, .float .f32 0]))
    go_wp2_with (((with_reducible refine is_store 30 (.tmp 6) (.tmp 10) rfl ?_); refine wpList_store_at rfl 30 (.tmp 6) (.tmp 10) rfl _ rfl (#[.int .i64 0, .int .i64 0, .float .f32 0, .float .f32 0, .float .f32 0, .float .f32 0, .float .f32 0, .float .f32 0, .float .f32 0, .float .f32 0, .float .f32 0, .float .f32 0, .float .f32 0, .float .f32 0, .float .f32 0, .float .f32 0, .float .f32 0, .float .f32 0, .float .f32 0, .float .f32 0, .float .f32 0, .float .f32 0]) rfl (#[.int .i64 0, .int .i64 0, .float .f32 0, .float .f32 0, .float .f32 0, .float .f32 0, .float .f32 0, .float .f32 0, .float .f32 0, .float .f32 0, .float .f32 0, .float .f32 0, .float .f32 0, .float .f32 0, .float .f32 0, .float .f32 0, .float .f32 0, .float .f32 0, .float .f32 0, .float .f32 0, .float .f32 0, .float .f32 0]) _ (by assumption) 22 ((by rw [zlit]; exact jn_size (zeros_len 16) (zeros_len 4) _ _)) ((by rw [zlit]; exact jn_size (zeros_len 16) (zeros_len 4) _ _)) (by kernel_rfl) ((by rw [zlit]; exact jn_one _ _ _ _)) ?_))
    rw [← zlit]
    exact bodyPost_ret (v := .tuple #[.agg (#[.int .i64 0, .int .i64 0, .float .f32 0, .float .f32 0, .float .f32 0, .float .f32 0, .float .f32 0, .float .f32 0, .float .f32 0, .float .f32 0, .float .f32 0, .float .f32 0, .float .f32 0, .float .f32 0, .float .f32 0, .float .f32 0, .float .f32 0, .float .f32 0, .float .f32 0, .float .f32 0, .float .f32 0, .float .f32 0]), .int .i64 1]) (results_at_tmp (p := 6) (ty := 30) rfl _ _ _ (#[.int .i64 0, .int .i64 0, .float .f32 0, .float .f32 0, .float .f32 0, .float .f32 0, .float .f32 0, .float .f32 0, .float .f32 0, .float .f32 0, .float .f32 0, .float .f32 0, .float .f32 0, .float .f32 0, .float .f32 0, .float .f32 0, .float .f32 0, .float .f32 0, .float .f32 0, .float .f32 0, .float .f32 0, .float .f32 0]) _ (.int .i64 1) rfl rfl R9 _ Try.underlying30 rfl 22 ((by rw [zlit]; exact jn_size (zeros_len 16) (zeros_len 4) _ _)) (by kernel_rfl)) rfl ⟨rfl, B9.out⟩
  have hb := okJ_arms h
  have hs1 : IntKind.i64.wrap (i - 1) = i - 1 := IntWalk.i64_in _ (by omega)
  by_cases hki : 0 ≤ k ∧ k < i
  · obtain ⟨q, rfl⟩ := Int.eq_ofNat_of_zero_le hki.1
    have hq : q < 4 := by omega
    have hin : inB 0 (i - 1) q = true := decide_eq_true (by omega)
    clear hb
    cases hp : priB x
    · have ev : (vSetPrior i o ts ps (q : Int) x) = (0, 0, zeros 16, zeros 4, 2) := by unfold vSetPrior; rw [h, hp, Bool.and_false]; rfl
      rw [ev]
      clear ev hki
      go_enter Try.func23, Try.ntmps23
      go_wp2_with fail
      refine (l03Ok_b _ i o ts ps hi ho hlt hlp hct hcp _ _ A0).mono ?_
      rw [h]
      rintro e w1 ⟨rfl, n1, rfl⟩
      have A1 := A0.drewN n1
      have R1 := R0.drewN n1
      have B1 := Lib.hid (bdrew B0.out n1)
      generalize hw1 : World.drewN _ _ = w1 at A1 R1 B1 ⊢
      clear A0 R0 B0 hw1
      go_wp2_with (((with_reducible refine is_load 2 _ rfl ?_); refine wpList_load_cell rfl 2 _ rfl _ 0 rfl (jn i o ts ps) _ (by assumption) _ Try.underlying2 rfl (.int .i64 i) (jn_ins i o ts ps) ?_))
      refine (l00In_b q 0 (i - 1) _).mono ?_
      rw [hin]
      rintro e w2 ⟨rfl, n2, rfl⟩
      have A2 := A1.drewN n2
      have R2 := R1.drewN n2
      have B2 := Lib.hid (bdrew B1.out n2)
      generalize hw2 : World.drewN _ _ = w2 at A2 R2 B2 ⊢
      clear A1 R1 B1 hw2
      go_wp2_with fail
      refine (l03Prior_b x hx _).mono ?_
      rw [hp]
      rintro e w3 ⟨rfl, n3, rfl⟩
      have R3 := R2.drewN n3
      have B3 := Lib.hid (bdrew B2.out n3)
      generalize hw3 : World.drewN _ _ = w3 at R3 B3 ⊢
      clear A2 R2 B2 hw3
      have R9 := R3.setRow (#[.int .i64 0, .int .i64 0, .float .f32 0, .float .f32 0, .float .f32 0, .float .f32 0, .float .f32 0, .float .f32 0, .float .f32 0, .float .f32 0, .float .f32 0, .float .f32 0, .float .f32 0, .float .f32 0, .float .f32 0, .float .f32 0, .float .f32 0, .float .f32 0, .float .f32 0, .float .f32 0, .float .f32 0, .float .f32 0])
      have B9 := Lib.hid (bset B3.out (g := w.heap.size + 1) (by omega) (#[.int .i64 0, .int .i64 0, .float .f32 0, .float .f32 0, .float .f32 0, .float .f32 0, .float .f32 0, .float .f32 0, .float .f32 0, .float .f32 0, .float .f32 0, .float .f32 0, .float .f32 0, .float .f32 0, .float .f32 0, .float .f32 0, .float .f32 0, .float .f32 0, .float .f32 0, .float .f32 0, .float .f32 0, .float .f32 0]))
      go_wp2_with (((with_reducible refine is_store 30 (.tmp 6) (.tmp 22) rfl ?_); refine wpList_store_at rfl 30 (.tmp 6) (.tmp 22) rfl _ rfl (#[.int .i64 0, .int .i64 0, .float .f32 0, .float .f32 0, .float .f32 0, .float .f32 0, .float .f32 0, .float .f32 0, .float .f32 0, .float .f32 0, .float .f32 0, .float .f32 0, .float .f32 0, .float .f32 0, .float .f32 0, .float .f32 0, .float .f32 0, .float .f32 0, .float .f32 0, .float .f32 0, .float .f32 0, .float .f32 0]) rfl (#[.int .i64 0, .int .i64 0, .float .f32 0, .float .f32 0, .float .f32 0, .float .f32 0, .float .f32 0, .float .f32 0, .float .f32 0, .float .f32 0, .float .f32 0, .float .f32 0, .float .f32 0, .float .f32 0, .float .f32 0, .float .f32 0, .float .f32 0, .float .f32 0, .float .f32 0, .float .f32 0, .float .f32 0, .float .f32 0]) _ (by assumption) 22 ((by rw [zlit]; exact jn_size (zeros_len 16) (zeros_len 4) _ _)) ((by rw [zlit]; exact jn_size (zeros_len 16) (zeros_len 4) _ _)) (by kernel_rfl) ((by rw [zlit]; exact jn_one _ _ _ _)) ?_))
      rw [← zlit]
      exact bodyPost_ret (v := .tuple #[.agg (#[.int .i64 0, .int .i64 0, .float .f32 0, .float .f32 0, .float .f32 0, .float .f32 0, .float .f32 0, .float .f32 0, .float .f32 0, .float .f32 0, .float .f32 0, .float .f32 0, .float .f32 0, .float .f32 0, .float .f32 0, .float .f32 0, .float .f32 0, .float .f32 0, .float .f32 0, .float .f32 0, .float .f32 0, .float .f32 0]), .int .i64 2]) (results_at_tmp (p := 6) (ty := 30) rfl _ _ _ (#[.int .i64 0, .int .i64 0, .float .f32 0, .float .f32 0, .float .f32 0, .float .f32 0, .float .f32 0, .float .f32 0, .float .f32 0, .float .f32 0, .float .f32 0, .float .f32 0, .float .f32 0, .float .f32 0, .float .f32 0, .float .f32 0, .float .f32 0, .float .f32 0, .float .f32 0, .float .f32 0, .float .f32 0, .float .f32 0]) _ (.int .i64 2) rfl rfl R9 _ Try.underlying30 rfl 22 ((by rw [zlit]; exact jn_size (zeros_len 16) (zeros_len 4) _ _)) (by kernel_rfl)) rfl ⟨rfl, B9.out⟩
    · have ev : (vSetPrior i o ts ps (q : Int) x) = (i, o, ts, ps.set q x, 0) := by unfold vSetPrior; rw [h, hp, decide_eq_true hki]; rfl
      have SN := jn_size hlt (ps := ps.set q x) (by rw [List.length_set]; exact hlp) i o
      rw [ev]
      clear ev hki
      go_enter Try.func23, Try.ntmps23
      go_wp2_with fail
      refine (l03Ok_b _ i o ts ps hi ho hlt hlp hct hcp _ _ A0).mono ?_
      rw [h]
      rintro e w1 ⟨rfl, n1, rfl⟩
      have A1 := A0.drewN n1
      have R1 := R0.drewN n1
      have B1 := Lib.hid (bdrew B0.out n1)
      generalize hw1 : World.drewN _ _ = w1 at A1 R1 B1 ⊢
      clear A0 R0 B0 hw1
      go_wp2_with (((with_reducible refine is_load 2 _ rfl ?_); refine wpList_load_cell rfl 2 _ rfl _ 0 rfl (jn i o ts ps) _ (by assumption) _ Try.underlying2 rfl (.int .i64 i) (jn_ins i o ts ps) ?_))
      refine (l00In_b q 0 (i - 1) _).mono ?_
      rw [hin]
      rintro e w2 ⟨rfl, n2, rfl⟩
      have A2 := A1.drewN n2
      have R2 := R1.drewN n2
      have B2 := Lib.hid (bdrew B1.out n2)
      generalize hw2 : World.drewN _ _ = w2 at A2 R2 B2 ⊢
      clear A1 R1 B1 hw2
      go_wp2_with fail
      refine (l03Prior_b x hx _).mono ?_
      rw [hp]
      rintro e w3 ⟨rfl, n3, rfl⟩
      have A3 := A2.drewN n3
      have R3 := R2.drewN n3
      have B3 := Lib.hid (bdrew B2.out n3)
      generalize hw3 : World.drewN _ _ = w3 at A3 R3 B3 ⊢
      clear A2 R2 B2 hw3
      have A4 := A3.setRow (jn i o ts (ps.set q x))
      have R4 := R3.setRow_other (k := w.heap.size) (by omega) (jn i o ts (ps.set q x))
      have B4 := Lib.hid (bset B3.out (g := w.heap.size) (Nat.le_refl _) (jn i o ts (ps.set q x)))
      have R9 := R4.setRow (jn i o ts (ps.set q x))
      have B9 := Lib.hid (bset B4.out (g := w.heap.size + 1) (by omega) (jn i o ts (ps.set q x)))
      go_wp2_with (first | ((with_reducible refine is_store 22 (.tmp 26) (.tmp 24) rfl ?_); refine wpList_store_cell rfl 22 (.tmp 26) (.tmp 24) rfl _ _ rfl (.float .f32 x) rfl (jn i o ts ps) _ (by assumption) (by rw [SZ]; omega) (by kernel_rfl) rfl (jn i o ts (ps.set q x)) (jn_setPrior hlt i o (k := q) (by omega) x) ?_) | ((with_reducible refine is_load 30 _ rfl ?_); refine wpList_load_at rfl 30 _ rfl _ rfl (jn i o ts (ps.set q x)) _ (by assumption) 22 (SN) _ Try.underlying30 rfl (by kernel_rfl) ?_) | ((with_reducible refine is_store 30 (.tmp 6) (.tmp 27) rfl ?_); refine wpList_store_at rfl 30 (.tmp 6) (.tmp 27) rfl _ rfl (jn i o ts (ps.set q x)) rfl (#[.int .i64 0, .int .i64 0, .float .f32 0, .float .f32 0, .float .f32 0, .float .f32 0, .float .f32 0, .float .f32 0, .float .f32 0, .float .f32 0, .float .f32 0, .float .f32 0, .float .f32 0, .float .f32 0, .float .f32 0, .float .f32 0, .float .f32 0, .float .f32 0, .float .f32 0, .float .f32 0, .float .f32 0, .float .f32 0]) _ (by assumption) 22 (SN) ((by rw [zlit]; exact jn_size (zeros_len 16) (zeros_len 4) _ _)) (by kernel_rfl) (jn_one _ _ _ _) ?_))
      exact bodyPost_ret (v := .tuple #[.agg (jn i o ts (ps.set q x)), .int .i64 0]) (results_at_tmp (p := 6) (ty := 30) rfl _ _ _ (jn i o ts (ps.set q x)) _ (.int .i64 0) rfl rfl R9 _ Try.underlying30 rfl 22 (SN) (by kernel_rfl)) rfl ⟨rfl, B9.out⟩
  · have ev : (vSetPrior i o ts ps k x) = (0, 0, zeros 16, zeros 4, 2) := by unfold vSetPrior; rw [h, decide_eq_false hki]; rfl
    rw [ev]
    have hin : inB 0 (i - 1) k = false := decide_eq_false (by omega)
    clear ev hki hb
    go_enter Try.func23, Try.ntmps23
    go_wp2_with fail
    refine (l03Ok_b _ i o ts ps hi ho hlt hlp hct hcp _ _ A0).mono ?_
    rw [h]
    rintro e w1 ⟨rfl, n1, rfl⟩
    have A1 := A0.drewN n1
    have R1 := R0.drewN n1
    have B1 := Lib.hid (bdrew B0.out n1)
    generalize hw1 : World.drewN _ _ = w1 at A1 R1 B1 ⊢
    clear A0 R0 B0 hw1
    go_wp2_with (((with_reducible refine is_load 2 _ rfl ?_); refine wpList_load_cell rfl 2 _ rfl _ 0 rfl (jn i o ts ps) _ (by assumption) _ Try.underlying2 rfl (.int .i64 i) (jn_ins i o ts ps) ?_))
    refine (l00In_b k 0 (i - 1) _).mono ?_
    rw [hin]
    rintro e w2 ⟨rfl, n2, rfl⟩
    have A2 := A1.drewN n2
    have R2 := R1.drewN n2
    have B2 := Lib.hid (bdrew B1.out n2)
    generalize hw2 : World.drewN _ _ = w2 at A2 R2 B2 ⊢
    clear A1 R1 B1 hw2
    have R9 := R2.setRow (#[.int .i64 0, .int .i64 0, .float .f32 0, .float .f32 0, .float .f32 0, .float .f32 0, .float .f32 0, .float .f32 0, .float .f32 0, .float .f32 0, .float .f32 0, .float .f32 0, .float .f32 0, .float .f32 0, .float .f32 0, .float .f32 0, .float .f32 0, .float .f32 0, .float .f32 0, .float .f32 0, .float .f32 0, .float .f32 0])
    have B9 := Lib.hid (bset B2.out (g := w.heap.size + 1) (by omega) (#[.int .i64 0, .int .i64 0, .float .f32 0, .float .f32 0, .float .f32 0, .float .f32 0, .float .f32 0, .float .f32 0, .float .f32 0, .float .f32 0, .float .f32 0, .float .f32 0, .float .f32 0, .float .f32 0, .float .f32 0, .float .f32 0, .float .f32 0, .float .f32 0, .float .f32 0, .float .f32 0, .float .f32 0, .float .f32 0]))
    go_wp2_with (((with_reducible refine is_store 30 (.tmp 6) (.tmp 22) rfl ?_); refine wpList_store_at rfl 30 (.tmp 6) (.tmp 22) rfl _ rfl (#[.int .i64 0, .int .i64 0, .float .f32 0, .float .f32 0, .float .f32 0, .float .f32 0, .float .f32 0, .float .f32 0, .float .f32 0, .float .f32 0, .float .f32 0, .float .f32 0, .float .f32 0, .float .f32 0, .float .f32 0, .float .f32 0, .float .f32 0, .float .f32 0, .float .f32 0, .float .f32 0, .float .f32 0, .float .f32 0]) rfl (#[.int .i64 0, .int .i64 0, .float .f32 0, .float .f32 0, .float .f32 0, .float .f32 0, .float .f32 0, .float .f32 0, .float .f32 0, .float .f32 0, .float .f32 0, .float .f32 0, .float .f32 0, .float .f32 0, .float .f32 0, .float .f32 0, .float .f32 0, .float .f32 0, .float .f32 0, .float .f32 0, .float .f32 0, .float .f32 0]) _ (by assumption) 22 ((by rw [zlit]; exact jn_size (zeros_len 16) (zeros_len 4) _ _)) ((by rw [zlit]; exact jn_size (zeros_len 16) (zeros_len 4) _ _)) (by kernel_rfl) ((by rw [zlit]; exact jn_one _ _ _ _)) ?_))
    rw [← zlit]
    exact bodyPost_ret (v := .tuple #[.agg (#[.int .i64 0, .int .i64 0, .float .f32 0, .float .f32 0, .float .f32 0, .float .f32 0, .float .f32 0, .float .f32 0, .float .f32 0, .float .f32 0, .float .f32 0, .float .f32 0, .float .f32 0, .float .f32 0, .float .f32 0, .float .f32 0, .float .f32 0, .float .f32 0, .float .f32 0, .float .f32 0, .float .f32 0, .float .f32 0]), .int .i64 2]) (results_at_tmp (p := 6) (ty := 30) rfl _ _ _ (#[.int .i64 0, .int .i64 0, .float .f32 0, .float .f32 0, .float .f32 0, .float .f32 0, .float .f32 0, .float .f32 0, .float .f32 0, .float .f32 0, .float .f32 0, .float .f32 0, .float .f32 0, .float .f32 0, .float .f32 0, .float .f32 0, .float .f32 0, .float .f32 0, .float .f32 0, .float .f32 0, .float .f32 0, .float .f32 0]) _ (.int .i64 2) rfl rfl R9 _ Try.underlying30 rfl 22 ((by rw [zlit]; exact jn_size (zeros_len 16) (zeros_len 4) _ _)) (by kernel_rfl)) rfl ⟨rfl, B9.out⟩

end Go.Proofs.Ytafgcjjgnjialaa
