/-
  SEVERAL TEXTS IN ONE.
-/
import Derived.Test.YtboahhipobcabaaValidL
import Derived.Test.YtboahhipobcabaaTn
import Derived.Test.YtboahhipobcabaaG14
import Derived.Test.YtboahhipobcabaaG4
import Derived.Test.YtboahhipobcabaaG2

/-
  CONTRACTS: ValidJunction, the program's.
-/
namespace Go.Proofs.Ytboahhipobcabaa
open Go Go.RowKit
set_option maxRecDepth 100000

/-- a row out of rows -/
theorem run_index_row (w : World) {ts : List Nat} (hl : ts.length = 16) {k : Nat} (hk : k < 4) :
    (Instr.index 69 (.agg (fl ts)) (.int .i64 k)).run Try.prog w = .ok (.agg (fl (row4 ts k))) w := by
  have hu := Try.underlying69
  have hue := Try.underlying67
  have hagg : (isAgg 67).run Try.prog w = .ok true w := by
    unfold isAgg
    rw [Sem.run_bind, run_underlying hue w]
    rfl
  have hk' : ((k : Int)).toNat = k := Int.toNat_natCast k
  have hs : (Try.prog.info? 67).map (·.size) = some 4 := by kernel_rfl
  cases hq : Try.prog.info? 67 with
  | none => rw [hq] at hs; cases hs
  | some d =>
    have hs' : d.size = 4 := by simpa [hq] using hs
    simp [Instr.index, asIntOf, run_underlying hu, hk, sizeOf, typeInfo, hq, hs', part, hagg, fl_row hl hk (show k * 4 = 4 * k from Nat.mul_comm _ _)]

set_option maxHeartbeats 1000000 in
theorem ValidJunction_b (i o : Int) (ts ps : List Nat) (hi : -9223372036854775808 ≤ i ∧ i ≤ 9223372036854775807) (ho : -9223372036854775808 ≤ o ∧ o ≤ 9223372036854775807) (hlt : ts.length = 16) (hlp : ps.length = 4) (hct : ∀ x ∈ ts, x < 4294967296) (hcp : ∀ x ∈ ps, x < 4294967296) (w : World) :
    Calls Try.prog 139 #[.agg (jn i o ts ps)] w fun e w' => e = .returned (.bool (okJ i o ts ps)) ∧ Below w.heap.size w w' := by
  have A0 := At.new w (jn i o ts ps) 72
  have B0 := Lib.hid (b0 w (.cells (jn i o ts ps) 72))
  have SZ := jn_size hlt hlp i o
  clear hi ho
  cases h1 : inB 1 4 i
  · have hr : okJ i o ts ps = false := by unfold okJ; rw [h1]; rfl
    go_enter Try.func139, Try.ntmps139
    go_wp2_with (((with_reducible refine is_load 2 _ rfl ?_); refine wpList_load_cell rfl 2 _ rfl _ 0 rfl (jn i o ts ps) _ (by assumption) _ Try.underlying2 rfl (.int .i64 i) (jn_ins i o ts ps) ?_))
    refine (isArmCount_b i _).mono ?_
    rw [h1]
    rintro e w1 ⟨rfl, n1, rfl⟩
    go_wp2_with fail
    go_ret
    exact ⟨by rw [hr]; rfl, bdrew B0.out _⟩
  cases h2 : inB 1 4 o
  · have hr : okJ i o ts ps = false := by unfold okJ; rw [h2, Bool.and_false]; rfl
    go_enter Try.func139, Try.ntmps139
    go_wp2_with (((with_reducible refine is_load 2 _ rfl ?_); refine wpList_load_cell rfl 2 _ rfl _ 0 rfl (jn i o ts ps) _ (by assumption) _ Try.underlying2 rfl (.int .i64 i) (jn_ins i o ts ps) ?_))
    refine (isArmCount_b i _).mono ?_
    rw [h1]
    rintro e w1 ⟨rfl, n1, rfl⟩
    have A1 := A0.drewN n1
    go_wp2_with (((with_reducible refine is_load 2 _ rfl ?_); refine wpList_load_cell_g rfl 2 _ rfl _ 1 rfl (jn i o ts ps) _ (by assumption) _ Try.underlying2 rfl (.int .i64 o) (jn_outs i o ts ps) ?_))
    refine (isArmCount_b o _).mono ?_
    rw [h2]
    rintro e w2 ⟨rfl, n2, rfl⟩
    go_wp2_with fail
    go_ret
    exact ⟨by rw [hr]; rfl, bdrew B0.out _⟩
  go_enter Try.func139, Try.ntmps139
  go_wp2_with (((with_reducible refine is_load 2 _ rfl ?_); refine wpList_load_cell rfl 2 _ rfl _ 0 rfl (jn i o ts ps) _ (by assumption) _ Try.underlying2 rfl (.int .i64 i) (jn_ins i o ts ps) ?_))
  refine (isArmCount_b i _).mono ?_
  rw [h1]
  rintro e w1 ⟨rfl, n1, rfl⟩
  have A1 := A0.drewN n1
  go_wp2_with (((with_reducible refine is_load 2 _ rfl ?_); refine wpList_load_cell_g rfl 2 _ rfl _ 1 rfl (jn i o ts ps) _ (by assumption) _ Try.underlying2 rfl (.int .i64 o) (jn_outs i o ts ps) ?_))
  refine (isArmCount_b o _).mono ?_
  rw [h2]
  rintro e w2 ⟨rfl, n2, rfl⟩
  have A2 := A1.drewN n2
  have B2 := Lib.hid (bdrew (bdrew B0.out n1) n2)
  generalize hw2 : World.drewN _ _ = w2 at A2 B2 ⊢
  clear A0 B0 A1 hw2
  go_wp2_with (first | ((with_reducible refine is_load 2 _ rfl ?_); refine wpList_load_cell_g rfl 2 _ rfl _ 0 rfl (jn i o ts ps) _ (by assumption) _ Try.underlying2 rfl (.int .i64 i) (jn_ins i o ts ps) ?_) | ((with_reducible refine is_load 70 _ rfl ?_); refine wpList_load_part_g rfl 70 _ rfl _ 18 rfl (jn i o ts ps) _ (by assumption) 4 (by rw [SZ]; omega) _ Try.underlying70 rfl (by kernel_rfl) (fl ps) (jn_priors hlt hlp i o) ?_))
  refine (areAmountsOf_b i ps hlp hcp _).mono ?_
  cases h3 : amtTo i ps 4
  · have hr : okJ i o ts ps = false := by unfold okJ; rw [h3, Bool.and_false]; rfl
    rintro e w3 ⟨rfl, hb3⟩
    go_wp2_with fail
    go_ret
    exact ⟨by rw [hr]; rfl, bthen B2.out hb3⟩
  have hok : Hid (okJ i o ts ps = rowsTo i o ts ps 4) := Lib.hid (by unfold okJ; rw [h1, h2, h3]; rfl)
  rintro e w3 ⟨rfl, hb3⟩
  have A3 := A2.step hb3
  have B3 := Lib.hid (bthen B2.out hb3)
  clear A2 B2 hb3 h1 h2 h3
  go_wp2_with (((with_reducible refine is_load 69 _ rfl ?_); refine wpList_load_part rfl 69 _ rfl _ 2 rfl (jn i o ts ps) _ (by assumption) 16 (by rw [SZ]; omega) _ Try.underlying69 rfl (by kernel_rfl) (fl ts) (jn_turns hlt hlp i o) ?_))
  go_loopw [25] (fun i' wr => ∃ k : Nat, k ≤ 4 ∧ i' = .int .i64 k ∧ Hid (rowsTo i o ts ps k = true) ∧ At wr w.heap.size (jn i o ts ps) 72 ∧ Hid (Below w.heap.size w wr)) (fun i' _ => 4 - (intOf i').toNat)
  case atStart => exact ⟨0, by omega, rfl, Lib.hid rfl, A3, B3⟩
  case round =>
    clear A3 B3
    obtain ⟨k, hk, rfl, hall, A4, B4⟩ := hrel
    by_cases hlk : k < 4
    · have hix := fun W => run_index_row W hlt hlk
      have rl := row4_len hlt hlk
      have hcr : ∀ x ∈ row4 ts k, x < 4294967296 := fun x hx => hct x (row4_mem k hx)
      have hpk := u32_lt hcp k
      have s2 : IntKind.i64.wrap ((k : Int) + 1) = (k : Int) + 1 := IntWalk.i64_in _ (by omega)
      have N5 := (At.new wr (#[.float .f32 0, .float .f32 0, .float .f32 0, .float .f32 0]) 67).setRow (fl (row4 ts k))
      have N4 := At.new wr (#[.float .f32 0, .float .f32 0, .float .f32 0, .float .f32 0]) 67
      have A5 := (A4.alloc (.cells (#[.float .f32 0, .float .f32 0, .float .f32 0, .float .f32 0]) 67)).setRow_other (k := wr.heap.size) (Nat.ne_of_lt A4.lt) (fl (row4 ts k))
      have B5 := Lib.hid (bset (bnew B4.out (.cells (#[.float .f32 0, .float .f32 0, .float .f32 0, .float .f32 0]) 67)) (g := wr.heap.size) B4.out.size (fl (row4 ts k)))
      go_wp2_with (first | ((with_reducible refine is_store 67 (.tmp 4) (.tmp 28) rfl ?_); refine wpList_store_at rfl 67 (.tmp 4) (.tmp 28) rfl _ rfl (fl (row4 ts k)) rfl (#[.float .f32 0, .float .f32 0, .float .f32 0, .float .f32 0]) _ (by assumption) 4 (by rw [fl_size, rl]) (rfl) (by kernel_rfl) (fl_one _) ?_) | ((with_reducible refine is_load 2 _ rfl ?_); refine wpList_load_cell rfl 2 _ rfl _ 0 rfl (jn i o ts ps) _ (by assumption) _ Try.underlying2 rfl (.int .i64 i) (jn_ins i o ts ps) ?_))
      refine (isArm_b k i _).mono ?_
      by_cases hki : (k : Int) < i
      · rw [decide_eq_true (⟨by omega, hki⟩ : 0 ≤ (k : Int) ∧ (k : Int) < i)]
        rintro e w5 ⟨rfl, n5, rfl⟩
        have N6 := N5.drewN n5
        have A6 := A5.drewN n5
        have B6 := Lib.hid (bdrew B5.out n5)
        generalize hw6 : World.drewN _ _ = w6 at A6 B6 N6 ⊢
        clear N4 N5 A5 B5 A4 B4 hw6
        have hrow : Hid (rowOk i o ts ps k = (turnsB o (row4 ts k) && priB (nth ps k))) := Lib.hid (by unfold rowOk; rw [if_pos hki])
        clear hki
        go_wp2_with (first | ((with_reducible refine is_load 67 _ rfl ?_); refine wpList_load_at rfl 67 _ rfl _ rfl (fl (row4 ts k)) _ (by assumption) 4 (by rw [fl_size, rl]) _ Try.underlying67 rfl (by kernel_rfl) ?_) | ((with_reducible refine is_load 2 _ rfl ?_); refine wpList_load_cell rfl 2 _ rfl _ 1 rfl (jn i o ts ps) _ (by assumption) _ Try.underlying2 rfl (.int .i64 o) (jn_outs i o ts ps) ?_))
        refine (isTurns_b (row4 ts k) rl hcr o _).mono ?_
        cases ht : turnsB o (row4 ts k)
        · have hr : okJ i o ts ps = false := okJ_row hlk (by rw [hrow.out, ht]; rfl)
          rintro e w7 ⟨rfl, hb7⟩
          go_wp2_with fail
          go_ret
          exact ⟨by rw [hr]; rfl, bthen B6.out hb7⟩
        rintro e w7 ⟨rfl, hb7⟩
        have A7 := A6.step hb7
        have B7 := Lib.hid (bthen B6.out hb7)
        clear A6 B6 N6 hb7
        go_wp2_with (((with_reducible refine is_load 26 _ rfl ?_); refine wpList_load_cell_g rfl 26 _ rfl _ _ rfl (jn i o ts ps) _ (by assumption) _ Try.underlying26 rfl (.float .f32 (nth ps k)) (jn_prior hlt hlp i o hlk (by omega)) ?_))
        refine (isPrior_b (nth ps k) hpk _).mono ?_
        cases hp : priB (nth ps k)
        · have hr : okJ i o ts ps = false := okJ_row hlk (by rw [hrow.out, hp, Bool.and_false])
          rintro e w8 ⟨rfl, n8, rfl⟩
          go_wp2_with fail
          go_ret
          exact ⟨by rw [hr]; rfl, bdrew B7.out _⟩
        rintro e w8 ⟨rfl, n8, rfl⟩
        go_wp2_with fail
        exact ⟨⟨k + 1, by omega, by go_num, Lib.hid (by rw [rowsTo_succ, hall.out, hrow.out, ht, hp]; rfl), A7.drewN _, Lib.hid (bdrew B7.out _)⟩, by simp [intOf]; omega⟩
      · rw [decide_eq_false (by omega : ¬ (0 ≤ (k : Int) ∧ (k : Int) < i))]
        rintro e w5 ⟨rfl, n5, rfl⟩
        have N6 := N5.drewN n5
        have A6 := A5.drewN n5
        have B6 := Lib.hid (bdrew B5.out n5)
        generalize hw6 : World.drewN _ _ = w6 at A6 B6 N6 ⊢
        clear N4 N5 A5 B5 A4 B4 hw6
        have hrow : Hid (rowOk i o ts ps k = amtTo 0 (row4 ts k) 4) := Lib.hid (by unfold rowOk; rw [if_neg hki])
        clear hki
        go_wp2_with (((with_reducible refine is_load 67 _ rfl ?_); refine wpList_load_at rfl 67 _ rfl _ rfl (fl (row4 ts k)) _ (by assumption) 4 (by rw [fl_size, rl]) _ Try.underlying67 rfl (by kernel_rfl) ?_))
        refine (areAmountsOf_b 0 (row4 ts k) rl hcr _).mono ?_
        cases ht : amtTo 0 (row4 ts k) 4
        · have hr : okJ i o ts ps = false := okJ_row hlk (by rw [hrow.out, ht])
          rintro e w7 ⟨rfl, hb7⟩
          go_wp2_with fail
          go_ret
          exact ⟨by rw [hr]; rfl, bthen B6.out hb7⟩
        rintro e w7 ⟨rfl, hb7⟩
        have A7 := A6.step hb7
        go_wp2_with fail
        exact ⟨⟨k + 1, by omega, by go_num, Lib.hid (by rw [rowsTo_succ, hall.out, hrow.out, ht]; rfl), A7, Lib.hid (bthen B6.out hb7)⟩, by simp [intOf]; omega⟩
    · obtain rfl : k = 4 := by omega
      go_wp2
      go_ret
      exact ⟨by rw [hok.out, hall.out]; rfl, B4.out⟩

end Go.Proofs.Ytboahhipobcabaa

/-
  CONTRACTS: valid towns, the program: roads, plans.
-/
namespace Go.Proofs.Ytboahhipobcabaa
open Go Go.ChangeShapes Go.WideShapes Go.ChangeAt Go.RowKit
set_option maxRecDepth 100000

/-- all up to a number -/
def allN (f : Nat → Bool) : Nat → Bool
  | 0 => true
  | k + 1 => allN f k && f k

theorem allN_at {f : Nat → Bool} {n k : Nat} (hk : k < n) (h : f k = false) : allN f n = false := by
  induction n with
  | zero => omega
  | succ n ih =>
    show (_ && _) = _
    by_cases c : k = n
    · subst c; rw [h, Bool.and_false]
    · rw [ih (by omega)]; rfl

theorem allN_next {f : Nat → Bool} {k : Nat} (h : allN f k = true) (h2 : f k = true) : allN f (k + 1) = true := by show (_ && _) = _; rw [h, h2]; rfl

theorem allN_iff {f : Nat → Bool} : ∀ {n : Nat}, allN f n = true ↔ ∀ k, k < n → f k = true
  | 0 => ⟨fun _ k h => by omega, fun _ => rfl⟩
  | n + 1 => by
    show (_ && _) = _ ↔ _
    rw [Bool.and_eq_true, allN_iff (n := n)]
    exact ⟨fun h k hk => by
      by_cases c : k = n
      · subst c; exact h.2
      · exact h.1 k (by omega), fun h => ⟨fun k hk => h k (by omega), h n (by omega)⟩⟩

def okR (r : Rd4) : Bool := okB r.cs r.p r.b r.l
def okJt (j : Jt) : Bool := okJ j.i j.o j.ts j.ps

def okPk (ps : Ps) (k : Nat) : Bool := okP (pS ps k) (pB ps k) (pO ps k)

/-- a road's number -/
def ixB (n : Nat) (i : Int) : Bool := decide (0 ≤ i ∧ i < (n : Int))

theorem isIndex_b (i : Int) (n : Nat) (hn : n ≤ 1048576) (w : World) : Calls Try.prog 122 #[.int .i64 i, .int .i64 (n : Int)] w (Rd (.bool (ixB n i)) w) := by
  have s1 : IntKind.i64.wrap (n : Int) = (n : Int) := IntWalk.i64_in _ (by omega)
  by_cases h1 : 0 ≤ i
  · by_cases h2 : i < (n : Int)
    · rw [show ixB n i = true from decide_eq_true ⟨h1, h2⟩]
      go_enter Try.func122, Try.ntmps122
      go_wp2
      go_ret
      exact ⟨rfl, 0, rfl⟩
    · rw [show ixB n i = false from decide_eq_false (fun c => h2 c.2)]
      go_enter Try.func122, Try.ntmps122
      go_wp2
      go_ret
      exact ⟨rfl, 0, rfl⟩
  · rw [show ixB n i = false from decide_eq_false (fun c => h1 c.1)]
    go_enter Try.func122, Try.ntmps122
    go_wp2
    go_ret
    exact ⟨rfl, 0, rfl⟩

end Go.Proofs.Ytboahhipobcabaa

/-
  CONTRACTS: MakeRoad.
-/
namespace Go.Proofs.Ytboahhipobcabaa
open Go Go.RowKit

theorem zeros_lt : ∀ x ∈ zeros 16, x < 4294967296 := fun x hx => by obtain rfl := List.eq_of_mem_replicate hx; decide

theorem At.new1 (w : World) (A : Obj) (c : Array Value) (T : TypeId) : At ((w.alloc A).alloc (.cells c T)) (w.heap.size + 1) c T := by
  have := At.new (w.alloc A) c T
  rwa [World.size_alloc] at this

theorem MakeRoad_yes (p b l : Nat) (hp : p < 4294967296) (hb : b < 4294967296) (hla : l < 4294967296) (h : okB (zeros 16) p b l = true) (w : World) :
    Calls Try.prog 43 #[.float .f32 p, .float .f32 b, .float .f32 l] w fun e w' => e = .returned (.tuple #[.agg (rd (zeros 16) p b l), .int .i64 0]) ∧ Below w.heap.size w w' := by
  have R1 : At ((w.alloc (.cells (rd (zeros 16) 0 0 0) 62)).alloc (.cells (rd (zeros 16) 0 0 0) 62)) w.heap.size (rd (zeros 16) 0 0 0) 62 := (At.new w _ _).alloc _
  have A1 : At ((w.alloc (.cells (rd (zeros 16) 0 0 0) 62)).alloc (.cells (rd (zeros 16) 0 0 0) 62)) (w.heap.size + 1) (rd (zeros 16) 0 0 0) 62 := At.new1 w _ _ _
  have B1 := bnew (b0 w (.cells (rd (zeros 16) 0 0 0) 62)) (.cells (rd (zeros 16) 0 0 0) 62)
  have A2 := A1.setRow (rd (zeros 16) p b l)
  have R2 := R1.setRow_other (k := w.heap.size + 1) (by omega) (rd (zeros 16) p b l)
  have B2 := Lib.hid (bset B1 (g := w.heap.size + 1) (by omega) (rd (zeros 16) p b l))
  clear B1 R1
  go_enter Try.func43, Try.ntmps43
  go_wp2_with (first | ((with_reducible refine is_store 62 (.tmp 8) (.tmp 12) rfl ?_); refine wpList_store_at rfl 62 (.tmp 8) (.tmp 12) rfl _ rfl (rd (zeros 16) p b l) rfl (rd (zeros 16) 0 0 0) _ (by assumption) 19 (by first | exact rd_size (zeros_len 16) _ _ _ | (refine rd_size ?_ _ _ _; assumption)) (by first | exact rd_size (zeros_len 16) _ _ _ | (refine rd_size ?_ _ _ _; assumption)) (by kernel_rfl) (fl_one _) ?_) | ((with_reducible refine is_load 62 _ rfl ?_); refine wpList_load_at rfl 62 _ rfl _ rfl (rd (zeros 16) p b l) _ (by assumption) 19 (rd_size (zeros_len 16) _ _ _) _ Try.underlying62 rfl (by kernel_rfl) ?_))
  refine (ValidRoad_any (zeros 16) p b l (zeros_len 16) zeros_lt hp hb hla _).mono ?_
  rintro e w3 ⟨rfl, hb3⟩
  have A3 := A2.step hb3
  have R3 := R2.step hb3
  have B3 := Lib.hid (bthen B2.out hb3)
  clear A1 A2 R2 B2 hb3
  have R4 := R3.setRow (rd (zeros 16) p b l)
  have B4 := Lib.hid (bset B3.out (g := w.heap.size) (Nat.le_refl _) (rd (zeros 16) p b l))
  go_wp2_with (first | ((with_reducible refine is_load 62 _ rfl ?_); refine wpList_load_at rfl 62 _ rfl _ rfl (rd (zeros 16) p b l) _ (by assumption) 19 (rd_size (zeros_len 16) _ _ _) _ Try.underlying62 rfl (by kernel_rfl) ?_) | ((with_reducible refine is_store 62 (.tmp 6) (.tmp 17) rfl ?_); refine wpList_store_at rfl 62 (.tmp 6) (.tmp 17) rfl _ rfl (rd (zeros 16) p b l) rfl (rd (zeros 16) 0 0 0) _ (by assumption) 19 (by first | exact rd_size (zeros_len 16) _ _ _ | (refine rd_size ?_ _ _ _; assumption)) (by first | exact rd_size (zeros_len 16) _ _ _ | (refine rd_size ?_ _ _ _; assumption)) (by kernel_rfl) (fl_one _) ?_))
  exact bodyPost_ret (v := .tuple #[.agg (rd (zeros 16) p b l), .int .i64 0]) (results_at_tmp (p := 6) (ty := 62) rfl _ _ _ (rd (zeros 16) p b l) _ (.int .i64 0) rfl rfl R4 _ Try.underlying62 rfl 19 (rd_size (zeros_len 16) _ _ _) (by kernel_rfl)) rfl ⟨rfl, B4.out⟩

theorem MakeRoad_no (p b l : Nat) (hp : p < 4294967296) (hb : b < 4294967296) (hla : l < 4294967296) (h : okB (zeros 16) p b l = false) (w : World) :
    Calls Try.prog 43 #[.float .f32 p, .float .f32 b, .float .f32 l] w fun e w' => e = .returned (.tuple #[.agg (rd (zeros 16) 0 0 0), .int .i64 1]) ∧ Below w.heap.size w w' := by
  have R1 : At ((w.alloc (.cells (rd (zeros 16) 0 0 0) 62)).alloc (.cells (rd (zeros 16) 0 0 0) 62)) w.heap.size (rd (zeros 16) 0 0 0) 62 := (At.new w _ _).alloc _
  have A1 : At ((w.alloc (.cells (rd (zeros 16) 0 0 0) 62)).alloc (.cells (rd (zeros 16) 0 0 0) 62)) (w.heap.size + 1) (rd (zeros 16) 0 0 0) 62 := At.new1 w _ _ _
  have B1 := bnew (b0 w (.cells (rd (zeros 16) 0 0 0) 62)) (.cells (rd (zeros 16) 0 0 0) 62)
  have A2 := A1.setRow (rd (zeros 16) p b l)
  have R2 := R1.setRow_other (k := w.heap.size + 1) (by omega) (rd (zeros 16) p b l)
  have B2 := Lib.hid (bset B1 (g := w.heap.size + 1) (by omega) (rd (zeros 16) p b l))
  clear B1 R1
  go_enter Try.func43, Try.ntmps43
  go_wp2_with (first | ((with_reducible refine is_store 62 (.tmp 8) (.tmp 12) rfl ?_); refine wpList_store_at rfl 62 (.tmp 8) (.tmp 12) rfl _ rfl (rd (zeros 16) p b l) rfl (rd (zeros 16) 0 0 0) _ (by assumption) 19 (by first | exact rd_size (zeros_len 16) _ _ _ | (refine rd_size ?_ _ _ _; assumption)) (by first | exact rd_size (zeros_len 16) _ _ _ | (refine rd_size ?_ _ _ _; assumption)) (by kernel_rfl) (fl_one _) ?_) | ((with_reducible refine is_load 62 _ rfl ?_); refine wpList_load_at rfl 62 _ rfl _ rfl (rd (zeros 16) p b l) _ (by assumption) 19 (rd_size (zeros_len 16) _ _ _) _ Try.underlying62 rfl (by kernel_rfl) ?_))
  refine (ValidRoad_any (zeros 16) p b l (zeros_len 16) zeros_lt hp hb hla _).mono ?_
  rintro e w3 ⟨rfl, hb3⟩
  have R3 := R2.step hb3
  have B3 := Lib.hid (bthen B2.out hb3)
  clear A1 A2 R2 B2 hb3
  have R4 := R3.setRow (rd (zeros 16) 0 0 0)
  have B4 := Lib.hid (bset B3.out (g := w.heap.size) (Nat.le_refl _) (rd (zeros 16) 0 0 0))
  go_wp2_with (((with_reducible refine is_store 62 (.tmp 6) (.tmp 16) rfl ?_); refine wpList_store_at rfl 62 (.tmp 6) (.tmp 16) rfl _ rfl (rd (zeros 16) 0 0 0) rfl (rd (zeros 16) 0 0 0) _ (by assumption) 19 (by first | exact rd_size (zeros_len 16) _ _ _ | (refine rd_size ?_ _ _ _; assumption)) (by first | exact rd_size (zeros_len 16) _ _ _ | (refine rd_size ?_ _ _ _; assumption)) (by kernel_rfl) (fl_one _) ?_))
  exact bodyPost_ret (v := .tuple #[.agg (rd (zeros 16) 0 0 0), .int .i64 1]) (results_at_tmp (p := 6) (ty := 62) rfl _ _ _ (rd (zeros 16) 0 0 0) _ (.int .i64 1) rfl rfl R4 _ Try.underlying62 rfl 19 (rd_size (zeros_len 16) _ _ _) (by kernel_rfl)) rfl ⟨rfl, B4.out⟩

def vMakeRoad (p b l : Nat) : Nat × Nat × Nat × Int := if okB (zeros 16) p b l then (p, b, l, 0) else (0, 0, 0, 1)

theorem vMakeRoad_yes {p b l : Nat} (h : okB (zeros 16) p b l = true) : vMakeRoad p b l = (p, b, l, 0) := by unfold vMakeRoad; rw [if_pos h]

theorem vMakeRoad_no {p b l : Nat} (h : okB (zeros 16) p b l = false) : vMakeRoad p b l = (0, 0, 0, 1) := by unfold vMakeRoad; rw [h]; rfl

theorem vMakeRoad_good (p b l : Nat) : goodL (zeros 16) (vMakeRoad p b l).1 (vMakeRoad p b l).2.1 (vMakeRoad p b l).2.2.1 := by
  cases h : okB (zeros 16) p b l
  · rw [vMakeRoad_no h]; exact zero_good
  · rw [vMakeRoad_yes h]; exact okB_good (zeros_len 16) h

theorem MakeRoad_any (p b l : Nat) (hp : p < 4294967296) (hb : b < 4294967296) (hla : l < 4294967296) (w : World) :
    Calls Try.prog 43 #[.float .f32 p, .float .f32 b, .float .f32 l] w fun e w' => e = .returned (.tuple #[.agg (rd (zeros 16) (vMakeRoad p b l).1 (vMakeRoad p b l).2.1 (vMakeRoad p b l).2.2.1), .int .i64 (vMakeRoad p b l).2.2.2]) ∧ Below w.heap.size w w' := by
  cases h : okB (zeros 16) p b l
  · rw [vMakeRoad_no h]; exact MakeRoad_no p b l hp hb hla h w
  · rw [vMakeRoad_yes h]; exact MakeRoad_yes p b l hp hb hla h w

end Go.Proofs.Ytboahhipobcabaa
