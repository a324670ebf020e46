/-
  CONTRACTS: numbers' bits; what two junctions that are the same are.
-/
import Derived.Test.YtboahhipobcabaaG15
import Derived.Test.YtboahhipobcabaaG17
namespace Go.Proofs.Ytboahhipobcabaa
open Go Go.RowKit
set_option maxRecDepth 100000

theorem nth_mapB {cs : List Nat} (f : Nat → Nat) {k : Nat} (h : k < cs.length) : nth (cs.map f) k = f (nth cs k) := by
  simp [nth, List.getD, List.getElem?_map, List.getElem?_eq_getElem h]
theorem ub_zero4 : (#[.int .u32 0, .int .u32 0, .int .u32 0, .int .u32 0] : Array Value) = ub (zeros 4) := rfl
theorem ub_zero16 : (#[.int .u32 0, .int .u32 0, .int .u32 0, .int .u32 0, .int .u32 0, .int .u32 0, .int .u32 0, .int .u32 0, .int .u32 0, .int .u32 0, .int .u32 0, .int .u32 0, .int .u32 0, .int .u32 0, .int .u32 0, .int .u32 0] : Array Value) = ub (zeros 16) := rfl
theorem splice_ub (xs ys : List Nat) (off : Nat) : splice (ub xs) off (ub ys) = ub (xs.take off ++ ys ++ xs.drop (off + ys.length)) := by
  simp [splice, ub, List.map_take, List.map_drop]
theorem cpR_list {ts : List Nat} (h : ts.length = 16) {k : Nat} (hk : k < 4) : (cpR ts k).take (4 * k) ++ row4 ts k ++ (cpR ts k).drop (4 * k + 4) = cpR ts (k + 1) := by
  have := cpR_splice h hk rfl
  rw [splice_fl, row4_len h hk] at this
  exact fl_inj this
theorem cpR_splice_ub {ts : List Nat} (h : ts.length = 16) {k off : Nat} (hk : k < 4) (ho : off = 4 * k) : splice (ub (cpR ts k)) off (ub (row4 ts k)) = ub (cpR ts (k + 1)) := by
  subst ho
  rw [splice_ub, row4_len h hk, cpR_list h hk]
theorem row4_map (ts : List Nat) (f : Nat → Nat) (k : Nat) : row4 (ts.map f) k = (row4 ts k).map f := by simp [row4, List.map_take, List.map_drop]
theorem run_eql_i64 {P : Program} (w : World) (t : TypeId) (a b : Int) : (binOp .eql t (.int .i64 a) (.int .i64 b)).run P w = .ok (.bool (a == b)) w := by
  simp [binOp, Op.intCmp]
theorem q_oneB {P : Program} {W : World} {o : Oper} {a : Act} {K : Act → Prop} {g : Nat} {c : Array Value} {T : TypeId} (ty : TypeId) (x : Operand) (ho : o.op = .load ty x) (d : TypeDesc) (hu : P.underlying ty = some d) (hd : (match d with | .struct _ | .array _ _ => true | _ => false) = false) (k : Nat) (hx : a.eval x = .pointer (some ⟨g, k, none⟩)) (hA : At W g c T) (v : Value) (hk : c[k]? = some v) (hK : K (a.put o.dst v)) : o.quiet P a (Cb W) K :=
  q_load ty x ho _ hx v (fun w hw => run_load_one w ty d hu hd _ v (At.cell (At.step hA hw) hk)) hK
/-- two junctions are the same -/
def sameJ (i o : Int) (ts ps : List Nat) (i' o' : Int) (ts' ps' : List Nat) : Bool := (i == i') && (o == o') && decide (ts.map nbits = ts'.map nbits) && decide (ps.map nbits = ps'.map nbits)

set_option maxHeartbeats 400000 in
theorem fourBits_any (xs : List Nat) (hl : xs.length = 4) (hc : ∀ x ∈ xs, x < 4294967296) (w : World) :
    Calls Try.prog 109 #[.agg (fl xs)] w fun e w' => e = .returned (.agg (ub (xs.map nbits))) ∧ Below w.heap.size w w' := by
  have hm : Hid ((xs.map nbits).length = 4) := Lib.hid (by simp [hl])
  have A0 : At (((w.alloc (.cells (fl xs) 70)).alloc (.cells (#[.int .u32 0, .int .u32 0, .int .u32 0, .int .u32 0]) 171)).alloc (.cells (#[.int .u32 0, .int .u32 0, .int .u32 0, .int .u32 0]) 171)) w.heap.size (fl xs) 70 := ((At.new w _ _).alloc _).alloc _
  have R0 : At (((w.alloc (.cells (fl xs) 70)).alloc (.cells (#[.int .u32 0, .int .u32 0, .int .u32 0, .int .u32 0]) 171)).alloc (.cells (#[.int .u32 0, .int .u32 0, .int .u32 0, .int .u32 0]) 171)) (w.heap.size + 1) (#[.int .u32 0, .int .u32 0, .int .u32 0, .int .u32 0]) 171 := (At.last1 w _ _ _).alloc _
  have P0 : At (((w.alloc (.cells (fl xs) 70)).alloc (.cells (#[.int .u32 0, .int .u32 0, .int .u32 0, .int .u32 0]) 171)).alloc (.cells (#[.int .u32 0, .int .u32 0, .int .u32 0, .int .u32 0]) 171)) (w.heap.size + 1 + 1) (#[.int .u32 0, .int .u32 0, .int .u32 0, .int .u32 0]) 171 := At.last2 w _ _ _ _
  have B0 := Lib.hid (bnew (bnew (b0 w (.cells (fl xs) 70)) (.cells (#[.int .u32 0, .int .u32 0, .int .u32 0, .int .u32 0]) 171)) (.cells (#[.int .u32 0, .int .u32 0, .int .u32 0, .int .u32 0]) 171))
  have SZ : (fl xs).size = 4 := by rw [fl_size, hl]
  have SU : Hid ((ub (xs.map nbits)).size = 4) := Lib.hid (by rw [ub_size, hm.out])
  go_enter Try.func109, Try.ntmps109
  go_wp2_with (((with_reducible refine is_load 70 _ rfl ?_); refine wpList_load_at rfl 70 _ rfl _ rfl (fl xs) _ A0 4 (SZ) _ Try.underlying70 rfl (by kernel_rfl) ?_))
  go_loopw [7] (fun i' wr => ∃ k : Nat, k ≤ 4 ∧ i' = .int .i64 k ∧ At wr (w.heap.size + 1) (#[.int .u32 0, .int .u32 0, .int .u32 0, .int .u32 0]) 171 ∧ At wr (w.heap.size + 1 + 1) (ub (cpN 4 (xs.map nbits) k)) 171 ∧ Hid (Below w.heap.size w wr)) (fun i' _ => 4 - (intOf i').toNat)
  case atStart => exact ⟨0, by omega, rfl, R0, P0, B0⟩
  case round =>
    clear A0 R0 P0 B0
    obtain ⟨k, hk, rfl, R1, P1, B1⟩ := hrel
    by_cases hlt : k < 4
    · have hi : ∀ W, (Instr.index 70 (.agg (fl xs)) (.int .i64 k)).run Try.prog W = .ok (.float .f32 (nth xs k)) W := fun W =>
        run_index_fl W 70 26 4 xs k Try.underlying70 Try.underlying26 (by kernel_rfl) hlt hl.symm
      have hx := u32_lt hc k
      have s2 : IntKind.i64.wrap ((k : Int) + 1) = (k : Int) + 1 := IntWalk.i64_in _ (by omega)
      go_wp2_with fail
      refine (numberBits_any _ hx _).mono ?_
      rintro e w2 ⟨rfl, n2, rfl⟩
      have R2 := R1.drewN n2
      have P2 := P1.drewN n2
      have B2 := Lib.hid (bdrew B1.out n2)
      generalize wr.drewN n2 = w2 at R2 P2 B2 ⊢
      clear R1 P1 B1 hi
      have R3 := R2.setRow_other (k := w.heap.size + 1 + 1) (by omega) (ub (cpN 4 (xs.map nbits) (k + 1)))
      have P3 := P2.setRow (ub (cpN 4 (xs.map nbits) (k + 1)))
      have B3 := Lib.hid (bset B2.out (g := w.heap.size + 1 + 1) (by omega) (ub (cpN 4 (xs.map nbits) (k + 1))))
      have SC : Hid ((ub (cpN 4 (xs.map nbits) k)).size = 4) := Lib.hid (by rw [ub_size, cpN_len hm.out k hk])
      have EQ : Hid ((ub (cpN 4 (xs.map nbits) k)).setIfInBounds k (.int .u32 (nbits (nth xs k) : Nat)) = ub (cpN 4 (xs.map nbits) (k + 1))) := Lib.hid (by rw [ub_set, show nbits (nth xs k) = nth (xs.map nbits) k from (nth_mapB nbits (by omega)).symm, cpN_set hm.out hlt])
      go_wp2_with ((with_reducible refine is_store 130 (.tmp 14) (.tmp 13) rfl ?_); refine wpList_store_cell rfl 130 (.tmp 14) (.tmp 13) rfl _ _ rfl (.int .u32 (nbits (nth xs k) : Nat)) rfl (ub (cpN 4 (xs.map nbits) k)) _ P2 (by rw [SC.out]; omega) (by kernel_rfl) rfl (ub (cpN 4 (xs.map nbits) (k + 1))) EQ.out ?_)
      exact ⟨⟨k + 1, by omega, by go_num, R3, P3, B3⟩, by simp [intOf]; omega⟩
    · obtain rfl : k = 4 := by omega
      rw [cpN_all hm.out] at P1
      have R9 := R1.setRow (ub (xs.map nbits))
      have B9 := Lib.hid (bset B1.out (g := w.heap.size + 1) (by omega) (ub (xs.map nbits)))
      go_wp2_with (first | ((with_reducible refine is_load 171 _ rfl ?_); refine wpList_load_at rfl 171 _ rfl _ rfl (ub (xs.map nbits)) _ P1 4 (SU.out) _ Try.underlying171 rfl (by kernel_rfl) ?_) | ((with_reducible refine is_store 171 (.tmp 2) (.tmp 16) rfl ?_); refine wpList_store_at rfl 171 (.tmp 2) (.tmp 16) rfl _ rfl (ub (xs.map nbits)) rfl (#[.int .u32 0, .int .u32 0, .int .u32 0, .int .u32 0]) _ R1 4 (SU.out) (rfl) (by kernel_rfl) (ub_one _) ?_))
      exact bodyPost_ret (v := .agg (ub (xs.map nbits))) (results_at (p := 2) (ty := 171) rfl _ _ _ (ub (xs.map nbits)) _ rfl R9 _ Try.underlying171 rfl 4 SU.out (by kernel_rfl)) rfl ⟨rfl, B9.out⟩

set_option maxHeartbeats 400000 in
theorem flowBits_any (ts : List Nat) (hlt : ts.length = 16) (hct : ∀ x ∈ ts, x < 4294967296) (w : World) :
    Calls Try.prog 108 #[.agg (fl ts)] w fun e w' => e = .returned (.agg (ub (ts.map nbits))) ∧ Below w.heap.size w w' := by
  have hm : Hid ((ts.map nbits).length = 16) := Lib.hid (by simp [hlt])
  have A0 : At (((w.alloc (.cells (fl ts) 69)).alloc (.cells (#[.int .u32 0, .int .u32 0, .int .u32 0, .int .u32 0, .int .u32 0, .int .u32 0, .int .u32 0, .int .u32 0, .int .u32 0, .int .u32 0, .int .u32 0, .int .u32 0, .int .u32 0, .int .u32 0, .int .u32 0, .int .u32 0]) 172)).alloc (.cells (#[.int .u32 0, .int .u32 0, .int .u32 0, .int .u32 0, .int .u32 0, .int .u32 0, .int .u32 0, .int .u32 0, .int .u32 0, .int .u32 0, .int .u32 0, .int .u32 0, .int .u32 0, .int .u32 0, .int .u32 0, .int .u32 0]) 172)) w.heap.size (fl ts) 69 := ((At.new w _ _).alloc _).alloc _
  have R0 : At (((w.alloc (.cells (fl ts) 69)).alloc (.cells (#[.int .u32 0, .int .u32 0, .int .u32 0, .int .u32 0, .int .u32 0, .int .u32 0, .int .u32 0, .int .u32 0, .int .u32 0, .int .u32 0, .int .u32 0, .int .u32 0, .int .u32 0, .int .u32 0, .int .u32 0, .int .u32 0]) 172)).alloc (.cells (#[.int .u32 0, .int .u32 0, .int .u32 0, .int .u32 0, .int .u32 0, .int .u32 0, .int .u32 0, .int .u32 0, .int .u32 0, .int .u32 0, .int .u32 0, .int .u32 0, .int .u32 0, .int .u32 0, .int .u32 0, .int .u32 0]) 172)) (w.heap.size + 1) (#[.int .u32 0, .int .u32 0, .int .u32 0, .int .u32 0, .int .u32 0, .int .u32 0, .int .u32 0, .int .u32 0, .int .u32 0, .int .u32 0, .int .u32 0, .int .u32 0, .int .u32 0, .int .u32 0, .int .u32 0, .int .u32 0]) 172 := (At.last1 w _ _ _).alloc _
  have P0 : At (((w.alloc (.cells (fl ts) 69)).alloc (.cells (#[.int .u32 0, .int .u32 0, .int .u32 0, .int .u32 0, .int .u32 0, .int .u32 0, .int .u32 0, .int .u32 0, .int .u32 0, .int .u32 0, .int .u32 0, .int .u32 0, .int .u32 0, .int .u32 0, .int .u32 0, .int .u32 0]) 172)).alloc (.cells (#[.int .u32 0, .int .u32 0, .int .u32 0, .int .u32 0, .int .u32 0, .int .u32 0, .int .u32 0, .int .u32 0, .int .u32 0, .int .u32 0, .int .u32 0, .int .u32 0, .int .u32 0, .int .u32 0, .int .u32 0, .int .u32 0]) 172)) (w.heap.size + 1 + 1) (#[.int .u32 0, .int .u32 0, .int .u32 0, .int .u32 0, .int .u32 0, .int .u32 0, .int .u32 0, .int .u32 0, .int .u32 0, .int .u32 0, .int .u32 0, .int .u32 0, .int .u32 0, .int .u32 0, .int .u32 0, .int .u32 0]) 172 := At.last2 w _ _ _ _
  have B0 := Lib.hid (bnew (bnew (b0 w (.cells (fl ts) 69)) (.cells (#[.int .u32 0, .int .u32 0, .int .u32 0, .int .u32 0, .int .u32 0, .int .u32 0, .int .u32 0, .int .u32 0, .int .u32 0, .int .u32 0, .int .u32 0, .int .u32 0, .int .u32 0, .int .u32 0, .int .u32 0, .int .u32 0]) 172)) (.cells (#[.int .u32 0, .int .u32 0, .int .u32 0, .int .u32 0, .int .u32 0, .int .u32 0, .int .u32 0, .int .u32 0, .int .u32 0, .int .u32 0, .int .u32 0, .int .u32 0, .int .u32 0, .int .u32 0, .int .u32 0, .int .u32 0]) 172))
  have SF : (fl ts).size = 16 := by rw [fl_size, hlt]
  have SU : Hid ((ub (ts.map nbits)).size = 16) := Lib.hid (by rw [ub_size, hm.out])
  go_enter Try.func108, Try.ntmps108
  go_wp2_with (((with_reducible refine is_load 69 _ rfl ?_); refine wpList_load_at rfl 69 _ rfl _ rfl (fl ts) _ A0 16 (SF) _ Try.underlying69 rfl (by kernel_rfl) ?_))
  go_loopw [7] (fun i' wr => ∃ k : Nat, k ≤ 4 ∧ i' = .int .i64 k ∧ At wr (w.heap.size + 1) (#[.int .u32 0, .int .u32 0, .int .u32 0, .int .u32 0, .int .u32 0, .int .u32 0, .int .u32 0, .int .u32 0, .int .u32 0, .int .u32 0, .int .u32 0, .int .u32 0, .int .u32 0, .int .u32 0, .int .u32 0, .int .u32 0]) 172 ∧ At wr (w.heap.size + 1 + 1) (ub (cpR (ts.map nbits) k)) 172 ∧ Hid (Below w.heap.size w wr)) (fun i' _ => 4 - (intOf i').toNat)
  case atStart => exact ⟨0, by omega, rfl, R0, by rw [cpR_zero, ← ub_zero16]; exact P0, B0⟩
  case round =>
    clear A0 R0 P0 B0
    obtain ⟨k, hk, rfl, R4, P4, B4⟩ := hrel
    by_cases hlk : k < 4
    · have hix := fun W => run_index_row W hlt hlk
      have rl := row4_len hlt hlk
      have s2 : IntKind.i64.wrap ((k : Int) + 1) = (k : Int) + 1 := IntWalk.i64_in _ (by omega)
      have N4 := At.new wr (#[.float .f32 0, .float .f32 0, .float .f32 0, .float .f32 0]) 67
      have N5 := N4.setRow (fl (row4 ts k))
      have R5 := (R4.alloc (.cells (#[.float .f32 0, .float .f32 0, .float .f32 0, .float .f32 0]) 67)).setRow_other (k := wr.heap.size) (Nat.ne_of_lt R4.lt) (fl (row4 ts k))
      have P5 := (P4.alloc (.cells (#[.float .f32 0, .float .f32 0, .float .f32 0, .float .f32 0]) 67)).setRow_other (k := wr.heap.size) (Nat.ne_of_lt P4.lt) (fl (row4 ts k))
      have B5 := Lib.hid (bset (bnew B4.out (.cells (#[.float .f32 0, .float .f32 0, .float .f32 0, .float .f32 0]) 67)) (g := wr.heap.size) B4.out.size (fl (row4 ts k)))
      go_wp2_with (first | ((with_reducible refine is_store 67 (.tmp 5) (.tmp 10) rfl ?_); refine wpList_store_at rfl 67 (.tmp 5) (.tmp 10) rfl _ rfl (fl (row4 ts k)) rfl (#[.float .f32 0, .float .f32 0, .float .f32 0, .float .f32 0]) _ N4 4 (by rw [fl_size, rl]) (rfl) (by kernel_rfl) (fl_one _) ?_) | ((with_reducible refine is_load 67 _ rfl ?_); refine wpList_load_at rfl 67 _ rfl _ rfl (fl (row4 ts k)) _ N5 4 (by rw [fl_size, rl]) _ Try.underlying67 rfl (by kernel_rfl) ?_))
      refine (fourBits_any (row4 ts k) rl (fun x hx => hct x (row4_mem k hx)) _).mono ?_
      rintro e w5 ⟨rfl, hb5⟩
      have R6 := R5.step hb5
      have P6 := P5.step hb5
      have B6 := Lib.hid (bthen B5.out hb5)
      clear N4 N5 R4 P4 B4 R5 P5 B5 hb5
      have P7 := P6.setRow (ub (cpR (ts.map nbits) (k + 1)))
      have R7 := R6.setRow_other (k := w.heap.size + 1 + 1) (by omega) (ub (cpR (ts.map nbits) (k + 1)))
      have B7 := Lib.hid (bset B6.out (g := w.heap.size + 1 + 1) (by omega) (ub (cpR (ts.map nbits) (k + 1))))
      have SR : Hid ((ub ((row4 ts k).map nbits)).size = 4) := Lib.hid (by rw [ub_size, List.length_map, rl])
      have SC : Hid ((ub (cpR (ts.map nbits) k)).size = 16) := Lib.hid (by rw [ub_size, cpR_len hm.out (by omega)])
      go_wp2_with (((with_reducible refine is_store 171 (.tmp 14) (.tmp 13) rfl ?_); refine wpList_store_part rfl 171 (.tmp 14) (.tmp 13) rfl _ _ rfl (ub ((row4 ts k).map nbits)) rfl (ub (cpR (ts.map nbits) k)) _ P6 4 (SR.out) (by rw [SC.out]; omega) (by kernel_rfl) (ub_one _) (ub (cpR (ts.map nbits) (k + 1))) (by rw [← row4_map]; exact cpR_splice_ub hm.out hlk (by omega)) ?_))
      exact ⟨⟨k + 1, by omega, by go_num, R7, P7, B7⟩, by simp [intOf]; omega⟩
    · obtain rfl : k = 4 := by omega
      rw [cpR_all hm.out] at P4
      have R9 := R4.setRow (ub (ts.map nbits))
      have B9 := Lib.hid (bset B4.out (g := w.heap.size + 1) (by omega) (ub (ts.map nbits)))
      go_wp2_with (first | ((with_reducible refine is_load 172 _ rfl ?_); refine wpList_load_at rfl 172 _ rfl _ rfl (ub (ts.map nbits)) _ P4 16 (SU.out) _ Try.underlying172 rfl (by kernel_rfl) ?_) | ((with_reducible refine is_store 172 (.tmp 2) (.tmp 16) rfl ?_); refine wpList_store_at rfl 172 (.tmp 2) (.tmp 16) rfl _ rfl (ub (ts.map nbits)) rfl (#[.int .u32 0, .int .u32 0, .int .u32 0, .int .u32 0, .int .u32 0, .int .u32 0, .int .u32 0, .int .u32 0, .int .u32 0, .int .u32 0, .int .u32 0, .int .u32 0, .int .u32 0, .int .u32 0, .int .u32 0, .int .u32 0]) _ R4 16 (SU.out) (rfl) (by kernel_rfl) (ub_one _) ?_))
      exact bodyPost_ret (v := .agg (ub (ts.map nbits))) (results_at (p := 2) (ty := 172) rfl _ _ _ (ub (ts.map nbits)) _ rfl R9 _ Try.underlying172 rfl 16 SU.out (by kernel_rfl)) rfl ⟨rfl, B9.out⟩

end Go.Proofs.Ytboahhipobcabaa
