/-
  SEVERAL TEXTS IN ONE.
-/
import Derived.Test.YtboahhipobcabaaG16
import Derived.Test.YtboahhipobcabaaG5

/-
  CONTRACTS: SameRoad, the program's.
-/
namespace Go.Proofs.Ytboahhipobcabaa
open Go Go.RowKit

/-- a part of a row, in whatever world of the class -/
theorem q_piece {P : Program} {W : World} {o : Oper} {a : Act} {K : Act → Prop} {g : Nat} {c : Array Value} {T : TypeId} (ty : TypeId) (x : Operand) (ho : o.op = .load ty x) (hx : a.eval x = .pointer (some ⟨g, 0, none⟩)) (hA : At W g c T) (n : Nat) (hn : 0 + n ≤ c.size) (d : TypeDesc)
    (hu : P.underlying ty = some d) (hd : (match d with | .struct _ | .array _ _ => true | _ => false) = true) (hi : (P.info? ty).map (·.size) = some n) (c' : Array Value) (hc : c.extract 0 n = c') (hK : K (a.put o.dst (.agg c'))) : o.quiet P a (Cb W) K :=
  q_load ty x ho _ hx (.agg c') (fun w hw => by
    have := run_loadAt_part (P := P) w g 0 n ty c T (0, 0) d (At.step hA hw) hu hd hi hn
    rw [Nat.zero_add, hc] at this
    exact this) hK

def sameR (cs : List Nat) (p b l : Nat) (es : List Nat) (q c m : Nat) : Bool := decide (cs.map nbits = es.map nbits) && decide (nbits p = nbits q ∧ nbits b = nbits c ∧ nbits l = nbits m)

theorem eql_rules (a1 a2 a3 b1 b2 b3 : Nat) (W : World) : (binOp .eql 134 (.agg (ub [a1, a2, a3])) (.agg (ub [b1, b2, b3]))).run Try.prog W = .ok (.bool (decide (a1 = b1 ∧ a2 = b2 ∧ a3 = b3))) W :=
  run_eql_three W 134 130 _ _ _ a1 a2 a3 b1 b2 b3 (by kernel_rfl) (by kernel_rfl) (by rw [Program.fieldsOf, Try.underlying134]) Try.underlying130 rfl rfl rfl rfl rfl rfl (by decide) (by decide) (by decide)
theorem eql_bits (xs ys : List Nat) (hx : xs.length = 16) (hy : ys.length = 16) (W : World) : (binOp .eql 131 (.agg (ub xs)) (.agg (ub ys))).run Try.prog W = .ok (.bool (decide (xs = ys))) W :=
  run_eql_u32s W 131 130 16 xs ys Try.underlying131 Try.underlying130 (by kernel_rfl) hx hy

theorem SameRoad_any (cs : List Nat) (p b l : Nat) (hl : cs.length = 16) (hc : ∀ x ∈ cs, x < 4294967296) (hp : p < 4294967296) (hb : b < 4294967296) (hla : l < 4294967296) (es : List Nat) (q c m : Nat) (hl' : es.length = 16) (hc' : ∀ x ∈ es, x < 4294967296) (hq' : q < 4294967296) (hb' : c < 4294967296) (hm' : m < 4294967296) (w : World) :
    Calls Try.prog 28 #[.agg (rd cs p b l), .agg (rd es q c m)] w fun e w' => e = .returned (.bool (sameR cs p b l es q c m)) ∧ Below w.heap.size w w' := by
  have A0 : At ((w.alloc (.cells (rd cs p b l) 62)).alloc (.cells (rd es q c m) 62)) w.heap.size (rd cs p b l) 62 := (At.new w _ _).alloc _
  have E0 : At ((w.alloc (.cells (rd cs p b l) 62)).alloc (.cells (rd es q c m) 62)) (w.heap.size + 1) (rd es q c m) 62 := At.new1 w _ _ _
  have B0 := Lib.hid (bnew (b0 w (.cells (rd cs p b l) 62)) (.cells (rd es q c m) 62))
  have h1 := eql_bits (cs.map nbits) (es.map nbits) (by simp [hl]) (by simp [hl'])
  have h2 := eql_rules (nbits p) (nbits b) (nbits l) (nbits q) (nbits c) (nbits m)
  unfold sameR
  cases hd : decide (cs.map nbits = es.map nbits)
  · rw [hd] at h1
    go_enter Try.func28, Try.ntmps28
    go_wp2
    generalize (w.alloc (.cells (rd cs p b l) 62)).alloc (.cells (rd es q c m) 62) = w0 at A0 E0 B0 ⊢
    have hC := Cb.const w0
    refine wp_region_cb (by kernel_rfl) (by kernel_rfl) ?_
    repeat (first
      | go_big_quiet_skip
      | (go_big_quiet_want; first
        | (refine q_piece 60 _ rfl rfl A0 16 (by rw [rd_size hl]; omega) _ Try.underlying60 rfl (by kernel_rfl) (fl cs) (rd_cars hl p b l) ?_; go_simp; go_big_quiet_on)
        | (refine q_piece 60 _ rfl rfl E0 16 (by rw [rd_size hl']; omega) _ Try.underlying60 rfl (by kernel_rfl) (fl es) (rd_cars hl' q c m) ?_; go_simp; go_big_quiet_on)
        | (refine q_row 62 _ rfl rfl A0 19 (rd_size hl p b l) _ Try.underlying62 rfl (by kernel_rfl) ?_; go_simp; go_big_quiet_on)
        | (refine q_row 62 _ rfl rfl E0 19 (rd_size hl' q c m) _ Try.underlying62 rfl (by kernel_rfl) ?_; go_simp; go_big_quiet_on)
        | (go_big_quiet_op; go_big_quiet_on)
        | (go_big_quiet_op; apply Exists.intro; refine ⟨fun w' hw' => ?_, ?_⟩; (go_at_call 68; (with_reducible show Calls _ _ #[.agg (fl cs)] _ _); exact (carBits_any cs hl hc _).mono fun _ _ h => ⟨h.1, hw'.step h.2⟩); go_big_quiet_on)
        | (go_big_quiet_op; apply Exists.intro; refine ⟨fun w' hw' => ?_, ?_⟩; (go_at_call 68; (with_reducible show Calls _ _ #[.agg (fl es)] _ _); exact (carBits_any es hl' hc' _).mono fun _ _ h => ⟨h.1, hw'.step h.2⟩); go_big_quiet_on)
        | (go_big_quiet_op; apply Exists.intro; refine ⟨fun w' hw' => ?_, ?_⟩; (go_at_call 69; (with_reducible show Calls _ _ #[.agg (rd cs p b l)] _ _); exact (rulesOf_any cs p b l hl hp hb hla _).mono fun _ _ h => ⟨h.1, hw'.step h.2⟩); go_big_quiet_on)
        | (go_big_quiet_op; apply Exists.intro; refine ⟨fun w' hw' => ?_, ?_⟩; (go_at_call 69; (with_reducible show Calls _ _ #[.agg (rd es q c m)] _ _); exact (rulesOf_any es q c m hl' hq' hb' hm' _).mono fun _ _ h => ⟨h.1, hw'.step h.2⟩); go_big_quiet_on)))
    refine wpQuiet_nil ?_
    intro w1 hw1
    go_wp2
    go_ret
    exact ⟨rfl, bthen B0.out hw1⟩
  · rw [hd] at h1
    go_enter Try.func28, Try.ntmps28
    go_wp2
    generalize (w.alloc (.cells (rd cs p b l) 62)).alloc (.cells (rd es q c m) 62) = w0 at A0 E0 B0 ⊢
    have hC := Cb.const w0
    refine wp_region_cb (by kernel_rfl) (by kernel_rfl) ?_
    repeat (first
      | go_big_quiet_skip
      | (go_big_quiet_want; first
        | (refine q_piece 60 _ rfl rfl A0 16 (by rw [rd_size hl]; omega) _ Try.underlying60 rfl (by kernel_rfl) (fl cs) (rd_cars hl p b l) ?_; go_simp; go_big_quiet_on)
        | (refine q_piece 60 _ rfl rfl E0 16 (by rw [rd_size hl']; omega) _ Try.underlying60 rfl (by kernel_rfl) (fl es) (rd_cars hl' q c m) ?_; go_simp; go_big_quiet_on)
        | (refine q_row 62 _ rfl rfl A0 19 (rd_size hl p b l) _ Try.underlying62 rfl (by kernel_rfl) ?_; go_simp; go_big_quiet_on)
        | (refine q_row 62 _ rfl rfl E0 19 (rd_size hl' q c m) _ Try.underlying62 rfl (by kernel_rfl) ?_; go_simp; go_big_quiet_on)
        | (go_big_quiet_op; go_big_quiet_on)
        | (go_big_quiet_op; apply Exists.intro; refine ⟨fun w' hw' => ?_, ?_⟩; (go_at_call 68; (with_reducible show Calls _ _ #[.agg (fl cs)] _ _); exact (carBits_any cs hl hc _).mono fun _ _ h => ⟨h.1, hw'.step h.2⟩); go_big_quiet_on)
        | (go_big_quiet_op; apply Exists.intro; refine ⟨fun w' hw' => ?_, ?_⟩; (go_at_call 68; (with_reducible show Calls _ _ #[.agg (fl es)] _ _); exact (carBits_any es hl' hc' _).mono fun _ _ h => ⟨h.1, hw'.step h.2⟩); go_big_quiet_on)
        | (go_big_quiet_op; apply Exists.intro; refine ⟨fun w' hw' => ?_, ?_⟩; (go_at_call 69; (with_reducible show Calls _ _ #[.agg (rd cs p b l)] _ _); exact (rulesOf_any cs p b l hl hp hb hla _).mono fun _ _ h => ⟨h.1, hw'.step h.2⟩); go_big_quiet_on)
        | (go_big_quiet_op; apply Exists.intro; refine ⟨fun w' hw' => ?_, ?_⟩; (go_at_call 69; (with_reducible show Calls _ _ #[.agg (rd es q c m)] _ _); exact (rulesOf_any es q c m hl' hq' hb' hm' _).mono fun _ _ h => ⟨h.1, hw'.step h.2⟩); go_big_quiet_on)))
    refine wpQuiet_nil ?_
    intro w1 hw1
    go_wp2
    go_ret
    exact ⟨by simp, bthen B0.out hw1⟩
end Go.Proofs.Ytboahhipobcabaa

/-
  ROWS OF FOUR BY FOUR 32-BIT WORDS, compared.
  No Go text in it. Conditions: those of each theorem.
-/
namespace Go.Proofs.Ytboahhipobcabaa
open Go Go.RowKit
variable {P : Program}
theorem ub_row {xs : List Nat} {k off : Nat} (ho : off = 4 * k) : (ub xs).extract off (off + 4) = ub (row4 xs k) := by
  subst ho
  apply Array.ext'
  simp [ub, row4, List.extract_eq_take_drop, List.map_drop, List.map_take]
theorem run_part_row (w : World) (e : TypeId) (xs : List Nat) (k off : Nat) {e2 : TypeId} (hue : P.underlying e = some (.array 4 e2)) (he : (P.info? e).map (·.size) = some 4) (ho : off = 4 * k) (hk : off + 4 ≤ xs.length) : (part e (ub xs) off).run P w = .ok (.agg (ub (row4 xs k))) w := by
  have hagg : (isAgg e).run P w = .ok true w := by
    unfold isAgg
    rw [Sem.run_bind, run_underlying hue w]
    rfl
  cases hq : P.info? e with
  | none => simp [hq] at he
  | some i =>
    have hs : i.size = 4 := by simpa [hq] using he
    simp [part, Sem.run_bind, hagg, sizeOf, typeInfo, hq, hs, ub_row ho]
theorem rows_eq {xs ys : List Nat} (hx : xs.length = 16) (hy : ys.length = 16) : ((List.range' 0 4).all fun i => decide (row4 xs i = row4 ys i)) = decide (xs = ys) := by
  rw [Bool.eq_iff_iff]
  simp only [List.all_eq_true, decide_eq_true_eq]
  constructor
  · intro q
    apply List.ext_getElem (by omega)
    intro i h1 h2
    have := q (i / 4) (by simp [List.mem_range'_1]; omega)
    have e1 := row4_nth hx (i / 4) (n := i % 4) (by omega)
    have e2 := row4_nth hy (i / 4) (n := i % 4) (by omega)
    rw [this, e2, Nat.div_add_mod] at e1
    unfold nth at e1
    rw [List.getD_eq_getElem?_getD, List.getD_eq_getElem?_getD, List.getElem?_eq_getElem h1, List.getElem?_eq_getElem h2] at e1
    exact e1.symm
  · intro e i _; rw [e]
theorem run_eq_u32ss (w : World) (d : Nat) (t e e2 : TypeId) (xs ys : List Nat) (hu : P.underlying t = some (.array 4 e)) (hue : P.underlying e = some (.array 4 e2)) (he : (P.info? e).map (·.size) = some 4)
    (hue2 : P.underlying e2 = some (.int .u32)) (he2 : (P.info? e2).map (·.size) = some 1) (hx : xs.length = 16) (hy : ys.length = 16) :
    (Op.equalIn (d + 3) t (.agg (ub xs)) (.agg (ub ys))).run P w = .ok (decide (xs = ys)) w := by
  cases hq : P.info? e with
  | none => simp [hq] at he
  | some i =>
    have hs : i.size = 4 := by simpa [hq] using he
    unfold Op.equalIn
    simp only [Sem.run_bind, run_underlying hu w, Result.andThen_ok, sizeOf, typeInfo]
    simp [hq, hs]
    rw [forIn_run w _ (fun i => decide (row4 xs i = row4 ys i)) _ ?_]
    · rw [rows_eq hx hy]
      by_cases c : xs = ys <;> simp [c]
    · intro k hk s
      have hk' : k < 4 := by simpa [List.mem_range'_1] using hk
      rw [Sem.run_bind, run_part_row w e xs k (k * 4) hue (by rw [hq]; simp [hs]) (by omega) (by omega)]
      simp only [Result.andThen_ok]
      rw [Sem.run_bind, run_part_row w e ys k (k * 4) hue (by rw [hq]; simp [hs]) (by omega) (by omega)]
      simp only [Result.andThen_ok]
      rw [Sem.run_bind, run_eq_u32s w d e e2 4 (row4 xs k) (row4 ys k) hue hue2 he2 (row4_len hx hk') (row4_len hy hk')]
      simp only [Result.andThen_ok]
      by_cases c : row4 xs k = row4 ys k
      · simp [c]
      · simp [c]
theorem run_eql_u32ss (w : World) (t e e2 : TypeId) (xs ys : List Nat) (hu : P.underlying t = some (.array 4 e)) (hue : P.underlying e = some (.array 4 e2)) (he : (P.info? e).map (·.size) = some 4)
    (hue2 : P.underlying e2 = some (.int .u32)) (he2 : (P.info? e2).map (·.size) = some 1) (hx : xs.length = 16) (hy : ys.length = 16) :
    (binOp .eql t (.agg (ub xs)) (.agg (ub ys))).run P w = .ok (.bool (decide (xs = ys))) w := by
  rw [run_eql_struct, show (10000 : Nat) = 9997 + 3 from rfl, run_eq_u32ss w 9997 t e e2 xs ys hu hue he hue2 he2 hx hy]
  rfl
end Go.Proofs.Ytboahhipobcabaa
