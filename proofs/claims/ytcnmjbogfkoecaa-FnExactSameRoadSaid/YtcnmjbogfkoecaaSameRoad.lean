/-
  CONTRACTS: SameRoad, the program's.
-/
import Derived.Test.YtcnmjbogfkoecaaCarBits
namespace Go.Proofs.Ytcnmjbogfkoecaa
open Go Go.RowKit

/-- a part of a row, in whatever world of the class -/
theorem q_piece {P : Program} {W : World} {o : Oper} {a : Act} {K : Act → Prop} {g : Nat} {c : Array Value} {T : TypeId} (ty : TypeId) (x : Operand) (ho : o.op = .load ty x) (hx : a.eval x = .pointer (some ⟨g, 0, none⟩)) (hA : At W g c T) (n : Nat) (hn : 0 + n ≤ c.size) (d : TypeDesc)
    (hu : P.underlying ty = some d) (hd : (match d with | .struct _ | .array _ _ => true | _ => false) = true) (hi : (P.info? ty).map (·.size) = some n) (c' : Array Value) (hc : c.extract 0 n = c') (hK : K (a.put o.dst (.agg c'))) : o.quiet P a (Cb W) K :=
  q_load ty x ho _ hx (.agg c') (fun w hw => by
    have := run_loadAt_part (P := P) w g 0 n ty c T (0, 0) d (At.step hA hw) hu hd hi hn
    rw [Nat.zero_add, hc] at this
    exact this) hK

def sameR (cs : List Nat) (p b l : Nat) (es : List Nat) (q c m : Nat) : Bool := decide (cs.map nbits = es.map nbits) && decide (nbits p = nbits q ∧ nbits b = nbits c ∧ nbits l = nbits m)

theorem eql_rules (a1 a2 a3 b1 b2 b3 : Nat) (W : World) : (binOp .eql 59 (.agg (ub [a1, a2, a3])) (.agg (ub [b1, b2, b3]))).run Try.prog W = .ok (.bool (decide (a1 = b1 ∧ a2 = b2 ∧ a3 = b3))) W :=
  run_eql_three W 59 49 _ _ _ a1 a2 a3 b1 b2 b3 (by kernel_rfl) (by kernel_rfl) (by rw [Program.fieldsOf, Try.underlying59]) Try.underlying49 rfl rfl rfl rfl rfl rfl (by decide) (by decide) (by decide)
theorem eql_bits (xs ys : List Nat) (hx : xs.length = 16) (hy : ys.length = 16) (W : World) : (binOp .eql 56 (.agg (ub xs)) (.agg (ub ys))).run Try.prog W = .ok (.bool (decide (xs = ys))) W :=
  run_eql_u32s W 56 49 16 xs ys Try.underlying56 Try.underlying49 (by kernel_rfl) hx hy

theorem SameRoad_any (cs : List Nat) (p b l : Nat) (hl : cs.length = 16) (hc : ∀ x ∈ cs, x < 4294967296) (hp : p < 4294967296) (hb : b < 4294967296) (hla : l < 4294967296) (es : List Nat) (q c m : Nat) (hl' : es.length = 16) (hc' : ∀ x ∈ es, x < 4294967296) (hq' : q < 4294967296) (hb' : c < 4294967296) (hm' : m < 4294967296) (w : World) :
    Calls Try.prog 24 #[.agg (rd cs p b l), .agg (rd es q c m)] w fun e w' => e = .returned (.bool (sameR cs p b l es q c m)) ∧ Below w.heap.size w w' := by
  have A0 : At ((w.alloc (.cells (rd cs p b l) 31)).alloc (.cells (rd es q c m) 31)) w.heap.size (rd cs p b l) 31 := (At.new w _ _).alloc _
  have E0 : At ((w.alloc (.cells (rd cs p b l) 31)).alloc (.cells (rd es q c m) 31)) (w.heap.size + 1) (rd es q c m) 31 := At.new1 w _ _ _
  have B0 := Lib.hid (bnew (b0 w (.cells (rd cs p b l) 31)) (.cells (rd es q c m) 31))
  have h1 := eql_bits (cs.map nbits) (es.map nbits) (by simp [hl]) (by simp [hl'])
  have h2 := eql_rules (nbits p) (nbits b) (nbits l) (nbits q) (nbits c) (nbits m)
  unfold sameR
  cases hd : decide (cs.map nbits = es.map nbits)
  · rw [hd] at h1
    go_enter Try.func24, Try.ntmps24
    go_wp2
    generalize (w.alloc (.cells (rd cs p b l) 31)).alloc (.cells (rd es q c m) 31) = w0 at A0 E0 B0 ⊢
    have hC := Cb.const w0
    refine wp_region_cb (by kernel_rfl) (by kernel_rfl) ?_
    repeat (first
      | go_big_quiet_skip
      | (go_big_quiet_want; first
        | (refine q_piece 29 _ rfl rfl A0 16 (by rw [rd_size hl]; omega) _ Try.underlying29 rfl (by kernel_rfl) (fl cs) (rd_cars hl p b l) ?_; go_simp; go_big_quiet_on)
        | (refine q_piece 29 _ rfl rfl E0 16 (by rw [rd_size hl']; omega) _ Try.underlying29 rfl (by kernel_rfl) (fl es) (rd_cars hl' q c m) ?_; go_simp; go_big_quiet_on)
        | (refine q_row 31 _ rfl rfl A0 19 (rd_size hl p b l) _ Try.underlying31 rfl (by kernel_rfl) ?_; go_simp; go_big_quiet_on)
        | (refine q_row 31 _ rfl rfl E0 19 (rd_size hl' q c m) _ Try.underlying31 rfl (by kernel_rfl) ?_; go_simp; go_big_quiet_on)
        | (go_big_quiet_op; go_big_quiet_on)
        | (go_big_quiet_op; apply Exists.intro; refine ⟨fun w' hw' => ?_, ?_⟩; (go_at_call 49; (with_reducible show Calls _ _ #[.agg (fl cs)] _ _); exact (carBits_any cs hl hc _).mono fun _ _ h => ⟨h.1, hw'.step h.2⟩); go_big_quiet_on)
        | (go_big_quiet_op; apply Exists.intro; refine ⟨fun w' hw' => ?_, ?_⟩; (go_at_call 49; (with_reducible show Calls _ _ #[.agg (fl es)] _ _); exact (carBits_any es hl' hc' _).mono fun _ _ h => ⟨h.1, hw'.step h.2⟩); go_big_quiet_on)
        | (go_big_quiet_op; apply Exists.intro; refine ⟨fun w' hw' => ?_, ?_⟩; (go_at_call 50; (with_reducible show Calls _ _ #[.agg (rd cs p b l)] _ _); exact (rulesOf_any cs p b l hl hp hb hla _).mono fun _ _ h => ⟨h.1, hw'.step h.2⟩); go_big_quiet_on)
        | (go_big_quiet_op; apply Exists.intro; refine ⟨fun w' hw' => ?_, ?_⟩; (go_at_call 50; (with_reducible show Calls _ _ #[.agg (rd es q c m)] _ _); exact (rulesOf_any es q c m hl' hq' hb' hm' _).mono fun _ _ h => ⟨h.1, hw'.step h.2⟩); go_big_quiet_on)))
    refine wpQuiet_nil ?_
    intro w1 hw1
    go_wp2
    go_ret
    exact ⟨rfl, bthen B0.out hw1⟩
  · rw [hd] at h1
    go_enter Try.func24, Try.ntmps24
    go_wp2
    generalize (w.alloc (.cells (rd cs p b l) 31)).alloc (.cells (rd es q c m) 31) = w0 at A0 E0 B0 ⊢
    have hC := Cb.const w0
    refine wp_region_cb (by kernel_rfl) (by kernel_rfl) ?_
    repeat (first
      | go_big_quiet_skip
      | (go_big_quiet_want; first
        | (refine q_piece 29 _ rfl rfl A0 16 (by rw [rd_size hl]; omega) _ Try.underlying29 rfl (by kernel_rfl) (fl cs) (rd_cars hl p b l) ?_; go_simp; go_big_quiet_on)
        | (refine q_piece 29 _ rfl rfl E0 16 (by rw [rd_size hl']; omega) _ Try.underlying29 rfl (by kernel_rfl) (fl es) (rd_cars hl' q c m) ?_; go_simp; go_big_quiet_on)
        | (refine q_row 31 _ rfl rfl A0 19 (rd_size hl p b l) _ Try.underlying31 rfl (by kernel_rfl) ?_; go_simp; go_big_quiet_on)
        | (refine q_row 31 _ rfl rfl E0 19 (rd_size hl' q c m) _ Try.underlying31 rfl (by kernel_rfl) ?_; go_simp; go_big_quiet_on)
        | (go_big_quiet_op; go_big_quiet_on)
        | (go_big_quiet_op; apply Exists.intro; refine ⟨fun w' hw' => ?_, ?_⟩; (go_at_call 49; (with_reducible show Calls _ _ #[.agg (fl cs)] _ _); exact (carBits_any cs hl hc _).mono fun _ _ h => ⟨h.1, hw'.step h.2⟩); go_big_quiet_on)
        | (go_big_quiet_op; apply Exists.intro; refine ⟨fun w' hw' => ?_, ?_⟩; (go_at_call 49; (with_reducible show Calls _ _ #[.agg (fl es)] _ _); exact (carBits_any es hl' hc' _).mono fun _ _ h => ⟨h.1, hw'.step h.2⟩); go_big_quiet_on)
        | (go_big_quiet_op; apply Exists.intro; refine ⟨fun w' hw' => ?_, ?_⟩; (go_at_call 50; (with_reducible show Calls _ _ #[.agg (rd cs p b l)] _ _); exact (rulesOf_any cs p b l hl hp hb hla _).mono fun _ _ h => ⟨h.1, hw'.step h.2⟩); go_big_quiet_on)
        | (go_big_quiet_op; apply Exists.intro; refine ⟨fun w' hw' => ?_, ?_⟩; (go_at_call 50; (with_reducible show Calls _ _ #[.agg (rd es q c m)] _ _); exact (rulesOf_any es q c m hl' hq' hb' hm' _).mono fun _ _ h => ⟨h.1, hw'.step h.2⟩); go_big_quiet_on)))
    refine wpQuiet_nil ?_
    intro w1 hw1
    go_wp2
    go_ret
    exact ⟨by simp, bthen B0.out hw1⟩
end Go.Proofs.Ytcnmjbogfkoecaa
