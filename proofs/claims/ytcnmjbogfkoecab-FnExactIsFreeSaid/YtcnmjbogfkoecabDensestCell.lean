/-
  CONTRACTS: DensestCell.
-/
import Derived.Test.YtcnmjbogfkoecabDense
namespace Go.Proofs.Ytcnmjbogfkoecab
open Go Go.RowKit

theorem OkR.nth {cs : List Nat} {p b l : Nat} (ok : OkR cs p b l) : ∀ k, nth cs k ≤ 1065353216 := fun k => ok.car k

/-- a part of a row, in whatever world of the class -/
theorem q_part {P : Program} {W : World} {o : Oper} {a : Act} {K : Act → Prop} {g : Nat} {c : Array Value} {T : TypeId} (ty : TypeId) (x : Operand) (ho : o.op = .load ty x) (hx : a.eval x = .pointer (some ⟨g, 0, none⟩)) (hA : At W g c T) (n : Nat) (hn : 0 + n ≤ c.size) (d : TypeDesc)
    (hu : P.underlying ty = some d) (hd : (match d with | .struct _ | .array _ _ => true | _ => false) = true) (hi : (P.info? ty).map (·.size) = some n) (c' : Array Value) (hc : c.extract 0 n = c') (hK : K (a.put o.dst (.agg c'))) : o.quiet P a (Cb W) K :=
  q_load ty x ho _ hx (.agg c') (fun w hw => by
    have := run_loadAt_part (P := P) w g 0 n ty c T (0, 0) d (At.step hA hw) hu hd hi hn
    rw [Nat.zero_add, hc] at this
    exact this) hK

def vDensestCell (cs : List Nat) (p b l : Nat) : Int × Nat × Int := if okB cs p b l then ((dnW cs : Int), nth cs (dnW cs), 0) else (0, 0, 1)
theorem vDensestCell_yes {cs : List Nat} {p b l : Nat} (h : okB cs p b l = true) : vDensestCell cs p b l = ((dnW cs : Int), nth cs (dnW cs), 0) := by unfold vDensestCell; rw [if_pos h]
theorem vDensestCell_no {cs : List Nat} {p b l : Nat} (h : okB cs p b l = false) : vDensestCell cs p b l = (0, 0, 1) := by unfold vDensestCell; rw [h]; rfl

theorem DensestCell_any (cs : List Nat) (p b l : Nat) (hl : cs.length = 16) (hc : ∀ x ∈ cs, x < 4294967296) (hp : p < 4294967296) (hb : b < 4294967296) (hla : l < 4294967296) (w : World) :
    Calls Try.prog 22 #[.agg (rd cs p b l)] w fun e w' => e = .returned (.tuple #[.int .i64 (vDensestCell cs p b l).1, .float .f32 (vDensestCell cs p b l).2.1, .int .i64 (vDensestCell cs p b l).2.2]) ∧ Below w.heap.size w w' := by
  have A0 := At.new w (rd cs p b l) 30
  cases h : okB cs p b l
  · rw [vDensestCell_no h]
    go_enter Try.func22, Try.ntmps22
    go_wp2_with (((with_reducible refine is_load 30 _ rfl ?_); refine wpList_load_at rfl 30 _ rfl _ rfl (rd cs p b l) _ (by assumption) 19 (rd_size hl p b l) _ Try.underlying30 rfl (by kernel_rfl) ?_))
    refine (ValidRoad_any cs p b l hl hc hp hb hla _).mono ?_
    rintro e w1 ⟨rfl, hb1⟩
    go_wp2_with fail
    go_ret3
    exact ⟨rfl, bthen (b0 _ _) hb1⟩
  · rw [vDensestCell_yes h]
    have ok := OkR.of hl h
    have hD : dnW cs < 16 := by have := dn_le cs 15; unfold dnW; omega
    have hD' : ((dnW cs : Nat) : Int) < 16 := by omega
    have d2 := rd_cell hl p b l hD
    go_enter Try.func22, Try.ntmps22
    go_wp2_with (((with_reducible refine is_load 30 _ rfl ?_); refine wpList_load_at rfl 30 _ rfl _ rfl (rd cs p b l) _ (by assumption) 19 (rd_size hl p b l) _ Try.underlying30 rfl (by kernel_rfl) ?_))
    refine (ValidRoad_any cs p b l hl hc hp hb hla _).mono ?_
    rintro e w1 ⟨rfl, hb1⟩
    have A1 := A0.step hb1
    go_wp2_with (((with_reducible refine is_load 28 _ rfl ?_); refine wpList_load_part rfl 28 _ rfl _ 0 rfl (rd cs p b l) _ (by assumption) 16 (by rw [rd_size hl]; omega) _ Try.underlying28 rfl (by kernel_rfl) (fl cs) (rd_cars hl p b l) ?_))
    refine (densestOf_any cs hl ok.nth _).mono ?_
    rintro e w2 ⟨rfl, hb2⟩
    have A9 := A1.step hb2
    have hC := Cb.const w2
    have B2 := Lib.hid (bthen (bthen (b0 _ _) hb1) hb2)
    clear hb1 hb2
    go_wp2
    refine wp_region_cb (by kernel_rfl) (by kernel_rfl) ?_
    repeat (first
      | go_big_quiet_skip
      | (go_big_quiet_want; first
        | (refine q_cell 22 _ rfl _ Try.underlying22 _ rfl A9 _ (by assumption) ?_; go_simp; go_big_quiet_on)
        | (refine q_row 30 _ rfl rfl A9 19 (rd_size ok.len p b l) _ Try.underlying30 rfl (by kernel_rfl) ?_; go_simp; go_big_quiet_on)
        | (go_big_quiet_op; go_big_quiet_on)))
    refine wpQuiet_nil ?_
    intro w9 hw9
    go_wp2
    go_ret3
    exact ⟨rfl, bthen B2.out hw9⟩

theorem sDensestCell_any (cs : List Nat) (p b l : Nat) (hl : cs.length = 16) (hc : ∀ x ∈ cs, x < 4294967296) (hp : p < 4294967296) (hb : b < 4294967296) (hla : l < 4294967296) (w : World) :
    Calls Try.prog 21 #[.agg (rd cs p b l)] w fun e w' => e = .returned (.tuple #[.int .i64 (vDensestCell cs p b l).1, .float .f32 (vDensestCell cs p b l).2.1, .int .i64 (vDensestCell cs p b l).2.2]) ∧ Below w.heap.size w w' := by
  have hr := RoadAt.new w cs p b l 30
  have A0 := At.new w (rd cs p b l) 30
  cases h : okB cs p b l
  · rw [vDensestCell_no h]
    go_enter Try.func21, Try.ntmps21
    go_wp2_with fail
    refine (l01Ok_any _ cs p b l hl hc hp hb hla _ hr).mono ?_
    rintro e w1 ⟨rfl, n1, rfl⟩
    go_wp2_with fail
    go_ret3
    exact ⟨rfl, bdrew (b0 _ _) _⟩
  · rw [vDensestCell_yes h]
    have ok := OkR.of hl h
    go_enter Try.func21, Try.ntmps21
    go_wp2_with fail
    refine (l01Ok_any _ cs p b l hl hc hp hb hla _ hr).mono ?_
    rintro e w1 ⟨rfl, n1, rfl⟩
    have A2 := A0.drewN n1
    have B1 := bdrew (b0 w (.cells (rd cs p b l) 30)) n1
    generalize (w.alloc (.cells (rd cs p b l) 30)).drewN n1 = w1 at A2 B1 ⊢
    have BB := Lib.hid B1
    clear A0 B1 hr
    go_wp2
    go_loopw [6, 5] (fun i at' wr => ∃ k : Nat, 1 ≤ k ∧ k ≤ 16 ∧ i = .int .i64 k ∧ at' = .int .i64 ((dn cs (k - 1) : Nat) : Int) ∧ At wr w.heap.size (rd cs p b l) 30 ∧ Hid (Below w.heap.size w wr)) (fun i _ _ => 16 - (intOf i).toNat)
    case atStart => exact ⟨1, by omega, by omega, rfl, rfl, A2, BB⟩
    case round =>
      obtain ⟨k, hk1, hk, rfl, rfl, A3, BB3⟩ := hrel
      clear A2 BB
      have hle := dn_le cs (k - 1)
      by_cases hlt : k < 16
      · have q1 := A3.cell (rd_cell hl p b l hlt)
        have q2 := A3.cell (rd_cell hl p b l (k := dn cs (k - 1)) (by omega))
        have hgt := gt_amt (x := nth cs k) (y := nth cs (dn cs (k - 1))) (Nat.le_trans (ok.car _) (by omega)) (Nat.le_trans (ok.car _) (by omega))
        have hi1 : (k : Int) < 16 := by omega
        have hi2 : ((dn cs (k - 1) : Nat) : Int) < 16 := by omega
        by_cases c : nth cs (dn cs (k - 1)) < nth cs k
        · rw [decide_eq_true c] at hgt
          have hd : Hid (dn cs (k + 1 - 1) = k) := by
            show dn cs (k + 1 - 1) = k
            have := dn_yes (cs := cs) (k := k - 1) (by rw [show k - 1 + 1 = k from by omega]; exact c)
            rw [show k - 1 + 1 = k from by omega] at this
            rw [Nat.add_sub_cancel]; exact this
          clear c hle
          go_wp2
          go_quiet (fail)
          go_wp2
          exact ⟨⟨k + 1, by omega, by omega, by go_num, by rw [hd.out], A3.drewN _, bdrew BB3.out _⟩, by simp [intOf]; omega⟩
        · rw [decide_eq_false c] at hgt
          have hd : Hid (dn cs (k + 1 - 1) = dn cs (k - 1)) := by
            show dn cs (k + 1 - 1) = dn cs (k - 1)
            have := dn_no (cs := cs) (k := k - 1) (by rw [show k - 1 + 1 = k from by omega]; exact c)
            rw [show k - 1 + 1 = k from by omega] at this
            rw [Nat.add_sub_cancel]; exact this
          clear c hle
          go_wp2
          go_quiet (fail)
          go_wp2
          exact ⟨⟨k + 1, by omega, by omega, by go_num, by rw [hd.out], A3.drewN _, bdrew BB3.out _⟩, by simp [intOf]; omega⟩
      · obtain rfl : k = 16 := by omega
        have hle : dn cs 15 ≤ 15 := dn_le cs 15
        rw [show dn cs (16 - 1) = dn cs 15 from rfl]
        have q2 := A3.cell (rd_cell hl p b l (k := dn cs 15) (by omega))
        have hi2 : ((dn cs 15 : Nat) : Int) < 16 := by omega
        clear hle
        go_wp2
        go_quiet (fail)
        go_wp2
        go_ret3
        exact ⟨rfl, bdrew BB3.out _⟩
end Go.Proofs.Ytcnmjbogfkoecab
