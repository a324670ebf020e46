/-
  SEVERAL TEXTS IN ONE.
-/
import Derived.Test.YtcnbccjkcaoflaaDense

/-
  CONTRACTS: DensestCell.
-/
namespace Go.Proofs.Ytcnbccjkcaoflaa
open Go Go.RowKit

theorem OkR.nth {cs : List Nat} {p b l : Nat} (ok : OkR cs p b l) : ∀ k, nth cs k ≤ 1065353216 := fun k => ok.car k

/-- a part of a row, in whatever world of the class -/
theorem q_partD {P : Program} {W : World} {o : Oper} {a : Act} {K : Act → Prop} {g : Nat} {c : Array Value} {T : TypeId} (ty : TypeId) (x : Operand) (ho : o.op = .load ty x) (hx : a.eval x = .pointer (some ⟨g, 0, none⟩)) (hA : At W g c T) (n : Nat) (hn : 0 + n ≤ c.size) (d : TypeDesc)
    (hu : P.underlying ty = some d) (hd : (match d with | .struct _ | .array _ _ => true | _ => false) = true) (hi : (P.info? ty).map (·.size) = some n) (c' : Array Value) (hc : c.extract 0 n = c') (hK : K (a.put o.dst (.agg c'))) : o.quiet P a (Cb W) K :=
  q_load ty x ho _ hx (.agg c') (fun w hw => by
    have := run_loadAt_part (P := P) w g 0 n ty c T (0, 0) d (At.step hA hw) hu hd hi hn
    rw [Nat.zero_add, hc] at this
    exact this) hK

def vDensestCell (cs : List Nat) (p b l : Nat) : Int × Nat × Int := if okB cs p b l then ((dnW cs : Int), nth cs (dnW cs), 0) else (0, 0, 1)
theorem vDensestCell_yes {cs : List Nat} {p b l : Nat} (h : okB cs p b l = true) : vDensestCell cs p b l = ((dnW cs : Int), nth cs (dnW cs), 0) := by unfold vDensestCell; rw [if_pos h]
theorem vDensestCell_no {cs : List Nat} {p b l : Nat} (h : okB cs p b l = false) : vDensestCell cs p b l = (0, 0, 1) := by unfold vDensestCell; rw [h]; rfl

end Go.Proofs.Ytcnbccjkcaoflaa

/-
  CONTRACTS: IsFree.
-/
namespace Go.Proofs.Ytcnbccjkcaoflaa
open Go Go.RowKit

def freeB (cs : List Nat) (best : Nat) : Bool := decide (nth cs (dnW cs) ≤ best)
def vIsFree (cs : List Nat) (p b l : Nat) : Bool × Int := if okB cs p b l then (freeB cs (bestW p b), 0) else (false, 1)
theorem vIsFree_yes {cs : List Nat} {p b l : Nat} (h : okB cs p b l = true) : vIsFree cs p b l = (freeB cs (bestW p b), 0) := by unfold vIsFree; rw [if_pos h]
theorem vIsFree_no {cs : List Nat} {p b l : Nat} (h : okB cs p b l = false) : vIsFree cs p b l = (false, 1) := by unfold vIsFree; rw [h]; rfl

theorem IsFree_any (cs : List Nat) (p b l : Nat) (hl : cs.length = 16) (hc : ∀ x ∈ cs, x < 4294967296) (hp : p < 4294967296) (hb : b < 4294967296) (hla : l < 4294967296) (w : World) :
    Calls Try.prog 9 #[.agg (rd cs p b l)] w fun e w' => e = .returned (.tuple #[.bool (vIsFree cs p b l).1, .int .i64 (vIsFree cs p b l).2]) ∧ Below w.heap.size w w' := by
  have A0 := At.new w (rd cs p b l) 28
  cases h : okB cs p b l
  · rw [vIsFree_no h]
    go_enter Try.func9, Try.ntmps9
    go_wp2_with (((with_reducible refine is_load 28 _ rfl ?_); refine wpList_load_at rfl 28 _ rfl _ rfl (rd cs p b l) _ (by assumption) 19 (rd_size hl p b l) _ Try.underlying28 rfl (by kernel_rfl) ?_))
    refine (ValidRoad_any cs p b l hl hc hp hb hla _).mono ?_
    rintro e w1 ⟨rfl, hb1⟩
    go_wp2_with fail
    go_ret2
    exact ⟨rfl, bthen (b0 _ _) hb1⟩
  · rw [vIsFree_yes h]
    have ok := OkR.of hl h
    have hD : dnW cs < 16 := by have := dn_le cs 15; unfold dnW; omega
    have hD' : ((dnW cs : Nat) : Int) < 16 := by omega
    have d2 := rd_cell hl p b l hD
    have hm := le_amt (x := nth cs (dnW cs)) (y := bestW p b) (Nat.le_trans (ok.car _) (by omega)) (Nat.le_trans (bestW_le ok.pace ok.back) (by omega))
    rw [show decide (nth cs (dnW cs) ≤ bestW p b) = freeB cs (bestW p b) from rfl] at hm
    go_enter Try.func9, Try.ntmps9
    go_wp2_with (((with_reducible refine is_load 28 _ rfl ?_); refine wpList_load_at rfl 28 _ rfl _ rfl (rd cs p b l) _ (by assumption) 19 (rd_size hl p b l) _ Try.underlying28 rfl (by kernel_rfl) ?_))
    refine (ValidRoad_any cs p b l hl hc hp hb hla _).mono ?_
    rintro e w1 ⟨rfl, hb1⟩
    have A9 := A0.step hb1
    have hC := Cb.const w1
    have B2 := Lib.hid (bthen (b0 _ _) hb1)
    clear hb1
    go_wp2
    refine wp_region_cb (by kernel_rfl) (by kernel_rfl) ?_
    repeat (first
      | go_big_quiet_skip
      | (go_big_quiet_want; first
        | (refine q_cell 24 _ rfl _ Try.underlying24 _ rfl A9 _ (by assumption) ?_; go_simp; go_big_quiet_on)
        | (refine q_row 28 _ rfl rfl A9 19 (rd_size ok.len p b l) _ Try.underlying28 rfl (by kernel_rfl) ?_; go_simp; go_big_quiet_on)
        | (refine q_partD 26 _ rfl rfl A9 16 (by rw [rd_size hl]; omega) _ Try.underlying26 rfl (by kernel_rfl) (fl cs) (rd_cars hl p b l) ?_; go_simp; go_big_quiet_on)
        | (go_big_quiet_op; go_big_quiet_on)
        | (go_big_quiet_op; apply Exists.intro; refine ⟨fun w' hw' => ?_, ?_⟩; (go_at_call 22; exact (densestOf_any cs hl ok.nth _).mono fun _ _ h => ⟨h.1, hw'.step h.2⟩); go_big_quiet_on)
        | (go_big_quiet_op; apply Exists.intro; refine ⟨fun w' hw' => ?_, ?_⟩; (go_at_call 20; exact (bestShare_any cs p b l ok _).mono fun _ _ h => ⟨h.1, hw'.step h.2⟩); go_big_quiet_on)))
    refine wpQuiet_nil ?_
    intro w9 hw9
    go_wp2
    go_ret2
    exact ⟨rfl, bthen B2.out hw9⟩

end Go.Proofs.Ytcnbccjkcaoflaa
