/-
  CONTRACTS: a road that is nearly empty, one that is nearly full.
-/
import Derived.Test.YtkaghfoaicbngaaCarsOn
import Derived.Test.YtkaghfoaicbngaaTakes
namespace Go.Proofs.Ytkaghfoaicbngaa
open Go Go.RowKit
set_option maxRecDepth 100000

/-- nearly no cars; no cell takes nearly anything -/
def emptyW (l : Nat) (cs : List Nat) : Bool := decide (carsW cs l < 981467136)
def fullN (p b : Nat) (cs : List Nat) (m : Nat) : Bool := (List.range m).all fun k => decide (takesW p b (nth cs k) ≤ 981467136)
def fullW (p b : Nat) (cs : List Nat) : Bool := fullN p b cs 16
theorem fullN_succ (p b : Nat) (cs : List Nat) (m : Nat) : fullN p b cs (m + 1) = (fullN p b cs m && decide (takesW p b (nth cs m) ≤ 981467136)) := by
  unfold fullN; rw [List.range_succ, List.all_append]; simp
theorem fullN_no {p b : Nat} {cs : List Nat} {m k : Nat} (hk : k < m) (h : ¬ takesW p b (nth cs k) ≤ 981467136) : fullN p b cs m = false := by
  unfold fullN
  rw [List.all_eq_false]
  exact ⟨k, by simpa using hk, by simpa using h⟩
theorem takesW_amt {cs : List Nat} {p b l : Nat} (ok : OkR cs p b l) (k : Nat) : takesW p b (nth cs k) ≤ 2139095040 := by
  have tf := (takes_facts ok.back (ok.car k)).2.2
  unfold takesW
  exact Nat.le_trans (Nat.min_le_left _ _) (by omega)

theorem isEmpty_b (cs : List Nat) (p b l : Nat) (ok : OkR cs p b l) (w : World) :
    Calls Try.prog 45 #[.agg (rd cs p b l)] w fun e w' => e = .returned (.bool (emptyW l cs)) ∧ Below w.heap.size w w' := by
  have A0 := At.new w (rd cs p b l) 28
  have hc := (cars_facts ok).2
  have hlt := lt_amt (x := carsW cs l) (y := 981467136) hc (by omega)
  rw [show decide (carsW cs l < 981467136) = emptyW l cs from rfl] at hlt
  clear hc
  go_enter Try.func45, Try.ntmps45
  go_wp2_with (((with_reducible refine is_load 28 _ rfl ?_); refine wpList_load_at rfl 28 _ rfl _ rfl (rd cs p b l) _ A0 19 (rd_size ok.len p b l) _ Try.underlying28 rfl (by kernel_rfl) ?_))
  refine (carsOn_any cs p b l ok _).mono ?_
  rintro e w1 ⟨rfl, hb1⟩
  go_wp2_with fail
  go_ret
  exact ⟨rfl, bthen (b0 _ _) hb1⟩

theorem isFull_b (cs : List Nat) (p b l : Nat) (ok : OkR cs p b l) (w : World) :
    Calls Try.prog 47 #[.agg (rd cs p b l)] w fun e w' => e = .returned (.bool (fullW p b cs)) ∧ Below w.heap.size w w' := by
  have A0 := At.new w (rd cs p b l) 28
  have B0 := Lib.hid (b0 w (.cells (rd cs p b l) 28))
  go_enter Try.func47, Try.ntmps47
  go_wp2
  go_loopw [4] (fun i wr => ∃ k : Nat, k ≤ 16 ∧ i = .int .i64 (k : Int) ∧ Hid (fullN p b cs k = true) ∧ At wr w.heap.size (rd cs p b l) 28 ∧ Hid (Below w.heap.size w wr)) (fun i _ => 16 - (intOf i).toNat)
  case atStart => exact ⟨0, by omega, rfl, Lib.hid rfl, A0, B0⟩
  case round =>
    clear A0 B0
    obtain ⟨k, hk, rfl, hall, A1, B1⟩ := hrel
    by_cases hlk : k < 16
    · have s2 : IntKind.i64.wrap ((k : Int) + 1) = (k : Int) + 1 := IntWalk.i64_in _ (by omega)
      have kd : decide ((k : Int) < 16) = true := decide_eq_true (by omega)
      have hg := gt_amt (x := takesW p b (nth cs k)) (y := 981467136) (takesW_amt ok k) (by omega)
      have KT := fun w => takesAt_any k hlk cs p b l ok w
      by_cases hle : takesW p b (nth cs k) ≤ 981467136
      · rw [decide_eq_false (by omega)] at hg
        have hall2 : Hid (fullN p b cs (k + 1) = true) := Lib.hid (by rw [fullN_succ, hall.out, decide_eq_true hle]; rfl)
        clear hle
        generalize takesW p b (nth cs k) = tk at hg KT
        go_wp2_with (((with_reducible refine is_load 28 _ rfl ?_); refine wpList_load_at rfl 28 _ rfl _ rfl (rd cs p b l) _ A1 19 (rd_size ok.len p b l) _ Try.underlying28 rfl (by kernel_rfl) ?_))
        refine (KT _).mono ?_
        rintro e w2 ⟨rfl, hb2⟩
        have A2 := A1.step hb2
        have B2 := Lib.hid (bthen B1.out hb2)
        clear KT A1 B1 hb2
        go_wp2_with fail
        exact ⟨⟨k + 1, by omega, by go_num, hall2, A2, B2⟩, by simp [intOf]; omega⟩
      · rw [decide_eq_true (by omega)] at hg
        have hno : Hid (fullW p b cs = false) := Lib.hid (fullN_no hlk hle)
        clear hle
        generalize takesW p b (nth cs k) = tk at hg KT
        go_wp2_with (((with_reducible refine is_load 28 _ rfl ?_); refine wpList_load_at rfl 28 _ rfl _ rfl (rd cs p b l) _ A1 19 (rd_size ok.len p b l) _ Try.underlying28 rfl (by kernel_rfl) ?_))
        refine (KT _).mono ?_
        rintro e w2 ⟨rfl, hb2⟩
        have B2 := Lib.hid (bthen B1.out hb2)
        clear KT A1 B1 hb2
        go_wp2_with fail
        go_ret
        exact ⟨by rw [hno.out]; rfl, B2.out⟩
    · obtain rfl : k = 16 := by omega
      go_wp2
      go_ret
      exact ⟨by rw [show fullW p b cs = true from hall.out]; rfl, B1.out⟩

theorem l02Full_b (g : Nat) (cs : List Nat) (p b l : Nat) (ok : OkR cs p b l) (w : World) (hr : RoadAt w g cs p b l) :
    Calls Try.prog 46 #[.pointer (some ⟨g, 0, none⟩)] w (Rd (.bool (fullW p b cs)) w) := by
  go_enter Try.func46, Try.ntmps46
  go_wp2
  go_loopw [3] (fun i wr => ∃ k n : Nat, k ≤ 16 ∧ i = .int .i64 (k : Int) ∧ Hid (fullN p b cs k = true) ∧ wr = w.drewN n) (fun i _ => 16 - (intOf i).toNat)
  case atStart => exact ⟨0, 0, by omega, rfl, Lib.hid rfl, rfl⟩
  case round =>
    obtain ⟨k, n, hk, rfl, hall, rfl⟩ := hrel
    by_cases hlk : k < 16
    · have s2 : IntKind.i64.wrap ((k : Int) + 1) = (k : Int) + 1 := IntWalk.i64_in _ (by omega)
      have kd : decide ((k : Int) < 16) = true := decide_eq_true (by omega)
      have hg := gt_amt (x := takesW p b (nth cs k)) (y := 981467136) (takesW_amt ok k) (by omega)
      have KT := fun w hr => l01Takes_any g k hlk cs p b l ok w hr
      by_cases hle : takesW p b (nth cs k) ≤ 981467136
      · rw [decide_eq_false (by omega)] at hg
        have hall2 : Hid (fullN p b cs (k + 1) = true) := Lib.hid (by rw [fullN_succ, hall.out, decide_eq_true hle]; rfl)
        clear hle
        generalize takesW p b (nth cs k) = tk at hg KT
        go_wp2_with fail
        refine (KT _ (hr.drewN n)).mono ?_
        rintro e w2 ⟨rfl, n2, rfl⟩
        clear KT
        go_wp2_with fail
        exact ⟨⟨k + 1, _, by omega, by go_num, hall2, rfl⟩, by simp [intOf]; omega⟩
      · rw [decide_eq_true (by omega)] at hg
        have hno : Hid (fullW p b cs = false) := Lib.hid (fullN_no hlk hle)
        clear hle
        generalize takesW p b (nth cs k) = tk at hg KT
        go_wp2_with fail
        refine (KT _ (hr.drewN n)).mono ?_
        rintro e w2 ⟨rfl, n2, rfl⟩
        clear KT
        go_wp2_with fail
        go_ret
        rw [hno.out]
        exact ⟨rfl, _, rfl⟩
    · obtain rfl : k = 16 := by omega
      go_wp2
      go_ret
      rw [show fullW p b cs = true from hall.out]
      exact ⟨rfl, _, rfl⟩

end Go.Proofs.Ytkaghfoaicbngaa
