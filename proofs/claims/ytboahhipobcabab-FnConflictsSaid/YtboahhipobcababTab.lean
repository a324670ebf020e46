/-
  CONTRACTS: valid tables, and conflicts.
-/
import Derived.Test.YtboahhipobcababToTab
import Derived.Test.YtboahhipobcababConf
import Derived.Test.YtboahhipobcababG3
import Derived.WalkMore
namespace Go.Proofs.Ytboahhipobcabab
open Go Go.ChangeShapes Go.WideShapes Go.ChangeAt Go.RowKit
set_option maxRecDepth 100000

theorem tb_cell {W : World} {g : Nat} {ts : List Bool} {T : TypeId} (hl : ts.length = 64) (h : At W g (bl ts) T) {i k : Nat} (hi : i < 8) (hk : k < 8) : W.cell? ⟨g, i * 8 + k, none⟩ = some (.bool (tb ts i k)) :=
  h.cell (bl_get (by omega))
theorem ph_cell {W : World} {g : Nat} {ps : List Bool} {T : TypeId} (hl : ps.length = 8) (h : At W g (bl ps) T) {i : Nat} (hi : i < 8) : W.cell? ⟨g, i, none⟩ = some (.bool (bn ps i)) :=
  h.cell (bl_get (by omega))

theorem ValidTable_any (ts : List Bool) (hl : ts.length = 64) (w : World) :
    Calls Try.prog 45 #[.agg (bl ts)] w fun e w' => e = .returned (.bool (okT ts)) ∧ Below w.heap.size w w' := by
  have A0 := At.new w (bl ts) 65
  have B0 := Lib.hid (b0 w (.cells (bl ts) 65))
  go_enter Try.func45, Try.ntmps45
  go_wp2
  go_loopw [5] (fun i wr => ∃ k : Nat, k ≤ 8 ∧ i = .int .i64 k ∧ Hid (rowsT ts k = true) ∧ At wr w.heap.size (bl ts) 65 ∧ Hid (Below w.heap.size w wr)) (fun i _ => 8 - (intOf i).toNat)
  case atStart => exact ⟨0, by omega, rfl, Lib.hid rfl, A0, B0⟩
  case round =>
    clear A0 B0
    obtain ⟨i, hi, rfl, hall, A1, B1⟩ := hrel
    by_cases hlt : i < 8
    · have s2 : IntKind.i64.wrap ((i : Int) + 1) = (i : Int) + 1 := IntWalk.i64_in _ (by omega)
      go_wp2
      go_loopw [9] (fun c wr => ∃ k : Nat, k ≤ i ∧ c = .int .i64 k ∧ Hid (rowEq ts i k = true) ∧ At wr w.heap.size (bl ts) 65 ∧ Hid (Below w.heap.size w wr)) (fun c _ => 8 - (intOf c).toNat)
      case atStart => exact ⟨0, by omega, rfl, Lib.hid rfl, A1, B1⟩
      case round =>
        clear A1 B1
        obtain ⟨k, hk, rfl, hrow, A1, B1⟩ := hrel
        by_cases hlt2 : k < i
        · have s3 : IntKind.i64.wrap ((k : Int) + 1) = (k : Int) + 1 := IntWalk.i64_in _ (by omega)
          have c1 := tb_cell hl A1 (i := i) (k := k) (by omega) (by omega)
          have c2 := tb_cell hl A1 (i := k) (k := i) (by omega) (by omega)
          by_cases he : tb ts i k = tb ts k i
          · rw [he] at c1
            have hn := Lib.hid (rowEq_next hrow.out he)
            clear he
            go_wp2
            go_quiet (fail)
            go_wp2
            exact ⟨⟨k + 1, by omega, by go_num, hn, A1.drewN _, Lib.hid (bdrew B1.out _)⟩, by simp [intOf]; omega⟩
          · have hno := okT_off (by omega) hlt2 he
            have h2 : tb ts k i = !(tb ts i k) := by cases h1 : tb ts i k <;> cases h2 : tb ts k i <;> simp_all
            rw [h2] at c2
            clear he h2
            generalize tb ts i k = x at c1 c2
            cases x
            · go_wp2
              go_quiet (fail)
              go_wp2
              go_ret
              exact ⟨by rw [hno]; rfl, bdrew B1.out _⟩
            · go_wp2
              go_quiet (fail)
              go_wp2
              go_ret
              exact ⟨by rw [hno]; rfl, bdrew B1.out _⟩
        · obtain rfl : k = i := by omega
          have c1 := tb_cell hl A1 (i := k) (k := k) (by omega) (by omega)
          cases hd : tb ts k k
          · rw [hd] at c1
            have hn := Lib.hid (rowsT_next hall.out hrow.out hd)
            clear hd
            go_wp2
            exact ⟨⟨k + 1, by omega, by go_num, hn, A1, B1⟩, by simp [intOf]; omega⟩
          · rw [hd] at c1
            have hno := okT_diag hlt hd
            clear hd
            go_wp2
            go_ret
            exact ⟨by rw [hno]; rfl, B1.out⟩
    · obtain rfl : i = 8 := by omega
      go_wp2
      go_ret
      exact ⟨by rw [show okT ts = true from hall.out]; rfl, B1.out⟩

theorem l04Table_any (ts : List Bool) (hl : ts.length = 64) (g : Nat) (T : TypeId) (w : World) (A0 : At w g (bl ts) T) :
    Calls Try.prog 79 #[.pointer (some ⟨g, 0, none⟩)] w fun e w' => e = .returned (.bool (okT ts)) ∧ Below w.heap.size w w' := by
  have B0 := Lib.hid (Below.refl w.heap.size w)
  go_enter Try.func79, Try.ntmps79
  go_wp2
  go_loopw [3] (fun i wr => ∃ k : Nat, k ≤ 8 ∧ i = .int .i64 k ∧ Hid (rowsT ts k = true) ∧ At wr g (bl ts) T ∧ Hid (Below w.heap.size w wr)) (fun i _ => 8 - (intOf i).toNat)
  case atStart => exact ⟨0, by omega, rfl, Lib.hid rfl, A0, B0⟩
  case round =>
    clear A0 B0
    obtain ⟨i, hi, rfl, hall, A1, B1⟩ := hrel
    by_cases hlt : i < 8
    · have s2 : IntKind.i64.wrap ((i : Int) + 1) = (i : Int) + 1 := IntWalk.i64_in _ (by omega)
      go_wp2
      go_loopw [4] (fun c wr => ∃ k : Nat, k ≤ i + 1 ∧ c = .int .i64 k ∧ Hid (if k ≤ i then rowEq ts i k = true else rowsT ts (i + 1) = true) ∧ At wr g (bl ts) T ∧ Hid (Below w.heap.size w wr)) (fun c _ => 10 - (intOf c).toNat)
      case atStart => exact ⟨0, by omega, rfl, Lib.hid (by rw [if_pos (by omega)]; rfl), A1, B1⟩
      case round =>
        clear A1 B1
        obtain ⟨k, hk, rfl, hrow, A1, B1⟩ := hrel
        by_cases hlt2 : k < i
        · have s3 : IntKind.i64.wrap ((k : Int) + 1) = (k : Int) + 1 := IntWalk.i64_in _ (by omega)
          have hle : (k : Int) ≤ (i : Int) := by omega
          have hnk : ((i : Int) == (k : Int)) = false := by simp; omega
          have hrow2 := hrow.out
          rw [if_pos (by omega)] at hrow2
          have c1 := tb_cell hl A1 (i := i) (k := k) (by omega) (by omega)
          have c2 := tb_cell hl A1 (i := k) (k := i) (by omega) (by omega)
          by_cases he : tb ts i k = tb ts k i
          · rw [he] at c1
            have hn := Lib.hid (rowEq_next hrow2 he)
            clear he hrow2 hrow
            go_wp2
            go_quiet (fail)
            go_wp2
            exact ⟨⟨k + 1, by omega, by go_num, Lib.hid (by rw [if_pos (by omega)]; exact hn.out), A1.drewN _, Lib.hid (bdrew B1.out _)⟩, by simp [intOf]; omega⟩
          · have hno := okT_off (by omega) hlt2 he
            have h2 : tb ts k i = !(tb ts i k) := by cases h1 : tb ts i k <;> cases h2 : tb ts k i <;> simp_all
            rw [h2] at c2
            clear he h2 hrow2 hrow
            generalize tb ts i k = x at c1 c2
            cases x
            · go_wp2
              go_quiet (fail)
              go_wp2
              go_ret
              exact ⟨by rw [hno]; rfl, bdrew B1.out _⟩
            · go_wp2
              go_quiet (fail)
              go_wp2
              go_ret
              exact ⟨by rw [hno]; rfl, bdrew B1.out _⟩
        · by_cases hlt3 : k = i
          · obtain rfl := hlt3
            have hrow2 := hrow.out
            rw [if_pos (by omega)] at hrow2
            have c1 := tb_cell hl A1 (i := k) (k := k) (by omega) (by omega)
            cases hd : tb ts k k
            · rw [hd] at c1
              have hn := Lib.hid (rowsT_next hall.out hrow2 hd)
              clear hd hrow hrow2
              go_wp2
              go_quiet (fail)
              go_wp2
              exact ⟨⟨k + 1, by omega, by go_num, Lib.hid (by rw [if_neg (by omega)]; exact hn.out), A1.drewN _, Lib.hid (bdrew B1.out _)⟩, by simp [intOf]; omega⟩
            · rw [hd] at c1
              have hno := okT_diag hlt hd
              clear hd hrow hrow2
              go_wp2
              go_quiet (fail)
              go_wp2
              go_ret
              exact ⟨by rw [hno]; rfl, bdrew B1.out _⟩
          · obtain rfl : k = i + 1 := by omega
            have hrow2 := hrow.out
            rw [if_neg (by omega)] at hrow2
            have HR := Lib.hid hrow2
            have hle : ¬ ((i + 1 : Nat) : Int) ≤ (i : Int) := by omega
            clear hrow hrow2
            go_wp2
            exact ⟨⟨i + 1, by omega, by go_num, HR, A1, B1⟩, by simp [intOf]; omega⟩
    · obtain rfl : i = 8 := by omega
      go_wp2
      go_ret
      exact ⟨by rw [show okT ts = true from hall.out]; rfl, B1.out⟩

end Go.Proofs.Ytboahhipobcabab
