/-
  CONTRACTS: phases and tables, a law's made the program's, and held against each other; their shapes.
-/
import Derived.Test.YtboahhipobcababG1
import Derived.Test.YtboahhipobcababG3
import Derived.Test.YtboahhipobcababG4
import Derived.Test.YtboahhipobcababG5
import Derived.Deep.LoopGhost
import Derived.IntWalk
namespace Go.Proofs.Ytboahhipobcabab
open Go Go.ChangeShapes Go.WideShapes Go.ChangeAt Go.RowKit
set_option maxRecDepth 100000

theorem toBoolA8_any (ys : List Bool) (hl : ys.length = 8) (w : World) :
    Calls Try.prog 81 #[.agg (bl ys)] w fun e w' => e = .returned (.agg (bl ys)) ∧ Below w.heap.size w w' := by
  go_enter Try.func81, Try.ntmps81
  go_wp2
  go_loopw [4] (fun i wr => ∃ k : Nat, k ≤ 8 ∧ i = .int .i64 k ∧ wr = (((w.alloc (.cells (bl ys) 61)).alloc (.cells (bl (noes 8)) 61)).alloc (.cells (bl (cpB 8 ys k)) 61))) (fun i _ => 8 - (intOf i).toNat)
  case atStart => exact ⟨0, by omega, rfl, rfl⟩
  case round =>
    obtain ⟨k, hk, rfl, rfl⟩ := hrel
    by_cases hlt : k < 8
    · have g1 := bl_get (bs := ys) (k := k) (by omega)
      have g3 := bl_get (bs := cpB 8 ys k) (k := k) (by rw [cpB_len hl k hk]; exact hlt)
      go_wp2
      exact ⟨⟨k + 1, by omega, by go_num, by rw [bl_set, cpB_set hl hlt]⟩, by simp [intOf]; omega⟩
    · obtain rfl : k = 8 := by omega
      rw [cpB_all hl]
      have R0 : At (((w.alloc (.cells (bl ys) 61)).alloc (.cells (bl (noes 8)) 61)).alloc (.cells (bl ys) 61)) (w.heap.size + 1) (bl (noes 8)) 61 := (At.last1 w _ _ _).alloc _
      have L0 : At (((w.alloc (.cells (bl ys) 61)).alloc (.cells (bl (noes 8)) 61)).alloc (.cells (bl ys) 61)) (w.heap.size + 1 + 1) (bl ys) 61 := by
        have := At.new ((w.alloc (.cells (bl ys) 61)).alloc (.cells (bl (noes 8)) 61)) (bl ys) 61
        rwa [World.size_alloc, World.size_alloc] at this
      have B0 := Lib.hid (bnew (bnew (b0 w (.cells (bl ys) 61)) (.cells (bl (noes 8)) 61)) (.cells (bl ys) 61))
      generalize (((w.alloc (.cells (bl ys) 61)).alloc (.cells (bl (noes 8)) 61)).alloc (.cells (bl ys) 61)) = w1 at R0 L0 B0 ⊢
      have R9 := R0.setRow (bl ys)
      have B9 := Lib.hid (bset B0.out (g := w.heap.size + 1) (by omega) (bl ys))
      go_wp2_with (first | ((with_reducible refine is_load 61 _ rfl ?_); refine wpList_load_at rfl 61 _ rfl _ rfl (bl ys) _ (by with_reducible assumption) 8 (by rw [bl_size, hl]) _ Try.underlying61 rfl (by kernel_rfl) ?_) | ((with_reducible refine is_store 61 _ _ rfl ?_); refine wpList_store_at rfl 61 _ _ rfl _ rfl (bl ys) rfl (bl (noes 8)) _ (by with_reducible assumption) 8 (by rw [bl_size, hl]) (by rw [bl_size, noes_len]) (by kernel_rfl) (bl_one _) ?_))
      exact bodyPost_ret (v := .agg (bl ys)) (results_at (p := 2) (ty := 61) rfl _ _ _ (bl ys) _ rfl R9 _ Try.underlying61 rfl 8 (by rw [bl_size, hl]) (by kernel_rfl)) rfl ⟨rfl, B9.out⟩

theorem toPhase_any (ys : List Bool) (hl : ys.length = 8) (w : World) :
    Calls Try.prog 39 #[.agg (bl ys)] w fun e w' => e = .returned (.agg (bl ys)) ∧ Below w.heap.size w w' := by
  go_enter Try.func39, Try.ntmps39
  go_wp2
  go_loopw [4] (fun i wr => ∃ k : Nat, k ≤ 8 ∧ i = .int .i64 k ∧ wr = (((w.alloc (.cells (bl ys) 61)).alloc (.cells (bl (noes 8)) 69)).alloc (.cells (bl (cpB 8 ys k)) 69))) (fun i _ => 8 - (intOf i).toNat)
  case atStart => exact ⟨0, by omega, rfl, rfl⟩
  case round =>
    obtain ⟨k, hk, rfl, rfl⟩ := hrel
    by_cases hlt : k < 8
    · have g1 := bl_get (bs := ys) (k := k) (by omega)
      have g3 := bl_get (bs := cpB 8 ys k) (k := k) (by rw [cpB_len hl k hk]; exact hlt)
      go_wp2
      exact ⟨⟨k + 1, by omega, by go_num, by rw [bl_set, cpB_set hl hlt]⟩, by simp [intOf]; omega⟩
    · obtain rfl : k = 8 := by omega
      rw [cpB_all hl]
      have R0 : At (((w.alloc (.cells (bl ys) 61)).alloc (.cells (bl (noes 8)) 69)).alloc (.cells (bl ys) 69)) (w.heap.size + 1) (bl (noes 8)) 69 := (At.last1 w _ _ _).alloc _
      have L0 : At (((w.alloc (.cells (bl ys) 61)).alloc (.cells (bl (noes 8)) 69)).alloc (.cells (bl ys) 69)) (w.heap.size + 1 + 1) (bl ys) 69 := by
        have := At.new ((w.alloc (.cells (bl ys) 61)).alloc (.cells (bl (noes 8)) 69)) (bl ys) 69
        rwa [World.size_alloc, World.size_alloc] at this
      have B0 := Lib.hid (bnew (bnew (b0 w (.cells (bl ys) 61)) (.cells (bl (noes 8)) 69)) (.cells (bl ys) 69))
      generalize (((w.alloc (.cells (bl ys) 61)).alloc (.cells (bl (noes 8)) 69)).alloc (.cells (bl ys) 69)) = w1 at R0 L0 B0 ⊢
      have R9 := R0.setRow (bl ys)
      have B9 := Lib.hid (bset B0.out (g := w.heap.size + 1) (by omega) (bl ys))
      go_wp2_with (first | ((with_reducible refine is_load 69 _ rfl ?_); refine wpList_load_at rfl 69 _ rfl _ rfl (bl ys) _ (by with_reducible assumption) 8 (by rw [bl_size, hl]) _ Try.underlying69 rfl (by kernel_rfl) ?_) | ((with_reducible refine is_store 69 _ _ rfl ?_); refine wpList_store_at rfl 69 _ _ rfl _ rfl (bl ys) rfl (bl (noes 8)) _ (by with_reducible assumption) 8 (by rw [bl_size, hl]) (by rw [bl_size, noes_len]) (by kernel_rfl) (bl_one _) ?_))
      exact bodyPost_ret (v := .agg (bl ys)) (results_at (p := 2) (ty := 69) rfl _ _ _ (bl ys) _ rfl R9 _ Try.underlying69 rfl 8 (by rw [bl_size, hl]) (by kernel_rfl)) rfl ⟨rfl, B9.out⟩

theorem eqPhase_same (ys : List Bool) (hl : ys.length = 8) (w : World) :
    Calls Try.prog 73 #[.agg (bl ys), .agg (bl ys)] w fun e w' => e = .returned (.bool true) ∧ Below w.heap.size w w' := by
  go_enter Try.func73, Try.ntmps73
  go_wp2
  go_loopw [5] (fun i wr => ∃ k : Nat, k ≤ 8 ∧ i = .int .i64 k ∧ Two w (bl ys) 69 (bl ys) 69 wr) (fun i _ => 8 - (intOf i).toNat)
  case atStart => exact ⟨0, by omega, rfl, Two.mk _ _ _ _ _⟩
  case round =>
    obtain ⟨k, hk, rfl, hT⟩ := hrel
    by_cases hlt : k < 8
    · have g1 := hT.cell1 (bl_get (bs := ys) (k := k) (by omega))
      have g2 := hT.cell2 (bl_get (bs := ys) (k := k) (by omega))
      go_wp2
      go_quiet (fail)
      go_wp2
      exact ⟨⟨k + 1, by omega, by go_num, hT.drewN _⟩, by simp [intOf]; omega⟩
    · go_wp2
      go_ret
      exact ⟨rfl, hT.2.2⟩

theorem toTable_any (ts : List Bool) (hl : ts.length = 64) (w : World) :
    Calls Try.prog 35 #[.agg (bl ts)] w fun e w' => e = .returned (.agg (bl ts)) ∧ Below w.heap.size w w' := by
  have A0 : At (((w.alloc (.cells (bl ts) 62)).alloc (.cells (bl (noes 64)) 65)).alloc (.cells (bl (noes 64)) 65)) w.heap.size (bl ts) 62 := ((At.new w _ _).alloc _).alloc _
  have R0 : At (((w.alloc (.cells (bl ts) 62)).alloc (.cells (bl (noes 64)) 65)).alloc (.cells (bl (noes 64)) 65)) (w.heap.size + 1) (bl (noes 64)) 65 := (At.last1 w _ _ _).alloc _
  have L0 : At (((w.alloc (.cells (bl ts) 62)).alloc (.cells (bl (noes 64)) 65)).alloc (.cells (bl (noes 64)) 65)) (w.heap.size + 1 + 1) (bl (cpT ts 0)) 65 := by
    have := At.new ((w.alloc (.cells (bl ts) 62)).alloc (.cells (bl (noes 64)) 65)) (bl (noes 64)) 65
    rw [cpT_zero]
    rwa [World.size_alloc, World.size_alloc] at this
  have B0 := Lib.hid (bnew (bnew (b0 w (.cells (bl ts) 62)) (.cells (bl (noes 64)) 65)) (.cells (bl (noes 64)) 65))
  have SZ : (bl ts).size = 64 := by rw [bl_size, hl]
  go_enter Try.func35, Try.ntmps35
  go_wp2
  go_loopw [4] (fun i wr => ∃ k : Nat, k ≤ 8 ∧ i = .int .i64 k ∧ At wr w.heap.size (bl ts) 62 ∧ At wr (w.heap.size + 1) (bl (noes 64)) 65 ∧ At wr (w.heap.size + 1 + 1) (bl (cpT ts k)) 65 ∧ Hid (Below w.heap.size w wr)) (fun i _ => 8 - (intOf i).toNat)
  case atStart => exact ⟨0, by omega, rfl, A0, R0, L0, B0⟩
  case round =>
    clear A0 R0 L0 B0
    obtain ⟨k, hk, rfl, A1, R1, L1, B1⟩ := hrel
    by_cases hlt : k < 8
    · have rl := row8_len hl hlt
      have s2 : IntKind.i64.wrap ((k : Int) + 1) = (k : Int) + 1 := IntWalk.i64_in _ (by omega)
      go_wp2_with (((with_reducible refine is_load 61 _ rfl ?_); refine wpList_load_part rfl 61 _ rfl _ _ rfl (bl ts) _ (by with_reducible assumption) 8 (by rw [SZ]; omega) _ Try.underlying61 rfl (by kernel_rfl) (bl (row8 ts k)) (bl_row hl hlt (by omega)) ?_))
      refine (toBoolA8_any (row8 ts k) rl _).mono ?_
      rintro e w2 ⟨rfl, hb2⟩
      have A2 := A1.step hb2
      have R2 := R1.step hb2
      have L2 := L1.step hb2
      have B2 := Lib.hid (bthen B1.out hb2)
      clear A1 R1 L1 B1 hb2
      have A3 := A2.setRow_other (k := w.heap.size + 1 + 1) (by omega) (bl (cpT ts (k + 1)))
      have R3 := R2.setRow_other (k := w.heap.size + 1 + 1) (by omega) (bl (cpT ts (k + 1)))
      have L3 := L2.setRow (bl (cpT ts (k + 1)))
      have B3 := Lib.hid (bset B2.out (g := w.heap.size + 1 + 1) (by omega) (bl (cpT ts (k + 1))))
      go_wp2_with (((with_reducible refine is_store 61 _ _ rfl ?_); refine wpList_store_part rfl 61 _ _ rfl _ _ rfl (bl (row8 ts k)) rfl (bl (cpT ts k)) _ (by with_reducible assumption) 8 (by rw [bl_size, rl]) (by rw [bl_size, cpT_len hl (by omega)]; omega) (by kernel_rfl) (bl_one _) (bl (cpT ts (k + 1))) (cpT_splice hl hlt (by omega)) ?_))
      exact ⟨⟨k + 1, by omega, by go_num, A3, R3, L3, B3⟩, by simp [intOf]; omega⟩
    · obtain rfl : k = 8 := by omega
      rw [cpT_all hl] at L1
      have R9 := R1.setRow (bl ts)
      have B9 := Lib.hid (bset B1.out (g := w.heap.size + 1) (by omega) (bl ts))
      go_wp2_with (first | ((with_reducible refine is_load 65 _ rfl ?_); refine wpList_load_at rfl 65 _ rfl _ rfl (bl ts) _ (by with_reducible assumption) 64 (SZ) _ Try.underlying65 rfl (by kernel_rfl) ?_) | ((with_reducible refine is_store 65 _ _ rfl ?_); refine wpList_store_at rfl 65 _ _ rfl _ rfl (bl ts) rfl (bl (noes 64)) _ (by with_reducible assumption) 64 (SZ) (by rw [bl_size, noes_len]) (by kernel_rfl) (bl_one _) ?_))
      exact bodyPost_ret (v := .agg (bl ts)) (results_at (p := 2) (ty := 65) rfl _ _ _ (bl ts) _ rfl R9 _ Try.underlying65 rfl 64 SZ (by kernel_rfl)) rfl ⟨rfl, B9.out⟩

theorem cell_bool {W : World} {r : Reach} {base : Nat} {v : Value} (h : Cell.okWide Try.prog W r base 4 v) : ∃ x, v = .bool x := by
  have h1 : Value.okWide Try.prog W r base 4 v := by simpa [Value.okWide, Try.underlying4] using h
  exact okWide_bool Try.underlying4 h1
/-- an aggregate whose cells are all yes or no -/
theorem shape_bl {W : World} {r : Reach} {base : Nat} {v : Value} {T n : Nat} {d : TypeDesc} (hu : Try.prog.underlying T = some d) (hd : (match d with | .struct _ | .array _ _ => true | _ => false) = true) (hc : Try.prog.cellsOf T = n)
    (ht : Try.prog.cellTypes Try.prog.depth T = some (List.replicate n 4)) (h : Value.okWide Try.prog W r base T v) : ∃ xs : List Bool, v = .agg (bl xs) ∧ xs.length = n := by
  have h' : ∃ cs, v = .agg cs ∧ cs.size = Try.prog.cellsOf T ∧ Row.okWide Try.prog W r base T cs := by
    unfold Value.okWide at h
    rw [hu] at h
    cases d <;> simp_all
  obtain ⟨cs, rfl, hsz, ts, hts, -, hcell⟩ := h'
  rw [ht] at hts
  obtain rfl := Option.some.inj hts
  rw [hc] at hsz
  have hx : ∀ i (hi : i < cs.size), ∃ x, cs[i] = .bool x := by
    intro i hi
    obtain ⟨u, hu, hok⟩ := hcell i cs[i] (Array.getElem?_eq_getElem hi)
    rw [List.length_replicate, Nat.mod_eq_of_lt (by omega), List.getElem?_replicate, if_pos (by omega)] at hu
    obtain rfl := Option.some.inj hu
    exact cell_bool hok
  refine ⟨cs.toList.map fun v => (match v with | .bool x => x | _ => false), ?_, by simp [hsz]⟩
  congr 1
  apply Array.ext'
  simp only [bl, List.map_map]
  apply List.ext_getElem
  · simp
  · intro i h1 h2
    obtain ⟨x, hx1⟩ := hx i (by simpa using h1)
    simp [hx1]

end Go.Proofs.Ytboahhipobcabab
