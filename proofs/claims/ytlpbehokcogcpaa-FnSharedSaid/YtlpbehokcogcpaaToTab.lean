/-
  CONTRACTS: phases and tables, a law's made the program's, and held against each other; their shapes.
-/
import Derived.Test.YtlpbehokcogcpaaBl
import Derived.Test.YtlpbehokcogcpaaEq
import Derived.Test.YtlpbehokcogcpaaMix
import Derived.Test.YtlpbehokcogcpaaG2
import Derived.Test.YtlpbehokcogcpaaJn
import Derived.Test.YtlpbehokcogcpaaLaw
import Derived.Deep.LoopGhost
import Derived.IntWalk
namespace Go.Proofs.Ytlpbehokcogcpaa
open Go Go.ChangeShapes Go.WideShapes Go.ChangeAt Go.RowKit
set_option maxRecDepth 100000

theorem toPhase_any (ys : List Bool) (hl : ys.length = 8) (w : World) :
    Calls Try.prog 22 #[.agg (bl ys)] w fun e w' => e = .returned (.agg (bl ys)) ∧ Below w.heap.size w w' := by
  go_enter Try.func22, Try.ntmps22
  go_wp2
  go_loopw [4] (fun i wr => ∃ k : Nat, k ≤ 8 ∧ i = .int .i64 k ∧ wr = (((w.alloc (.cells (bl ys) 42)).alloc (.cells (bl (noes 8)) 43)).alloc (.cells (bl (cpB 8 ys k)) 43))) (fun i _ => 8 - (intOf i).toNat)
  case atStart => exact ⟨0, by omega, rfl, rfl⟩
  case round =>
    obtain ⟨k, hk, rfl, rfl⟩ := hrel
    by_cases hlt : k < 8
    · have g1 := bl_get (bs := ys) (k := k) (by omega)
      have g3 := bl_get (bs := cpB 8 ys k) (k := k) (by rw [cpB_len hl k hk]; exact hlt)
      go_wp2
      exact ⟨⟨k + 1, by omega, by go_num, by rw [bl_set, cpB_set hl hlt]⟩, by simp [intOf]; omega⟩
    · obtain rfl : k = 8 := by omega
      rw [cpB_all hl]
      have R0 : At (((w.alloc (.cells (bl ys) 42)).alloc (.cells (bl (noes 8)) 43)).alloc (.cells (bl ys) 43)) (w.heap.size + 1) (bl (noes 8)) 43 := (At.last1 w _ _ _).alloc _
      have L0 : At (((w.alloc (.cells (bl ys) 42)).alloc (.cells (bl (noes 8)) 43)).alloc (.cells (bl ys) 43)) (w.heap.size + 1 + 1) (bl ys) 43 := by
        have := At.new ((w.alloc (.cells (bl ys) 42)).alloc (.cells (bl (noes 8)) 43)) (bl ys) 43
        rwa [World.size_alloc, World.size_alloc] at this
      have B0 := Lib.hid (bnew (bnew (b0 w (.cells (bl ys) 42)) (.cells (bl (noes 8)) 43)) (.cells (bl ys) 43))
      generalize (((w.alloc (.cells (bl ys) 42)).alloc (.cells (bl (noes 8)) 43)).alloc (.cells (bl ys) 43)) = w1 at R0 L0 B0 ⊢
      have R9 := R0.setRow (bl ys)
      have B9 := Lib.hid (bset B0.out (g := w.heap.size + 1) (by omega) (bl ys))
      go_wp2_with (first | ((with_reducible refine is_load 43 _ rfl ?_); refine wpList_load_at rfl 43 _ rfl _ rfl (bl ys) _ (by with_reducible assumption) 8 (by rw [bl_size, hl]) _ Try.underlying43 rfl (by kernel_rfl) ?_) | ((with_reducible refine is_store 43 _ _ rfl ?_); refine wpList_store_at rfl 43 _ _ rfl _ rfl (bl ys) rfl (bl (noes 8)) _ (by with_reducible assumption) 8 (by rw [bl_size, hl]) (by rw [bl_size, noes_len]) (by kernel_rfl) (bl_one _) ?_))
      exact bodyPost_ret (v := .agg (bl ys)) (results_at (p := 2) (ty := 43) rfl _ _ _ (bl ys) _ rfl R9 _ Try.underlying43 rfl 8 (by rw [bl_size, hl]) (by kernel_rfl)) rfl ⟨rfl, B9.out⟩

theorem eqPhase_same (ys : List Bool) (hl : ys.length = 8) (w : World) :
    Calls Try.prog 30 #[.agg (bl ys), .agg (bl ys)] w fun e w' => e = .returned (.bool true) ∧ Below w.heap.size w w' := by
  go_enter Try.func30, Try.ntmps30
  go_wp2
  go_loopw [5] (fun i wr => ∃ k : Nat, k ≤ 8 ∧ i = .int .i64 k ∧ Two w (bl ys) 43 (bl ys) 43 wr) (fun i _ => 8 - (intOf i).toNat)
  case atStart => exact ⟨0, by omega, rfl, Two.mk _ _ _ _ _⟩
  case round =>
    obtain ⟨k, hk, rfl, hT⟩ := hrel
    by_cases hlt : k < 8
    · have g1 := hT.cell1 (bl_get (bs := ys) (k := k) (by omega))
      have g2 := hT.cell2 (bl_get (bs := ys) (k := k) (by omega))
      go_wp2
      go_quiet (fail)
      go_wp2
      exact ⟨⟨k + 1, by omega, by go_num, hT.drewN _⟩, by simp [intOf]; omega⟩
    · go_wp2
      go_ret
      exact ⟨rfl, hT.2.2⟩

theorem cell_bool {W : World} {r : Reach} {base : Nat} {v : Value} (h : Cell.okWide Try.prog W r base 4 v) : ∃ x, v = .bool x := by
  have h1 : Value.okWide Try.prog W r base 4 v := by simpa [Value.okWide, Try.underlying4] using h
  exact okWide_bool Try.underlying4 h1
/-- an aggregate whose cells are all yes or no -/
theorem shape_bl {W : World} {r : Reach} {base : Nat} {v : Value} {T n : Nat} {d : TypeDesc} (hu : Try.prog.underlying T = some d) (hd : (match d with | .struct _ | .array _ _ => true | _ => false) = true) (hc : Try.prog.cellsOf T = n)
    (ht : Try.prog.cellTypes Try.prog.depth T = some (List.replicate n 4)) (h : Value.okWide Try.prog W r base T v) : ∃ xs : List Bool, v = .agg (bl xs) ∧ xs.length = n := by
  have h' : ∃ cs, v = .agg cs ∧ cs.size = Try.prog.cellsOf T ∧ Row.okWide Try.prog W r base T cs := by
    unfold Value.okWide at h
    rw [hu] at h
    cases d <;> simp_all
  obtain ⟨cs, rfl, hsz, ts, hts, -, hcell⟩ := h'
  rw [ht] at hts
  obtain rfl := Option.some.inj hts
  rw [hc] at hsz
  have hx : ∀ i (hi : i < cs.size), ∃ x, cs[i] = .bool x := by
    intro i hi
    obtain ⟨u, hu, hok⟩ := hcell i cs[i] (Array.getElem?_eq_getElem hi)
    rw [List.length_replicate, Nat.mod_eq_of_lt (by omega), List.getElem?_replicate, if_pos (by omega)] at hu
    obtain rfl := Option.some.inj hu
    exact cell_bool hok
  refine ⟨cs.toList.map fun v => (match v with | .bool x => x | _ => false), ?_, by simp [hsz]⟩
  congr 1
  apply Array.ext'
  simp only [bl, List.map_map]
  apply List.ext_getElem
  · simp
  · intro i h1 h2
    obtain ⟨x, hx1⟩ := hx i (by simpa using h1)
    simp [hx1]

end Go.Proofs.Ytlpbehokcogcpaa
