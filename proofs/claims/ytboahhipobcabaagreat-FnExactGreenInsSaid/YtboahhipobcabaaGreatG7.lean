/-
  SEVERAL TEXTS IN ONE.
-/
import Derived.Test.YtboahhipobcabaaGreatG3
import Derived.Test.YtboahhipobcabaaGreatG5
import Derived.Test.YtboahhipobcabaaGreatG6
import Derived.Deep.LoopGhost
import Derived.IntWalk

/-
  CONTRACTS: phases and tables, a law's made the program's, and held against each other; their shapes.
-/
namespace Go.Proofs.YtboahhipobcabaaGreat
open Go Go.ChangeShapes Go.WideShapes Go.ChangeAt Go.RowKit
set_option maxRecDepth 100000

theorem toPhase_any (ys : List Bool) (hl : ys.length = 8) (w : World) :
    Calls Tryz.prog 163 #[.agg (bl ys)] w fun e w' => e = .returned (.agg (bl ys)) ∧ Below w.heap.size w w' := by
  go_enter Tryz.func163, Tryz.ntmps163
  go_wp2
  go_loopw [4] (fun i wr => ∃ k : Nat, k ≤ 8 ∧ i = .int .i64 k ∧ wr = (((w.alloc (.cells (bl ys) 52)).alloc (.cells (bl (noes 8)) 53)).alloc (.cells (bl (cpB 8 ys k)) 53))) (fun i _ => 8 - (intOf i).toNat)
  case atStart => exact ⟨0, by omega, rfl, rfl⟩
  case round =>
    obtain ⟨k, hk, rfl, rfl⟩ := hrel
    by_cases hlt : k < 8
    · have g1 := bl_get (bs := ys) (k := k) (by omega)
      have g3 := bl_get (bs := cpB 8 ys k) (k := k) (by rw [cpB_len hl k hk]; exact hlt)
      go_wp2
      exact ⟨⟨k + 1, by omega, by go_num, by rw [bl_set, cpB_set hl hlt]⟩, by simp [intOf]; omega⟩
    · obtain rfl : k = 8 := by omega
      rw [cpB_all hl]
      have R0 : At (((w.alloc (.cells (bl ys) 52)).alloc (.cells (bl (noes 8)) 53)).alloc (.cells (bl ys) 53)) (w.heap.size + 1) (bl (noes 8)) 53 := (At.last1 w _ _ _).alloc _
      have L0 : At (((w.alloc (.cells (bl ys) 52)).alloc (.cells (bl (noes 8)) 53)).alloc (.cells (bl ys) 53)) (w.heap.size + 1 + 1) (bl ys) 53 := by
        have := At.new ((w.alloc (.cells (bl ys) 52)).alloc (.cells (bl (noes 8)) 53)) (bl ys) 53
        rwa [World.size_alloc, World.size_alloc] at this
      have B0 := Lib.hid (bnew (bnew (b0 w (.cells (bl ys) 52)) (.cells (bl (noes 8)) 53)) (.cells (bl ys) 53))
      generalize (((w.alloc (.cells (bl ys) 52)).alloc (.cells (bl (noes 8)) 53)).alloc (.cells (bl ys) 53)) = w1 at R0 L0 B0 ⊢
      have R9 := R0.setRow (bl ys)
      have B9 := Lib.hid (bset B0.out (g := w.heap.size + 1) (by omega) (bl ys))
      go_wp2_with (first | ((with_reducible refine is_load 53 _ rfl ?_); refine wpList_load_at rfl 53 _ rfl _ rfl (bl ys) _ (by with_reducible assumption) 8 (by rw [bl_size, hl]) _ Tryz.underlying53 rfl (by kernel_rfl) ?_) | ((with_reducible refine is_store 53 _ _ rfl ?_); refine wpList_store_at rfl 53 _ _ rfl _ rfl (bl ys) rfl (bl (noes 8)) _ (by with_reducible assumption) 8 (by rw [bl_size, hl]) (by rw [bl_size, noes_len]) (by kernel_rfl) (bl_one _) ?_))
      exact bodyPost_ret (v := .agg (bl ys)) (results_at (p := 2) (ty := 53) rfl _ _ _ (bl ys) _ rfl R9 _ Tryz.underlying53 rfl 8 (by rw [bl_size, hl]) (by kernel_rfl)) rfl ⟨rfl, B9.out⟩

theorem eqPhase_same (ys : List Bool) (hl : ys.length = 8) (w : World) :
    Calls Tryz.prog 165 #[.agg (bl ys), .agg (bl ys)] w fun e w' => e = .returned (.bool true) ∧ Below w.heap.size w w' := by
  go_enter Tryz.func165, Tryz.ntmps165
  go_wp2
  go_loopw [5] (fun i wr => ∃ k : Nat, k ≤ 8 ∧ i = .int .i64 k ∧ Two w (bl ys) 53 (bl ys) 53 wr) (fun i _ => 8 - (intOf i).toNat)
  case atStart => exact ⟨0, by omega, rfl, Two.mk _ _ _ _ _⟩
  case round =>
    obtain ⟨k, hk, rfl, hT⟩ := hrel
    by_cases hlt : k < 8
    · have g1 := hT.cell1 (bl_get (bs := ys) (k := k) (by omega))
      have g2 := hT.cell2 (bl_get (bs := ys) (k := k) (by omega))
      go_wp2
      go_quiet (fail)
      go_wp2
      exact ⟨⟨k + 1, by omega, by go_num, hT.drewN _⟩, by simp [intOf]; omega⟩
    · go_wp2
      go_ret
      exact ⟨rfl, hT.2.2⟩

theorem cell_bool {W : World} {r : Reach} {base : Nat} {v : Value} (h : Cell.okWide Tryz.prog W r base 4 v) : ∃ x, v = .bool x := by
  have h1 : Value.okWide Tryz.prog W r base 4 v := by simpa [Value.okWide, Tryz.underlying4] using h
  exact okWide_bool Tryz.underlying4 h1
/-- an aggregate whose cells are all yes or no -/
theorem shape_bl {W : World} {r : Reach} {base : Nat} {v : Value} {T n : Nat} {d : TypeDesc} (hu : Tryz.prog.underlying T = some d) (hd : (match d with | .struct _ | .array _ _ => true | _ => false) = true) (hc : Tryz.prog.cellsOf T = n)
    (ht : Tryz.prog.cellTypes Tryz.prog.depth T = some (List.replicate n 4)) (h : Value.okWide Tryz.prog W r base T v) : ∃ xs : List Bool, v = .agg (bl xs) ∧ xs.length = n := by
  have h' : ∃ cs, v = .agg cs ∧ cs.size = Tryz.prog.cellsOf T ∧ Row.okWide Tryz.prog W r base T cs := by
    unfold Value.okWide at h
    rw [hu] at h
    cases d <;> simp_all
  obtain ⟨cs, rfl, hsz, ts, hts, -, hcell⟩ := h'
  rw [ht] at hts
  obtain rfl := Option.some.inj hts
  rw [hc] at hsz
  have hx : ∀ i (hi : i < cs.size), ∃ x, cs[i] = .bool x := by
    intro i hi
    obtain ⟨u, hu, hok⟩ := hcell i cs[i] (Array.getElem?_eq_getElem hi)
    rw [List.length_replicate, Nat.mod_eq_of_lt (by omega), List.getElem?_replicate, if_pos (by omega)] at hu
    obtain rfl := Option.some.inj hu
    exact cell_bool hok
  refine ⟨cs.toList.map fun v => (match v with | .bool x => x | _ => false), ?_, by simp [hsz]⟩
  congr 1
  apply Array.ext'
  simp only [bl, List.map_map]
  apply List.ext_getElem
  · simp
  · intro i h1 h2
    obtain ⟨x, hx1⟩ := hx i (by simpa using h1)
    simp [hx1]

end Go.Proofs.YtboahhipobcabaaGreat

/-
  ROWS OF SLOTS IN MEMORY: a phase of eight movements and a number of ticks each.
  No Go text in it. Conditions: those of each theorem.
-/
namespace Go.Proofs.YtboahhipobcabaaGreat
open Go Go.RowKit

abbrev Slots := List (List Bool × Int)
def sb (xs : Slots) (i : Nat) : List Bool := (xs.getD i ([], 0)).1
def st (xs : Slots) (i : Nat) : Int := (xs.getD i ([], 0)).2
/-- a slot's cells -/
def sl1 (b : List Bool) (t : Int) : Array Value := bl b ++ #[.int .i64 t]
def sll (s : List Bool × Int) : List Value := s.1.map Value.bool ++ [.int .i64 s.2]
/-- the cells of slots in a row -/
def slC (xs : Slots) : Array Value := (xs.flatMap sll).toArray
def I64 (t : Int) : Prop := -9223372036854775808 ≤ t ∧ t ≤ 9223372036854775807
/-- every phase has eight movements, every number fits its word -/
def SlW (xs : Slots) : Prop := ∀ s ∈ xs, s.1.length = 8 ∧ I64 s.2
theorem sl1_list (b : List Bool) (t : Int) : (sl1 b t).toList = sll (b, t) := by simp [sl1, sll, bl]
theorem sl1_size {b : List Bool} (h : b.length = 8) (t : Int) : (sl1 b t).size = 9 := by simp [sl1, bl_size, h]
theorem sl1_green {b : List Bool} (h : b.length = 8) (t : Int) {j : Nat} (hj : j < 8) : (sl1 b t)[j]? = some (.bool (bn b j)) := by
  unfold sl1; rw [Array.getElem?_append_left (by rw [bl_size]; omega)]; exact bl_get (by omega)
theorem sl1_ticks {b : List Bool} (h : b.length = 8) (t : Int) : (sl1 b t)[8]? = some (.int .i64 t) := by
  unfold sl1; rw [Array.getElem?_append_right (by rw [bl_size]; omega), bl_size, h]; rfl
theorem sl1_one (b : List Bool) (t : Int) : (sl1 b t).all (·.oneCell') = true := by
  unfold sl1; rw [Array.all_append, bl_one]; simp [Value.oneCell']
theorem sl1_phase {b : List Bool} (h : b.length = 8) (t : Int) : (sl1 b t).extract 0 (0 + 8) = bl b := by
  apply Array.ext'
  simp [sl1, bl, h]
theorem sl1_setT {b : List Bool} (h : b.length = 8) (t t' : Int) : (sl1 b t).setIfInBounds 8 (.int .i64 t') = sl1 b t' := by
  apply Array.ext'
  simp [sl1, bl, h]
theorem sl1_spliceG {b b' : List Bool} (h : b.length = 8) (h' : b'.length = 8) (t : Int) : splice (sl1 b t) 0 (bl b') = sl1 b' t := by
  apply Array.ext'
  simp [splice, sl1, bl, h, h']
section
variable {xs : Slots}
theorem SlW.tail {s : List Bool × Int} (h : SlW (s :: xs)) : SlW xs := fun x hx => h x (by simp [hx])
theorem SlW.at (h : SlW xs) {i : Nat} (hi : i < xs.length) : (sb xs i).length = 8 ∧ I64 (st xs i) := by
  have e : xs.getD i ([], 0) = xs[i] := by rw [List.getD_eq_getElem?_getD, List.getElem?_eq_getElem hi]; rfl
  unfold sb st
  rw [e]
  exact h _ (List.getElem_mem hi)
theorem sll_len {s : List Bool × Int} (h : s.1.length = 8) : (sll s).length = 9 := by simp [sll, h]
theorem slL_len (h : SlW xs) : (xs.flatMap sll).length = xs.length * 9 := by
  induction xs with
  | nil => rfl
  | cons s xs ih =>
    rw [List.flatMap_cons, List.length_append, ih h.tail, sll_len (h s (by simp)).1, List.length_cons]; omega
theorem slC_size (h : SlW xs) : (slC xs).size = xs.length * 9 := by unfold slC; rw [List.size_toArray, slL_len h]
theorem slL_get (h : SlW xs) {i j : Nat} (hi : i < xs.length) (hj : j < 9) : (xs.flatMap sll)[i * 9 + j]? = (sll (xs.getD i ([], 0)))[j]? := by
  induction xs generalizing i with
  | nil => simp at hi
  | cons s xs ih =>
    have hs := sll_len (h s (by simp)).1
    rw [List.flatMap_cons]
    cases i with
    | zero => rw [Nat.zero_mul, Nat.zero_add, List.getElem?_append_left (by omega)]; rfl
    | succ i =>
      rw [List.getElem?_append_right (by omega), hs, show (i + 1) * 9 + j - 9 = i * 9 + j from by omega, ih h.tail (by simpa using hi)]
      rfl
theorem slC_get (h : SlW xs) {i j : Nat} (hi : i < xs.length) (hj : j < 9) : (slC xs)[i * 9 + j]? = (sl1 (sb xs i) (st xs i))[j]? := by
  have := slL_get h hi hj
  rw [← Array.getElem?_toList, ← Array.getElem?_toList, sl1_list]
  exact this
theorem slC_green (h : SlW xs) {i j k : Nat} (hi : i < xs.length) (hj : j < 8) (hk : k = i * 9 + j) : (slC xs)[k]? = some (.bool (bn (sb xs i) j)) := by
  subst hk; rw [slC_get h hi (by omega)]; exact sl1_green (h.at hi).1 _ hj
theorem slC_ticks (h : SlW xs) {i k : Nat} (hi : i < xs.length) (hk : k = i * 9 + 8) : (slC xs)[k]? = some (.int .i64 (st xs i)) := by
  subst hk; rw [slC_get h hi (by omega)]; exact sl1_ticks (h.at hi).1 _
theorem slC_slot (h : SlW xs) {i k : Nat} (hi : i < xs.length) (hk : k = i * 9) : (slC xs).extract k (k + 9) = sl1 (sb xs i) (st xs i) := by
  subst hk
  have hs := slC_size h
  apply Array.ext_getElem?
  intro j
  rw [Array.getElem?_extract]
  by_cases c : j < 9
  · rw [if_pos (by omega), slC_get h hi c]
  · rw [if_neg (by omega), Array.getElem?_eq_none (by rw [sl1_size (h.at hi).1]; omega)]
theorem slC_phase (h : SlW xs) {i k : Nat} (hi : i < xs.length) (hk : k = i * 9) : (slC xs).extract k (k + 8) = bl (sb xs i) := by
  subst hk
  have hs := slC_size h
  have hb := (h.at hi).1
  apply Array.ext_getElem?
  intro j
  rw [Array.getElem?_extract]
  by_cases c : j < 8
  · rw [if_pos (by omega), slC_get h hi (by omega), sl1_green hb _ c, bl_get (by omega)]
  · rw [if_neg (by omega), Array.getElem?_eq_none (by rw [bl_size, hb]; omega)]
end
theorem slC_one (xs : Slots) : (slC xs).all (·.oneCell') = true := by
  unfold slC
  rw [List.all_toArray, List.all_eq_true]
  intro v hv
  obtain ⟨s, -, hs⟩ := List.mem_flatMap.1 hv
  simp only [sll, List.mem_append, List.mem_map, List.mem_singleton] at hs
  rcases hs with ⟨b, -, rfl⟩ | rfl <;> rfl
/-- no slot at all, n times -/
def slZ (n : Nat) : Slots := List.replicate n (noes 8, 0)
/-- what a copy of n slots has after k -/
def cpS (n : Nat) (xs : Slots) (k : Nat) : Slots := xs.take k ++ List.replicate (n - k) (noes 8, 0)
theorem slZ_w (n : Nat) : SlW (slZ n) := fun s hs => by
  obtain rfl := (List.mem_replicate.1 hs).2
  exact ⟨noes_len 8, by unfold I64; simp⟩
theorem cpS_w {xs : Slots} (h : SlW xs) (n k : Nat) : SlW (cpS n xs k) := fun s hs => by
  rcases List.mem_append.1 hs with hs | hs
  · exact h s (List.mem_of_mem_take hs)
  · obtain rfl := (List.mem_replicate.1 hs).2
    exact ⟨noes_len 8, by unfold I64; simp⟩
theorem cpS_len {n : Nat} {xs : Slots} (h : xs.length = n) {k : Nat} (hk : k ≤ n) : (cpS n xs k).length = n := by simp [cpS, h]; omega
theorem cpS_zero (n : Nat) (xs : Slots) : cpS n xs 0 = slZ n := by simp [cpS, slZ]
theorem cpS_all {n : Nat} {xs : Slots} (h : xs.length = n) : cpS n xs n = xs := by simp [cpS, ← h]
theorem cpS_splice {n : Nat} {xs : Slots} (hW : SlW xs) (h : xs.length = n) {k off : Nat} (hk : k < n) (ho : off = k * 9) : splice (slC (cpS n xs k)) off (sl1 (sb xs k) (st xs k)) = slC (cpS n xs (k + 1)) := by
  subst ho
  have e : xs.getD k ([], 0) = xs[k]'(by omega) := by rw [List.getD_eq_getElem?_getD, List.getElem?_eq_getElem (by omega)]; rfl
  have hT : (List.flatMap sll (xs.take k)).length = k * 9 := by rw [slL_len (fun s hs => hW s (List.mem_of_mem_take hs)), List.length_take]; congr 1; omega
  have hb := (hW.at (i := k) (by omega)).1
  apply Array.ext'
  unfold splice
  simp only [slC, sl1_size hb]
  rw [sl1_list]
  unfold cpS
  rw [show n - k = (n - (k + 1)) + 1 from by omega, List.replicate_succ, List.flatMap_append, List.flatMap_append, List.flatMap_cons, List.take_succ_eq_append_getElem (by omega), List.flatMap_append]
  have h0 : (sll (noes 8, 0)).length = 9 := sll_len (noes_len 8)
  rw [List.take_append_of_le_length (by omega), List.take_of_length_le (by omega), List.drop_append, List.drop_eq_nil_of_le (by omega), List.nil_append, hT, show k * 9 + 9 - k * 9 = 9 from by omega,
    List.drop_append, List.drop_eq_nil_of_le (by omega), List.nil_append, h0, Nat.sub_self, List.drop_zero]
  simp only [sb, st, e, List.flatMap_cons, List.flatMap_nil, List.append_nil]
end Go.Proofs.YtboahhipobcabaaGreat
