/-
  CONTRACTS: slices of slots of one's own.
-/
import Derived.Test.YtldchcjnepnjnaaG6
import Derived.Test.YtldchcjnepnjnaaOneCell
import Derived.Laws.AppendOwn
import Derived.Great.BuildSlice
namespace Go.Proofs.Ytldchcjnepnjnaa
open Go Go.ChangeShapes Go.WideShapes Go.ChangeAt Go.RowKit
set_option maxRecDepth 100000

/-- cells of slots, as a list -/
def slL (xs : Slots) : List Value := xs.flatMap sll

theorem slL_toC (xs : Slots) : (slL xs).toArray = slC xs := rfl

theorem slL_length {xs : Slots} (h : SlW xs) : (slL xs).length = xs.length * 9 := slL_len h

theorem slL_at {xs : Slots} (h : SlW xs) {i j : Nat} (hi : i < xs.length) (hj : j < 9) : (slL xs)[i * 9 + j]? = (sl1 (sb xs i) (st xs i))[j]? := by
  have := slC_get h hi hj
  rw [← Array.getElem?_toList] at this
  exact this

theorem sll_one (s : List Bool × Int) : ∀ u ∈ sll s, u.oneCell' = true := by
  intro u hu
  unfold sll at hu
  rcases List.mem_append.1 hu with h | h
  · obtain ⟨b, -, rfl⟩ := List.mem_map.1 h
    rfl
  · simp only [List.mem_singleton] at h
    subst h
    rfl

theorem slL_one (xs : Slots) : ∀ u ∈ slL xs, u.oneCell' = true := by
  intro u hu
  obtain ⟨s, -, hs⟩ := List.mem_flatMap.1 hu
  exact sll_one s u hs

/-- v is a slice of the slots xs, in memory from block lo on -/
def OwnSl (w : World) (lo : Nat) (v : Value) (xs : Slots) : Prop := w.ownsRow lo 40 9 v xs.length (slL xs)
section
variable {w w' : World} {lo : Nat} {v : Value} {xs : Slots}
theorem OwnSl.nil (w : World) (lo : Nat) : OwnSl w lo (.slice none 0 0) [] := ⟨rfl, .inl ⟨rfl, rfl⟩⟩

theorem OwnSl.step (h : OwnSl w lo v xs) (hb : Below w.heap.size w w') : OwnSl w' lo v xs := by
  refine ⟨h.1, h.2.imp id ?_⟩
  rintro ⟨g, cap, cur, rfl, h1, h2, h3, h4, h5, h6⟩
  have hl : g < w.heap.size := (Array.getElem?_eq_some_iff.1 h2).1
  exact ⟨g, cap, cur, rfl, h1, (hb.block g hl).trans h2, h3, h4, h5, h6⟩

theorem OwnSl.low {lo' : Nat} (h : OwnSl w lo v xs) (hl : lo' ≤ lo) : OwnSl w lo' v xs := by
  refine ⟨h.1, h.2.imp id ?_⟩
  rintro ⟨g, cap, cur, rfl, h1, h2⟩
  exact ⟨g, cap, cur, rfl, by omega, h2⟩

theorem OwnSl.any (h : OwnSl w lo v xs) : ∃ a cap, v = .slice a xs.length cap := by
  rcases h.2 with ⟨rfl, e⟩ | ⟨g, cap, cur, rfl, -⟩
  · exact ⟨none, 0, by rw [e]⟩
  · exact ⟨_, cap, rfl⟩

theorem OwnSl.block (h : OwnSl w lo v xs) : ∀ k, v.ownBlock = some k → lo ≤ k ∧ k < w.heap.size := by
  intro k hk
  rcases h.2 with ⟨rfl, -⟩ | ⟨g, cap, cur, rfl, h1, h2, -⟩
  · cases hk
  · have e : g = k := by simpa [Value.ownBlock] using hk
    have hl : g < w.heap.size := (Array.getElem?_eq_some_iff.1 h2).1
    omega

theorem OwnSl.setRow_other (h : OwnSl w lo v xs) {g : Nat} (hne : ∀ k, v.ownBlock = some k → k ≠ g) (c : Array Value) : OwnSl (w.setRow g c) lo v xs := by
  refine ⟨h.1, h.2.imp id ?_⟩
  rintro ⟨g', cap, cur, rfl, h1, h2, h3, h4, h5, h6⟩
  exact ⟨g', cap, cur, rfl, h1, (heap_setRow_other _ _ _ _ (hne g' rfl)).trans h2, h3, h4, h5, h6⟩

theorem OwnSl.alloc (h : OwnSl w lo v xs) (o : Obj) : OwnSl (w.alloc o) lo v xs := h.step (b0 w o)

/-- what is known of a slice that is not empty -/
theorem OwnSl.at (h : OwnSl w lo v xs) (hn : xs.length ≠ 0) : ∃ g cap cur, v = .slice (some ⟨g, 0, none⟩) xs.length cap ∧ lo ≤ g ∧ At w g cur 40 ∧ xs.length ≤ cap ∧ xs.length * 9 ≤ cur.size ∧ ∀ p, p < xs.length * 9 → cur[p]? = (slL xs)[p]? := by
  rcases h.2 with ⟨-, h0⟩ | ⟨g, cap, cur, rfl, h1, h2, h3, h4, h5, h6⟩
  · exact absurd h0 hn
  · refine ⟨g, cap, cur, rfl, h1, h2, h3, by omega, fun p hp => ?_⟩
    rw [← h6, List.getElem?_take_of_lt hp, Array.getElem?_toList]

theorem OwnSl.st (h : OwnSl w lo v xs) (hW : SlW xs) (hm : xs.length ≤ maxLen) : SSl w v xs := by
  refine ⟨?_, hW, hm⟩
  by_cases z : xs.length = 0
  · obtain rfl := List.length_eq_zero_iff.1 z
    obtain ⟨a, cap, rfl⟩ := h.any
    exact .inl ⟨rfl, a, cap, rfl⟩
  · obtain ⟨g, cap, cur, rfl, -, hA, -, -, hc⟩ := h.at z
    refine .inr ⟨g, 0, cap, rfl, hA.lt, fun i hi j hj => ?_⟩
    rw [cell_of_row _ _ _ _ _ _ hA, Nat.zero_add, hc _ (by omega), slL_at hW hi hj]
end

theorem SSl.of_at {w : World} {g cap : Nat} {xs : Slots} {T : TypeId} (h : At w g (slC xs) T) (hW : SlW xs) (hm : xs.length ≤ maxLen) : SSl w (.slice (some ⟨g, 0, none⟩) xs.length cap) xs :=
  ⟨.inr ⟨g, 0, cap, rfl, h.lt, fun i hi j hj => by rw [cell_of_row _ _ _ _ _ _ h, Nat.zero_add, slC_get hW hi hj]⟩, hW, hm⟩

theorem run_noSl (W : World) : (Instr.buildSlice 24 0 #[]).run Try.prog W = .ok (.slice (some ⟨W.heap.size, 0, none⟩) 0 0) (W.alloc (.cells #[] 40)) := by kernel_rfl

theorem OwnSl.empty (w : World) {lo : Nat} (hl : lo ≤ w.heap.size) : (w.alloc (.cells #[] 40)).ownsRow lo 40 9 (.slice (some ⟨w.heap.size, 0, none⟩) 0 0) 0 [] :=
  ⟨rfl, .inr ⟨w.heap.size, 0, #[], rfl, hl, At.new w #[] 40, Nat.le_refl _, by unfold maxLen; omega, rfl, rfl⟩⟩

theorem sl_cells {w : World} {g : Nat} {xs : Slots} {T : TypeId} (hA : At w g (slC xs) T) : ∀ j u, (slL xs)[j]? = some u → w.cell? ((⟨g, 0, none⟩ : Addr).add j) = some u := by
  intro j u h
  have e : (⟨g, 0, none⟩ : Addr).add j = ⟨g, j, none⟩ := by
    unfold Addr.add
    by_cases z : j = 0
    · subst z; rfl
    · rw [if_neg z]; congr 1; show 0 + j = j; omega
  rw [e]
  refine hA.cell ?_
  rw [← Array.getElem?_toList]
  exact h

theorem info_slot : ∃ i : TypeInfo, Try.prog.info? 40 = some i ∧ i.zero = some (.agg #[.bool false, .bool false, .bool false, .bool false, .bool false, .bool false, .bool false, .bool false, .int .i64 0]) ∧ i.size = 9 ∧ i.bytes = 16 := by
  have hi : (Try.prog.info? 40).map (fun i => (i.zero, i.size, i.bytes)) = some (some (.agg #[.bool false, .bool false, .bool false, .bool false, .bool false, .bool false, .bool false, .bool false, .int .i64 0]), 9, 16) := by kernel_rfl
  obtain ⟨i, h1, h2, h3, h4⟩ := info_parts hi
  exact ⟨i, h1, h2, h3, h4⟩

theorem BelowSl.grownBy {w w' : World} {r : Option Nat} {B : Nat} (h : w.grownBy w' r) (hB : B ≤ w.heap.size) (hr : ∀ k, r = some k → B ≤ k) : Below B w w' :=
  ⟨h.os, h.tape, h.output, h.size, fun k hk => h.block k (by omega) (fun e => by have := hr k e.symm; omega)⟩

/-- what an answer that is a plan and a code is -/
structure PR (w w' : World) (xs : Slots) (b o c : Int) (e : Ending) : Prop where
  ex : ∃ v, e = .returned (.tuple #[.agg (plC v b o), .int .i64 c]) ∧ OwnSl w' w.heap.size v xs
  below : Below w.heap.size w w'

end Go.Proofs.Ytldchcjnepnjnaa
