/-
  CONTRACTS: a byte laid ahead of the bytes that came in.
-/
import Derived.Test.YthljppdkplkohaaBytes
import Derived.Test.YthljppdkplkohaaOneCell
import Derived.Test.YthljppdkplkohaaToSlots
import Derived.Laws.AppendOwn
import Derived.Laws.AppendOwnNone
import Derived.Great.BuildSlice
namespace Go.Proofs.Ythljppdkplkohaa
open Go Go.ChangeShapes Go.WideShapes Go.ChangeAt Go.RowKit Go.Deep
set_option maxRecDepth 100000

theorem run_oneY (W : World) (b : Int) : (Instr.buildSlice 22 1 #[(0, .int .u8 b)]).run Try.prog W = .ok (.slice (some ⟨W.heap.size, 0, none⟩) 1 1) (W.alloc (.cells #[.int .u8 b] 5)) := by kernel_rfl

theorem info_byte : ∃ i : TypeInfo, Try.prog.info? 5 = some i ∧ i.zero = some (.int .u8 0) ∧ i.size = 1 ∧ i.bytes = 1 := by
  have hi : (Try.prog.info? 5).map (fun i => (i.zero, i.size, i.bytes)) = some (some (.int .u8 0), 1, 1) := by kernel_rfl
  obtain ⟨i, h1, h2, h3, h4⟩ := info_parts hi
  exact ⟨i, h1, h2, h3, h4⟩

/-- the cells of bytes -/
def byL (bs : List Nat) : List Value := bs.map fun (b : Nat) => Value.int .u8 (b : Int)

theorem byL_at {bs : List Nat} {i : Nat} (h : i < bs.length) : (byL bs)[i]? = some (.int .u8 (byteAt bs i : Nat)) := by
  unfold byL byteAt
  rw [List.getElem?_map, List.getElem?_eq_getElem h, List.getD, List.getElem?_eq_getElem h]
  rfl

theorem addr_add (g off j : Nat) : (⟨g, off, none⟩ : Addr).add j = ⟨g, off + j, none⟩ := by
  unfold Addr.add
  by_cases z : j = 0
  · subst z; rfl
  · rw [if_neg z]

theorem BSl.of_own {w : World} {lo : Nat} {v : Value} {bs : List Nat} (h : w.ownsRow lo 5 1 v bs.length (byL bs)) (hn : bs.length ≠ 0) (hb : ∀ b ∈ bs, b < 256) (hm : bs.length ≤ maxLen) : ∃ ad cp, v = .slice ad bs.length cp ∧ BSl w ad bs ∧ (ad = none → cp = 0) := by
  rcases h.2 with ⟨-, h0⟩ | ⟨g, cap, cur, rfl, h1, h2, h3, h4, h5, h6⟩
  · exact absurd h0 hn
  · refine ⟨_, cap, rfl, ⟨.inr ⟨g, 0, rfl, (Array.getElem?_eq_some_iff.1 h2).1, fun i hi => ?_⟩, hb, hm⟩, fun e => by cases e⟩
    have hA : At w g cur 5 := h2
    rw [Nat.zero_add]
    refine hA.cell ?_
    rw [← byL_at hi, ← h6, List.getElem?_take_of_lt (by omega), Array.getElem?_toList]

/-- a byte laid ahead of bytes that came in -/
theorem wpList_app_bytes {w : World} {ops : Array Oper} {rest : List Oper} {o : Oper} {a : Act} {Q : Exit → Act → World → Prop} (hg : o.guard = none) (s x : Operand) (ho : o.op = .call { callee := .builtin .append, args := #[s, x], argTypes := #[22, 22] })
    (ad : Option Addr) (cp : Nat) (bs : List Nat) (hC : BSl w ad bs) (hnil : ad = none → cp = 0) (hlen : bs.length ≤ 4096) (b : Nat) (hb : b < 256) (g : Nat) (hA : At w g #[.int .u8 (b : Int)] 5)
    (hs : a.eval s = .slice (some ⟨g, 0, none⟩) 1 1) (hx : a.eval x = .slice ad bs.length cp)
    (h : ∀ ad' cp' w', BSl w' ad' (b :: bs) → (ad' = none → cp' = 0) → Below g w w' → wpList Try.prog ops Q rest (a.put o.dst (.slice ad' (b :: bs).length cp')) w') : wpList Try.prog ops Q (o :: rest) a w := by
  obtain ⟨i0, hi, hz0, hz1, hz2⟩ := info_byte
  have hown : w.ownsRow g 5 1 (.slice (some ⟨g, 0, none⟩) 1 1) 1 (byL [b]) := ⟨rfl, .inr ⟨g, 1, _, rfl, Nat.le_refl _, hA, Nat.le_refl _, by unfold maxLen; omega, rfl, rfl⟩⟩
  have hall : ∀ y ∈ b :: bs, y < 256 := fun y hy => by
    rcases List.mem_cons.1 hy with rfl | hy
    · exact hb
    · exact hC.lt y hy
  have hl1 : (b :: bs).length ≤ maxLen := by unfold maxLen; simp; omega
  have hgw := hA.lt
  cases ad with
  | none =>
    obtain rfl : bs = [] := by
      rcases hC.val with e | ⟨g', off, e, -⟩
      · exact e
      · cases e
    obtain rfl := hnil rfl
    refine wpList_append_own_none hg s x 22 ho g 5 i0 1 Try.underlying22 hi _ 1 _ hs hown hx ?_
    obtain ⟨ad', cp', e, h1, h2⟩ := BSl.of_own (bs := [b]) hown (by simp) hall hl1
    have := h ad' cp' w h1 h2 (Below.refl _ _)
    rw [e]
    exact this
  | some ad0 =>
    have hcells : ∀ j u, (byL bs)[j]? = some u → w.cell? (ad0.add j) = some u := by
      intro j u hj
      have hjl : j < bs.length := by
        have := (List.getElem?_eq_some_iff.1 hj).1
        simpa [byL] using this
      rcases hC.val with e | ⟨g', off, e, -, hc⟩
      · subst e; simp at hjl
      · obtain rfl := Option.some.inj e
        rw [addr_add, hc j hjl, ← byL_at hjl]
        exact hj
    refine wpList_append_own w hg s x 22 ho g 5 i0 (.int .u8 0) 1 1 Try.underlying22 hi hz0 hz1 hz2 rfl (by decide) _ 1 _ hs hown ad0 bs.length cp (byL bs) hx (by simp [byL]) hcells (fun u hu => by
      obtain ⟨y, -, rfl⟩ := List.mem_map.1 hu
      rfl) (by unfold maxLen; omega) (by omega) (Nat.le_of_lt hgw) ?_
    intro v' w' hown' hgrow _
    have hown2 : w'.ownsRow g 5 1 v' (b :: bs).length (byL (b :: bs)) := by
      have e : (b :: bs).length = 1 + bs.length := by simp; omega
      rw [e]
      exact hown'
    obtain ⟨ad', cp', rfl, h1, h2⟩ := BSl.of_own hown2 (by simp) hall hl1
    exact h ad' cp' w' h1 h2 ⟨hgrow.os, hgrow.tape, hgrow.output, hgrow.size, fun k hk => hgrow.block k (by omega) (fun e => by have : k = g := by simpa [Value.ownBlock] using e
                                                                                                                                omega)⟩

end Go.Proofs.Ythljppdkplkohaa
