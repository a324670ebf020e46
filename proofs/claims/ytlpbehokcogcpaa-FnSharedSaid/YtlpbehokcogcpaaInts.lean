/-
  CONTRACTS: slices of whole numbers: sizes, a law's made the program's, held against each other; their shape.
-/
import Derived.Test.YtlpbehokcogcpaaIl
import Derived.Test.YtlpbehokcogcpaaG3
import Derived.Test.YtlpbehokcogcpaaLawS
import Derived.Test.YtlpbehokcogcpaaG2
import Derived.Laws.MakeOwn
import Derived.OwnWalk
namespace Go.Proofs.Ytlpbehokcogcpaa
open Go Go.ChangeShapes Go.WideShapes Go.ChangeAt Go.RowKit Go.Deep
set_option maxRecDepth 100000

def I64j (t : Int) : Prop := -9223372036854775808 ≤ t ∧ t ≤ 9223372036854775807

/-- a slice of whole numbers that came in -/
structure ISl (w : World) (v : Value) (xs : List Int) : Prop where
  val : (xs = [] ∧ ∃ a cap, v = .slice a 0 cap) ∨ ∃ g off cap, v = .slice (some ⟨g, off, none⟩) xs.length cap ∧ g < w.heap.size ∧ ∀ i, i < xs.length → w.cell? ⟨g, off + i, none⟩ = some (.int .i64 (ith xs i))
  wf : ∀ x ∈ xs, I64j x
  len : xs.length ≤ maxLen

theorem ISl.step {B : Nat} {w w' : World} {v : Value} {xs : List Int} (h : ISl w v xs) (hB : w.heap.size ≤ B) (hb : Below B w w') : ISl w' v xs := by
  refine ⟨h.val.imp id ?_, h.wf, h.len⟩
  rintro ⟨g, off, cap, rfl, hg, hc⟩
  refine ⟨g, off, cap, rfl, Nat.lt_of_lt_of_le hg hb.size, fun i hi => ?_⟩
  rw [← hc i hi]
  unfold World.cell?
  rw [hb.block g (by omega)]

theorem ISl.any {w : World} {v : Value} {xs : List Int} (h : ISl w v xs) : ∃ a cap, v = .slice a xs.length cap := by
  rcases h.val with ⟨rfl, a, cap, rfl⟩ | ⟨g, off, cap, rfl, -⟩
  · exact ⟨a, cap, rfl⟩
  · exact ⟨_, cap, rfl⟩

theorem wpList_make_runI {P : Program} {w w' : World} {ops : Array Oper} {rest : List Oper} {o : Oper} {a : Act} {Q : Exit → Act → World → Prop}
    (hg : o.guard = none) (l c : Operand) (t : TypeId) (hop : o.op = Op.makeSlice t l c) (v1 v2 v : Value) (hl : a.eval l = v1) (hc : a.eval c = v2) (hrun : (Instr.makeSlice t v1 v2).run P w = .ok v w') (h : wpList P ops Q rest (a.put o.dst v) w') : wpList P ops Q (o :: rest) a w := by
  refine wpList_plain hg fun K hK' => ?_
  unfold Oper.wp execOp
  simp only [hop, hl, hc, Sem.run_bind, hrun, Sem.run_pure, Result.andThen_ok]
  exact hK' _ _ h

theorem made_ints (n : Nat) : madeCells (Value.int .i64 0).cells (n * 1) = il (iz n) := by
  unfold madeCells il iz
  apply Array.ext
  · simp
  · intro i h1 h2
    have e : (Value.int .i64 0).cells = #[.int .i64 0] := rfl
    simp [e, Nat.mod_one]

theorem q_oneI {P : Program} {W : World} {o : Oper} {a : Act} {K : Act → Prop} {g : Nat} {c : Array Value} {T : TypeId} (ty : TypeId) (x : Operand) (ho : o.op = .load ty x) (d : TypeDesc) (hu : P.underlying ty = some d) (hd : (match d with | .struct _ | .array _ _ => true | _ => false) = false) (k : Nat) (hx : a.eval x = .pointer (some ⟨g, k, none⟩)) (hA : At W g c T) (v : Value) (hk : c[k]? = some v) (hK : K (a.put o.dst v)) : o.quiet P a (Cb W) K :=
  q_load ty x ho _ hx v (fun w hw => run_load_one w ty d hu hd _ v (At.cell (At.step hA hw) hk)) hK

theorem trod_int1j {H : Type} {enc : TypeId × Value → H} {P : Program} {w : World} {base : Nat} {sp : Nat → Bool} {hd : Bool} {t : TypeId} {n : Nat} {v : Value} {x : DataW H × List MemPlace} (ht : P.underlying t = some (.int .i64)) (h : DataW.trod enc P w base sp hd n t [v] = some x) : ∃ b, v = .int .i64 b ∧ I64j b := by
  cases n with
  | zero => simp [DataW.trod] at h
  | succ n =>
    unfold DataW.trod at h
    rw [ht] at h
    split at h <;> simp_all
    rename_i k1 k2 b1 hk
    obtain ⟨⟨-, h1⟩, -⟩ := h
    subst hk
    simp [Lit.wf, IntKind.min, IntKind.max, IntKind.bits, IntKind.signed] at h1
    unfold I64j; omega

theorem shape_i64s {H : Type} {enc : TypeId × Value → H} {W : World} {v : Value} {d : DataW H} {ps : List MemPlace} {t e : TypeId} (ht : Try.prog.underlying t = some (.slice e)) (he : Try.prog.underlying e = some (.int .i64)) (hc : Try.prog.cellsOf e = 1)
    (hv : ∃ a len cap, v = .slice a len cap) (h : DataW.Trod enc Try.prog W 0 (fun _ => true) true t v d ps) : ∃ xs, ISl W v xs := by
  obtain ⟨fuel, h⟩ := h
  obtain ⟨a0, l0, c0, rfl⟩ := hv
  have e1 : (Value.slice a0 l0 c0).cells.toList = [.slice a0 l0 c0] := rfl
  rw [e1] at h
  rcases open_slice1 ht hc h with ⟨h0, -⟩ | ⟨a, len, cap, m, n, V, D, Pl, h0, -, hl, hm, hmm, -, hx⟩
  · exact ⟨[], ⟨.inl ⟨rfl, none, 0, by simpa using h0⟩, by simp, by simp⟩⟩
  · have hm2 : len ≤ m := by rw [hmm]; simp; exact hl
    have hv : Value.slice a0 l0 c0 = .slice (some a) len cap := by simpa using h0
    rw [hv]
    clear h0 hv
    by_cases hz : len = 0
    · subst hz
      exact ⟨[], ⟨.inl ⟨rfl, some a, cap, rfl⟩, by simp, by simp⟩⟩
    obtain ⟨g, off, spot⟩ := a
    have h00 := (hx 0 (by omega)).1
    have hs : spot = none := by
      unfold World.cell? at h00
      rw [show (Addr.add ⟨g, off, spot⟩ 0) = ⟨g, off, spot⟩ from rfl] at h00
      cases spot with
      | none => rfl
      | some s => split at h00 <;> simp at h00
    subst hs
    have hadd : ∀ i, Addr.add ⟨g, off, none⟩ i = ⟨g, off + i, none⟩ := fun i => by
      unfold Addr.add
      by_cases h : i = 0
      · subst h; rfl
      · rw [if_neg h]
    let xs : List Int := (List.range len).map fun i => match V i with | .int _ x => x | _ => 0
    have hxs : xs.length = len := by simp [xs]
    have key : ∀ i, i < len → V i = .int .i64 (ith xs i) ∧ I64j (ith xs i) := by
      intro i hi
      obtain ⟨h1, h2⟩ := hx i (by omega)
      obtain ⟨b, hb, hb2⟩ := trod_int1j he h2
      have : ith xs i = b := by
        unfold ith
        simp only [xs, List.getD_eq_getElem?_getD, List.getElem?_map, List.getElem?_range hi, Option.map_some, Option.getD_some, hb]
      rw [this]; exact ⟨hb, hb2⟩
    refine ⟨xs, ⟨.inr ⟨g, off, cap, by rw [hxs], cell_block h00, fun i hi => ?_⟩, fun x hx' => ?_, by omega⟩⟩
    · rw [hxs] at hi
      obtain ⟨h1, -⟩ := hx i (by omega)
      rw [(key i hi).1, hadd] at h1
      exact h1
    · obtain ⟨i, hi, rfl⟩ := List.mem_iff_getElem.1 hx'
      have := (key i (by omega)).2
      unfold ith at this
      rwa [List.getD_eq_getElem?_getD, List.getElem?_eq_getElem hi, Option.getD_some] at this

end Go.Proofs.Ytlpbehokcogcpaa
