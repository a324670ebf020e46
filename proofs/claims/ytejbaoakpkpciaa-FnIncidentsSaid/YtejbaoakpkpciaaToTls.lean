/-
  CONTRACTS: slices of tallies, a law's made the program's, and held against each other; sizes.
-/
import Derived.Test.YtejbaoakpkpciaaG7
import Derived.Laws.MakeOwn
import Derived.OwnWalk
namespace Go.Proofs.Ytejbaoakpkpciaa
open Go Go.ChangeShapes Go.WideShapes Go.ChangeAt Go.RowKit
set_option maxRecDepth 100000

/-- cells one after the other, loaded as an array or a struct -/
theorem run_loadAt_cells {P : Program} (w : World) (g off n : Nat) (ty : TypeId) (c : Array Value) (d : TypeDesc) (hn : c.size = n) (hu : P.underlying ty = some d) (hd : (match d with | .struct _ | .array _ _ => true | _ => false) = true) (hi : (P.info? ty).map (·.size) = some n)
    (hc : ∀ j, j < n → w.cell? ⟨g, off + j, none⟩ = c[j]?) : (Instr.loadAt ty (.pointer (some ⟨g, off, none⟩))).run P w = .ok (.agg c) w := by
  have hl := run_loadCells (P := P) w ⟨g, off, none⟩ n (fun j => c.getD j undef) (fun j hj => by
    have hadd : (⟨g, off, none⟩ : Addr).add j = ⟨g, off + j, none⟩ := by unfold Addr.add; split <;> simp_all
    rw [hadd, hc j hj, Array.getD_eq_getD_getElem?, Array.getElem?_eq_getElem (by omega)]; rfl)
  have he : ((List.range n).map fun j => c.getD j undef).toArray = c := by
    apply Array.ext_getElem?
    intro i
    by_cases h : i < n
    · simp [h, Array.getD_eq_getD_getElem?]
      rw [Array.getElem?_eq_getElem (by omega)]; rfl
    · rw [Array.getElem?_eq_none (by simp; omega), Array.getElem?_eq_none (by omega)]
  rw [he] at hl
  cases hq : P.info? ty with
  | none => simp [hq] at hi
  | some i =>
    have hs : i.size = n := by simpa [hq] using hi
    have hagg : (isAgg ty).run P w = .ok true w := by
      unfold isAgg
      rw [Sem.run_bind, run_underlying hu w]
      cases d <;> simp_all
    simp only [Instr.loadAt, Instr.sureAddr, Sem.run_bind, Sem.run_pure, Result.andThen]
    simp [loadVar, Sem.run_bind, hagg, sizeOf, typeInfo, hq, hs, hl]

/-- a slice of tallies that came in -/
structure STl (w : World) (v : Value) (xs : Ts) : Prop where
  val : (xs = [] ∧ ∃ a cap, v = .slice a 0 cap) ∨ ∃ g off cap, v = .slice (some ⟨g, off, none⟩) xs.length cap ∧ g < w.heap.size ∧ ∀ i, i < xs.length → ∀ j, j < 3 → w.cell? ⟨g, off + i * 3 + j, none⟩ = (t1 (tn xs i) (tc xs i) (tf xs i))[j]?
  wf : TW xs
  len : xs.length ≤ maxLen
theorem STl.step {B : Nat} {w w' : World} {v : Value} {xs : Ts} (h : STl w v xs) (hB : w.heap.size ≤ B) (hb : Below B w w') : STl w' v xs := by
  refine ⟨h.val.imp id ?_, h.wf, h.len⟩
  rintro ⟨g, off, cap, rfl, hg, hc⟩
  refine ⟨g, off, cap, rfl, Nat.lt_of_lt_of_le hg hb.size, fun i hi j hj => ?_⟩
  rw [← hc i hi j hj]
  unfold World.cell?
  rw [hb.block g (by omega)]
theorem STl.any {w : World} {v : Value} {xs : Ts} (h : STl w v xs) : ∃ a cap, v = .slice a xs.length cap := by
  rcases h.val with ⟨rfl, a, cap, rfl⟩ | ⟨g, off, cap, rfl, -⟩
  · exact ⟨a, cap, rfl⟩
  · exact ⟨_, cap, rfl⟩

theorem wpList_make_run {P : Program} {w w' : World} {ops : Array Oper} {rest : List Oper} {o : Oper} {a : Act} {Q : Exit → Act → World → Prop}
    (hg : o.guard = none) (l c : Operand) (t : TypeId) (hop : o.op = Op.makeSlice t l c) (v1 v2 v : Value) (hl : a.eval l = v1) (hc : a.eval c = v2) (hrun : (Instr.makeSlice t v1 v2).run P w = .ok v w') (h : wpList P ops Q rest (a.put o.dst v) w') : wpList P ops Q (o :: rest) a w := by
  refine wpList_plain hg fun K hK' => ?_
  unfold Oper.wp execOp
  simp only [hop, hl, hc, Sem.run_bind, hrun, Sem.run_pure, Result.andThen_ok]
  exact hK' _ _ h
theorem run_indexS {P : Program} (w : World) (ty e : TypeId) (g off n cap k s : Nat) (hu : P.underlying ty = some (.slice e)) (he : (P.info? e).map (·.size) = some s) (hk : k < n) :
    (Instr.indexAt ty (.slice (some ⟨g, off, none⟩) n cap) (.int .i64 (k : Int))).run P w = .ok (.pointer (some ⟨g, off + k * s, none⟩)) w := by
  cases hq : P.info? e with
  | none => simp [hq] at he
  | some i =>
    have hs : i.size = s := by simpa [hq] using he
    by_cases h0 : k * s = 0
    · simp [Instr.indexAt, asIntOf, run_underlying hu, hk, sizeOf, typeInfo, hq, hs, Addr.add, h0]
    · simp [Instr.indexAt, asIntOf, run_underlying hu, hk, sizeOf, typeInfo, hq, hs, Addr.add, h0]
theorem made_tallies (n : Nat) : madeCells (Value.agg #[.int .i64 0, .int .i16 0, .int .i16 0]).cells (n * 3) = tC (tZ n) := by
  have e : (Value.agg #[.int .i64 0, .int .i16 0, .int .i16 0]).cells = t1 0 0 0 := rfl
  rw [e]
  unfold madeCells
  apply Array.ext
  · rw [tC_size]; simp [tZ]
  · intro i h1 h2
    have hi : i < n * 3 := by simpa using h1
    have hlen : (tZ n).length = n := by simp [tZ]
    have hq : i / 3 < n := by omega
    have hr : i % 3 < 3 := by omega
    have g := tC_get (xs := tZ n) (i := i / 3) (j := i % 3) (by rw [hlen]; exact hq) hr
    rw [show i / 3 * 3 + i % 3 = i from by omega] at g
    have hz : (tZ n).getD (i / 3) (0, 0, 0) = (0, 0, 0) := by
      rw [List.getD_eq_getElem?_getD, List.getElem?_eq_getElem (by rw [hlen]; exact hq)]
      simp [tZ]
    have h3 : (tC (tZ n))[i]? = some ((tC (tZ n))[i]'h2) := Array.getElem?_eq_getElem h2
    unfold tn tc tf at g
    rw [hz] at g
    rw [h3] at g
    simp only [Array.getElem_map, Array.getElem_range, t1_size]
    have : (t1 0 0 0)[i % 3]! = (t1 0 0 0)[i % 3]'(by rw [t1_size]; exact hr) := getElem!_pos _ _ _
    rw [this]
    have g' := g.symm
    rw [Array.getElem?_eq_getElem (by rw [t1_size]; exact hr)] at g'
    exact Option.some.inj g'
theorem run_make_tallies (W : World) (n : Nat) (hn : n ≤ 1048576) : (Instr.makeSlice 24 (.int .i64 (n : Int)) (.int .i64 (n : Int))).run Try.prog W = .ok (.slice (some ⟨W.heap.size, 0, none⟩) n n) (W.alloc (.cells (tC (tZ n)) 32)) := by
  have hi : (Try.prog.info? 32).map (fun i => (i.zero, i.size, i.bytes)) = some (some (.agg #[.int .i64 0, .int .i16 0, .int .i16 0]), 3, 16) := by kernel_rfl
  obtain ⟨i, h1, h2, h3, h4⟩ := info_parts hi
  have := run_make (P := Try.prog) W 24 32 i (.agg #[.int .i64 0, .int .i16 0, .int .i16 0]) Try.underlying24 h1 h2 .i64 .i64 (n : Int) (n : Int) (by omega) (by omega) (by rw [h4]; omega) (by omega)
  rw [Int.toNat_natCast, h3, made_tallies] at this
  exact this

end Go.Proofs.Ytejbaoakpkpciaa
