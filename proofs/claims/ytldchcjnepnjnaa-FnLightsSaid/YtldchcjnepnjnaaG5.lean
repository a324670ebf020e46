/-
  SEVERAL TEXTS IN ONE.
-/
import Derived.Test.YtldchcjnepnjnaaG4
import Derived.Test.YtldchcjnepnjnaaSl
import Derived.Test.YtldchcjnepnjnaaOneCell
import Derived.Test.YtldchcjnepnjnaaLawS
import Derived.Laws.MakeOwn
import Derived.OwnWalk

/-
  CONTRACTS: slots, a law's made the program's, and held against each other.
-/
namespace Go.Proofs.Ytldchcjnepnjnaa
open Go Go.ChangeShapes Go.WideShapes Go.ChangeAt Go.RowKit
set_option maxRecDepth 100000

theorem zsl : (#[.bool false, .bool false, .bool false, .bool false, .bool false, .bool false, .bool false, .bool false, .int .i64 0] : Array Value) = sl1 (noes 8) 0 := rfl

end Go.Proofs.Ytldchcjnepnjnaa

/-
  CONTRACTS: slices of slots, a law's made the program's, and held against each other.
-/
namespace Go.Proofs.Ytldchcjnepnjnaa
open Go Go.ChangeShapes Go.WideShapes Go.ChangeAt Go.RowKit
set_option maxRecDepth 100000

/-- cells one after the other, loaded as an array or a struct -/
theorem run_loadAt_cells {P : Program} (w : World) (g off n : Nat) (ty : TypeId) (c : Array Value) (d : TypeDesc) (hn : c.size = n) (hu : P.underlying ty = some d) (hd : (match d with | .struct _ | .array _ _ => true | _ => false) = true) (hi : (P.info? ty).map (·.size) = some n)
    (hc : ∀ j, j < n → w.cell? ⟨g, off + j, none⟩ = c[j]?) : (Instr.loadAt ty (.pointer (some ⟨g, off, none⟩))).run P w = .ok (.agg c) w := by
  have hl := run_loadCells (P := P) w ⟨g, off, none⟩ n (fun j => c.getD j undef) (fun j hj => by
    have hadd : (⟨g, off, none⟩ : Addr).add j = ⟨g, off + j, none⟩ := by unfold Addr.add; split <;> simp_all
    rw [hadd, hc j hj, Array.getD_eq_getD_getElem?, Array.getElem?_eq_getElem (by omega)]; rfl)
  have he : ((List.range n).map fun j => c.getD j undef).toArray = c := by
    apply Array.ext_getElem?
    intro i
    by_cases h : i < n
    · simp [h, Array.getD_eq_getD_getElem?]
      rw [Array.getElem?_eq_getElem (by omega)]; rfl
    · rw [Array.getElem?_eq_none (by simp; omega), Array.getElem?_eq_none (by omega)]
  rw [he] at hl
  cases hq : P.info? ty with
  | none => simp [hq] at hi
  | some i =>
    have hs : i.size = n := by simpa [hq] using hi
    have hagg : (isAgg ty).run P w = .ok true w := by
      unfold isAgg
      rw [Sem.run_bind, run_underlying hu w]
      cases d <;> simp_all
    simp only [Instr.loadAt, Instr.sureAddr, Sem.run_bind, Sem.run_pure, Result.andThen]
    simp [loadVar, Sem.run_bind, hagg, sizeOf, typeInfo, hq, hs, hl]

/-- a slice of slots that came in -/
structure SSl (w : World) (v : Value) (xs : Slots) : Prop where
  val : (xs = [] ∧ ∃ a cap, v = .slice a 0 cap) ∨ ∃ g off cap, v = .slice (some ⟨g, off, none⟩) xs.length cap ∧ g < w.heap.size ∧ ∀ i, i < xs.length → ∀ j, j < 9 → w.cell? ⟨g, off + i * 9 + j, none⟩ = (sl1 (sb xs i) (st xs i))[j]?
  wf : SlW xs
  len : xs.length ≤ maxLen

theorem SSl.step {B : Nat} {w w' : World} {v : Value} {xs : Slots} (h : SSl w v xs) (hB : w.heap.size ≤ B) (hb : Below B w w') : SSl w' v xs := by
  refine ⟨h.val.imp id ?_, h.wf, h.len⟩
  rintro ⟨g, off, cap, rfl, hg, hc⟩
  refine ⟨g, off, cap, rfl, Nat.lt_of_lt_of_le hg hb.size, fun i hi j hj => ?_⟩
  rw [← hc i hi j hj]
  unfold World.cell?
  rw [hb.block g (by omega)]

theorem SSl.any {w : World} {v : Value} {xs : Slots} (h : SSl w v xs) : ∃ a cap, v = .slice a xs.length cap := by
  rcases h.val with ⟨rfl, a, cap, rfl⟩ | ⟨g, off, cap, rfl, -⟩
  · exact ⟨a, cap, rfl⟩
  · exact ⟨_, cap, rfl⟩

theorem wpList_make_run {P : Program} {w w' : World} {ops : Array Oper} {rest : List Oper} {o : Oper} {a : Act} {Q : Exit → Act → World → Prop}
    (hg : o.guard = none) (l c : Operand) (t : TypeId) (hop : o.op = Op.makeSlice t l c) (v1 v2 v : Value) (hl : a.eval l = v1) (hc : a.eval c = v2) (hrun : (Instr.makeSlice t v1 v2).run P w = .ok v w') (h : wpList P ops Q rest (a.put o.dst v) w') : wpList P ops Q (o :: rest) a w := by
  refine wpList_plain hg fun K hK' => ?_
  unfold Oper.wp execOp
  simp only [hop, hl, hc, Sem.run_bind, hrun, Sem.run_pure, Result.andThen_ok]
  exact hK' _ _ h

theorem run_indexS {P : Program} (w : World) (ty e : TypeId) (g off n cap k s : Nat) (hu : P.underlying ty = some (.slice e)) (he : (P.info? e).map (·.size) = some s) (hk : k < n) :
    (Instr.indexAt ty (.slice (some ⟨g, off, none⟩) n cap) (.int .i64 (k : Int))).run P w = .ok (.pointer (some ⟨g, off + k * s, none⟩)) w := by
  cases hq : P.info? e with
  | none => simp [hq] at he
  | some i =>
    have hs : i.size = s := by simpa [hq] using he
    by_cases h0 : k * s = 0
    · simp [Instr.indexAt, asIntOf, run_underlying hu, hk, sizeOf, typeInfo, hq, hs, Addr.add, h0]
    · simp [Instr.indexAt, asIntOf, run_underlying hu, hk, sizeOf, typeInfo, hq, hs, Addr.add, h0]

theorem made_slots (n : Nat) : madeCells (Value.agg #[.bool false, .bool false, .bool false, .bool false, .bool false, .bool false, .bool false, .bool false, .int .i64 0]).cells (n * 9) = slC (slZ n) := by
  have e : (Value.agg #[.bool false, .bool false, .bool false, .bool false, .bool false, .bool false, .bool false, .bool false, .int .i64 0]).cells = sl1 (noes 8) 0 := zsl
  rw [e]
  unfold madeCells
  have hs := sl1_size (noes_len 8) 0
  apply Array.ext
  · rw [slC_size (slZ_w n)]; simp [slZ]
  · intro i h1 h2
    have hi : i < n * 9 := by simpa using h1
    have hlen : (slZ n).length = n := by simp [slZ]
    have hq : i / 9 < n := by omega
    have hr : i % 9 < 9 := by omega
    have g := slC_get (slZ_w n) (i := i / 9) (j := i % 9) (by rw [hlen]; exact hq) hr
    rw [show i / 9 * 9 + i % 9 = i from by omega] at g
    have hz : (slZ n).getD (i / 9) ([], 0) = (noes 8, 0) := by
      rw [List.getD_eq_getElem?_getD, List.getElem?_eq_getElem (by rw [hlen]; exact hq)]
      simp [slZ]
    have h3 : (slC (slZ n))[i]? = some ((slC (slZ n))[i]'h2) := Array.getElem?_eq_getElem h2
    unfold sb st at g
    rw [hz] at g
    rw [h3] at g
    simp only [Array.getElem_map, Array.getElem_range, hs]
    have : (sl1 (noes 8) 0)[i % 9]! = (sl1 (noes 8) 0)[i % 9]'(by rw [hs]; exact hr) := getElem!_pos _ _ _
    rw [this]
    have g' := g.symm
    rw [Array.getElem?_eq_getElem (by rw [hs]; exact hr)] at g'
    exact Option.some.inj g'

theorem run_make_slots (W : World) (n : Nat) (hn : n ≤ 1048576) : (Instr.makeSlice 24 (.int .i64 (n : Int)) (.int .i64 (n : Int))).run Try.prog W = .ok (.slice (some ⟨W.heap.size, 0, none⟩) n n) (W.alloc (.cells (slC (slZ n)) 40)) := by
  have hi : (Try.prog.info? 40).map (fun i => (i.zero, i.size, i.bytes)) = some (some (.agg #[.bool false, .bool false, .bool false, .bool false, .bool false, .bool false, .bool false, .bool false, .int .i64 0]), 9, 16) := by kernel_rfl
  obtain ⟨i, h1, h2, h3, h4⟩ := info_parts hi
  have := run_make (P := Try.prog) W 24 40 i (.agg #[.bool false, .bool false, .bool false, .bool false, .bool false, .bool false, .bool false, .bool false, .int .i64 0]) Try.underlying24 h1 h2 .i64 .i64 (n : Int) (n : Int) (by omega) (by omega) (by rw [h4]; omega) (by omega)
  rw [Int.toNat_natCast, h3, made_slots] at this
  exact this

end Go.Proofs.Ytldchcjnepnjnaa
