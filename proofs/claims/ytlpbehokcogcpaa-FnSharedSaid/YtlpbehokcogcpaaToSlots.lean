/-
  CONTRACTS: slices of slots, a law's made the program's, and held against each other.
-/
import Derived.Test.YtlpbehokcogcpaaG3
import Derived.Test.YtlpbehokcogcpaaLawS
import Derived.Laws.MakeOwn
import Derived.OwnWalk
namespace Go.Proofs.Ytlpbehokcogcpaa
open Go Go.ChangeShapes Go.WideShapes Go.ChangeAt Go.RowKit
set_option maxRecDepth 100000

/-- cells one after the other, loaded as an array or a struct -/
theorem run_loadAt_cells {P : Program} (w : World) (g off n : Nat) (ty : TypeId) (c : Array Value) (d : TypeDesc) (hn : c.size = n) (hu : P.underlying ty = some d) (hd : (match d with | .struct _ | .array _ _ => true | _ => false) = true) (hi : (P.info? ty).map (·.size) = some n)
    (hc : ∀ j, j < n → w.cell? ⟨g, off + j, none⟩ = c[j]?) : (Instr.loadAt ty (.pointer (some ⟨g, off, none⟩))).run P w = .ok (.agg c) w := by
  have hl := run_loadCells (P := P) w ⟨g, off, none⟩ n (fun j => c.getD j undef) (fun j hj => by
    have hadd : (⟨g, off, none⟩ : Addr).add j = ⟨g, off + j, none⟩ := by unfold Addr.add; split <;> simp_all
    rw [hadd, hc j hj, Array.getD_eq_getD_getElem?, Array.getElem?_eq_getElem (by omega)]; rfl)
  have he : ((List.range n).map fun j => c.getD j undef).toArray = c := by
    apply Array.ext_getElem?
    intro i
    by_cases h : i < n
    · simp [h, Array.getD_eq_getD_getElem?]
      rw [Array.getElem?_eq_getElem (by omega)]; rfl
    · rw [Array.getElem?_eq_none (by simp; omega), Array.getElem?_eq_none (by omega)]
  rw [he] at hl
  cases hq : P.info? ty with
  | none => simp [hq] at hi
  | some i =>
    have hs : i.size = n := by simpa [hq] using hi
    have hagg : (isAgg ty).run P w = .ok true w := by
      unfold isAgg
      rw [Sem.run_bind, run_underlying hu w]
      cases d <;> simp_all
    simp only [Instr.loadAt, Instr.sureAddr, Sem.run_bind, Sem.run_pure, Result.andThen]
    simp [loadVar, Sem.run_bind, hagg, sizeOf, typeInfo, hq, hs, hl]

/-- a slice of slots that came in -/
structure SSl (w : World) (v : Value) (xs : Slots) : Prop where
  val : (xs = [] ∧ ∃ a cap, v = .slice a 0 cap) ∨ ∃ g off cap, v = .slice (some ⟨g, off, none⟩) xs.length cap ∧ g < w.heap.size ∧ ∀ i, i < xs.length → ∀ j, j < 9 → w.cell? ⟨g, off + i * 9 + j, none⟩ = (sl1 (sb xs i) (st xs i))[j]?
  wf : SlW xs
  len : xs.length ≤ maxLen

theorem SSl.step {B : Nat} {w w' : World} {v : Value} {xs : Slots} (h : SSl w v xs) (hB : w.heap.size ≤ B) (hb : Below B w w') : SSl w' v xs := by
  refine ⟨h.val.imp id ?_, h.wf, h.len⟩
  rintro ⟨g, off, cap, rfl, hg, hc⟩
  refine ⟨g, off, cap, rfl, Nat.lt_of_lt_of_le hg hb.size, fun i hi j hj => ?_⟩
  rw [← hc i hi j hj]
  unfold World.cell?
  rw [hb.block g (by omega)]

theorem SSl.any {w : World} {v : Value} {xs : Slots} (h : SSl w v xs) : ∃ a cap, v = .slice a xs.length cap := by
  rcases h.val with ⟨rfl, a, cap, rfl⟩ | ⟨g, off, cap, rfl, -⟩
  · exact ⟨a, cap, rfl⟩
  · exact ⟨_, cap, rfl⟩

theorem wpList_make_run {P : Program} {w w' : World} {ops : Array Oper} {rest : List Oper} {o : Oper} {a : Act} {Q : Exit → Act → World → Prop}
    (hg : o.guard = none) (l c : Operand) (t : TypeId) (hop : o.op = Op.makeSlice t l c) (v1 v2 v : Value) (hl : a.eval l = v1) (hc : a.eval c = v2) (hrun : (Instr.makeSlice t v1 v2).run P w = .ok v w') (h : wpList P ops Q rest (a.put o.dst v) w') : wpList P ops Q (o :: rest) a w := by
  refine wpList_plain hg fun K hK' => ?_
  unfold Oper.wp execOp
  simp only [hop, hl, hc, Sem.run_bind, hrun, Sem.run_pure, Result.andThen_ok]
  exact hK' _ _ h

theorem run_indexS {P : Program} (w : World) (ty e : TypeId) (g off n cap k s : Nat) (hu : P.underlying ty = some (.slice e)) (he : (P.info? e).map (·.size) = some s) (hk : k < n) :
    (Instr.indexAt ty (.slice (some ⟨g, off, none⟩) n cap) (.int .i64 (k : Int))).run P w = .ok (.pointer (some ⟨g, off + k * s, none⟩)) w := by
  cases hq : P.info? e with
  | none => simp [hq] at he
  | some i =>
    have hs : i.size = s := by simpa [hq] using he
    by_cases h0 : k * s = 0
    · simp [Instr.indexAt, asIntOf, run_underlying hu, hk, sizeOf, typeInfo, hq, hs, Addr.add, h0]
    · simp [Instr.indexAt, asIntOf, run_underlying hu, hk, sizeOf, typeInfo, hq, hs, Addr.add, h0]

theorem made_slots (n : Nat) : madeCells (Value.agg #[.bool false, .bool false, .bool false, .bool false, .bool false, .bool false, .bool false, .bool false, .int .i64 0]).cells (n * 9) = slC (slZ n) := by
  have e : (Value.agg #[.bool false, .bool false, .bool false, .bool false, .bool false, .bool false, .bool false, .bool false, .int .i64 0]).cells = sl1 (noes 8) 0 := zsl
  rw [e]
  unfold madeCells
  have hs := sl1_size (noes_len 8) 0
  apply Array.ext
  · rw [slC_size (slZ_w n)]; simp [slZ]
  · intro i h1 h2
    have hi : i < n * 9 := by simpa using h1
    have hlen : (slZ n).length = n := by simp [slZ]
    have hq : i / 9 < n := by omega
    have hr : i % 9 < 9 := by omega
    have g := slC_get (slZ_w n) (i := i / 9) (j := i % 9) (by rw [hlen]; exact hq) hr
    rw [show i / 9 * 9 + i % 9 = i from by omega] at g
    have hz : (slZ n).getD (i / 9) ([], 0) = (noes 8, 0) := by
      rw [List.getD_eq_getElem?_getD, List.getElem?_eq_getElem (by rw [hlen]; exact hq)]
      simp [slZ]
    have h3 : (slC (slZ n))[i]? = some ((slC (slZ n))[i]'h2) := Array.getElem?_eq_getElem h2
    unfold sb st at g
    rw [hz] at g
    rw [h3] at g
    simp only [Array.getElem_map, Array.getElem_range, hs]
    have : (sl1 (noes 8) 0)[i % 9]! = (sl1 (noes 8) 0)[i % 9]'(by rw [hs]; exact hr) := getElem!_pos _ _ _
    rw [this]
    have g' := g.symm
    rw [Array.getElem?_eq_getElem (by rw [hs]; exact hr)] at g'
    exact Option.some.inj g'

theorem run_make_slots (W : World) (n : Nat) (hn : n ≤ 1048576) : (Instr.makeSlice 26 (.int .i64 (n : Int)) (.int .i64 (n : Int))).run Try.prog W = .ok (.slice (some ⟨W.heap.size, 0, none⟩) n n) (W.alloc (.cells (slC (slZ n)) 49)) := by
  have hi : (Try.prog.info? 49).map (fun i => (i.zero, i.size, i.bytes)) = some (some (.agg #[.bool false, .bool false, .bool false, .bool false, .bool false, .bool false, .bool false, .bool false, .int .i64 0]), 9, 16) := by kernel_rfl
  obtain ⟨i, h1, h2, h3, h4⟩ := info_parts hi
  have := run_make (P := Try.prog) W 26 49 i (.agg #[.bool false, .bool false, .bool false, .bool false, .bool false, .bool false, .bool false, .bool false, .int .i64 0]) Try.underlying26 h1 h2 .i64 .i64 (n : Int) (n : Int) (by omega) (by omega) (by rw [h4]; omega) (by omega)
  rw [Int.toNat_natCast, h3, made_slots] at this
  exact this

theorem eqSlotS_same (g1 g2 : Nat) (xs : Slots) (hW : SlW xs) (hn : xs.length ≤ 1048576) (T1 T2 : TypeId) (w : World) (h1 : At w g1 (slC xs) T1) (h2 : At w g2 (slC xs) T2) :
    Calls Try.prog 29 #[.slice (some ⟨g1, 0, none⟩) xs.length xs.length, .slice (some ⟨g2, 0, none⟩) xs.length xs.length] w fun e w' => e = .returned (.bool true) ∧ Below w.heap.size w w' := by
  have HX := Lib.hid (And.intro hW (And.intro h1 h2))
  obtain ⟨n, hnn⟩ : ∃ n, n = xs.length := ⟨_, rfl⟩
  rw [← hnn] at hn ⊢
  have HN := Lib.hid hnn
  clear hnn hW h1 h2
  go_enter Try.func29, Try.ntmps29
  go_wp2
  go_loopw [5] (fun i wr => ∃ k : Nat, k ≤ n ∧ i = .int .i64 (k : Int) ∧ Hid (Below w.heap.size w wr)) (fun i _ => n - (intOf i).toNat)
  case atStart => exact ⟨0, by omega, rfl, Lib.hid (Below.refl _ _)⟩
  case round =>
    obtain ⟨k, hk, rfl, B1⟩ := hrel
    by_cases hlt : k < n
    · have s2 : IntKind.i64.wrap ((k : Int) + 1) = (k : Int) + 1 := IntWalk.i64_in _ (by omega)
      have kd : (k : Int) < (n : Int) := by omega
      have A1 := HX.out.2.1.step B1.out
      have A2 := HX.out.2.2.step B1.out
      have hkl : k < xs.length := by rw [← HN.out]; exact hlt
      have hb := (HX.out.1.at hkl).1
      have SS := slC_size HX.out.1
      have hle : k * 9 + 9 ≤ (slC xs).size := by rw [SS]; omega
      have hsl := slC_slot HX.out.1 hkl (k := k * 9) rfl
      have hC := Cb.const wr
      clear SS hkl
      go_wp2
      refine wp_region_cb (by kernel_rfl) (by kernel_rfl) ?_
      repeat (first
        | go_big_quiet_skip
        | (go_big_quiet_want; first
          | (refine q_part 49 _ rfl (k * 9) rfl A1 9 hle _ Try.underlying49 rfl (by kernel_rfl) (sl1 (sb xs k) (st xs k)) hsl ?_; go_simp; go_big_quiet_on)
          | (refine q_part 49 _ rfl (k * 9) rfl A2 9 hle _ Try.underlying49 rfl (by kernel_rfl) (sl1 (sb xs k) (st xs k)) hsl ?_; go_simp; go_big_quiet_on)
          | (go_big_quiet_op; go_big_quiet_on)
          | (go_big_quiet_op; apply Exists.intro; refine ⟨fun w' hw' => ?_, ?_⟩; (go_at_call 44; exact (eqSlot_same (sb xs k) hb (st xs k) _).mono fun _ _ h => ⟨h.1, hw'.step h.2⟩); go_big_quiet_on)))
      refine wpQuiet_nil ?_
      intro w2 hw2
      have B2 := Lib.hid (bthen B1.out hw2)
      clear A1 A2 hb hle hsl hC B1 hw2
      go_wp2
      exact ⟨⟨k + 1, by omega, by go_num, B2⟩, by simp [intOf]; omega⟩
    · obtain rfl : n = k := by omega
      go_wp2
      go_ret
      exact ⟨rfl, B1.out⟩

end Go.Proofs.Ytlpbehokcogcpaa
