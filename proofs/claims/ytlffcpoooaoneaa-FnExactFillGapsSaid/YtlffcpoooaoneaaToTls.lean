/-
  CONTRACTS: slices of tallies, a law's made the program's, and held against each other; sizes.
-/
import Derived.Test.YtlffcpoooaoneaaToTl
import Derived.Test.YtlffcpoooaoneaaLawS
import Derived.Laws.MakeOwn
import Derived.OwnWalk
namespace Go.Proofs.Ytlffcpoooaoneaa
open Go Go.ChangeShapes Go.WideShapes Go.ChangeAt Go.RowKit
set_option maxRecDepth 100000

/-- cells one after the other, loaded as an array or a struct -/
theorem run_loadAt_cells {P : Program} (w : World) (g off n : Nat) (ty : TypeId) (c : Array Value) (d : TypeDesc) (hn : c.size = n) (hu : P.underlying ty = some d) (hd : (match d with | .struct _ | .array _ _ => true | _ => false) = true) (hi : (P.info? ty).map (·.size) = some n)
    (hc : ∀ j, j < n → w.cell? ⟨g, off + j, none⟩ = c[j]?) : (Instr.loadAt ty (.pointer (some ⟨g, off, none⟩))).run P w = .ok (.agg c) w := by
  have hl := run_loadCells (P := P) w ⟨g, off, none⟩ n (fun j => c.getD j undef) (fun j hj => by
    have hadd : (⟨g, off, none⟩ : Addr).add j = ⟨g, off + j, none⟩ := by unfold Addr.add; split <;> simp_all
    rw [hadd, hc j hj, Array.getD_eq_getD_getElem?, Array.getElem?_eq_getElem (by omega)]; rfl)
  have he : ((List.range n).map fun j => c.getD j undef).toArray = c := by
    apply Array.ext_getElem?
    intro i
    by_cases h : i < n
    · simp [h, Array.getD_eq_getD_getElem?]
      rw [Array.getElem?_eq_getElem (by omega)]; rfl
    · rw [Array.getElem?_eq_none (by simp; omega), Array.getElem?_eq_none (by omega)]
  rw [he] at hl
  cases hq : P.info? ty with
  | none => simp [hq] at hi
  | some i =>
    have hs : i.size = n := by simpa [hq] using hi
    have hagg : (isAgg ty).run P w = .ok true w := by
      unfold isAgg
      rw [Sem.run_bind, run_underlying hu w]
      cases d <;> simp_all
    simp only [Instr.loadAt, Instr.sureAddr, Sem.run_bind, Sem.run_pure, Result.andThen]
    simp [loadVar, Sem.run_bind, hagg, sizeOf, typeInfo, hq, hs, hl]

/-- a slice of tallies that came in -/
structure STl (w : World) (v : Value) (xs : Ts) : Prop where
  val : (xs = [] ∧ ∃ a cap, v = .slice a 0 cap) ∨ ∃ g off cap, v = .slice (some ⟨g, off, none⟩) xs.length cap ∧ g < w.heap.size ∧ ∀ i, i < xs.length → ∀ j, j < 3 → w.cell? ⟨g, off + i * 3 + j, none⟩ = (t1 (tn xs i) (tc xs i) (tf xs i))[j]?
  wf : TW xs
  len : xs.length ≤ maxLen
theorem STl.step {B : Nat} {w w' : World} {v : Value} {xs : Ts} (h : STl w v xs) (hB : w.heap.size ≤ B) (hb : Below B w w') : STl w' v xs := by
  refine ⟨h.val.imp id ?_, h.wf, h.len⟩
  rintro ⟨g, off, cap, rfl, hg, hc⟩
  refine ⟨g, off, cap, rfl, Nat.lt_of_lt_of_le hg hb.size, fun i hi j hj => ?_⟩
  rw [← hc i hi j hj]
  unfold World.cell?
  rw [hb.block g (by omega)]
theorem STl.any {w : World} {v : Value} {xs : Ts} (h : STl w v xs) : ∃ a cap, v = .slice a xs.length cap := by
  rcases h.val with ⟨rfl, a, cap, rfl⟩ | ⟨g, off, cap, rfl, -⟩
  · exact ⟨a, cap, rfl⟩
  · exact ⟨_, cap, rfl⟩

theorem wpList_make_run {P : Program} {w w' : World} {ops : Array Oper} {rest : List Oper} {o : Oper} {a : Act} {Q : Exit → Act → World → Prop}
    (hg : o.guard = none) (l c : Operand) (t : TypeId) (hop : o.op = Op.makeSlice t l c) (v1 v2 v : Value) (hl : a.eval l = v1) (hc : a.eval c = v2) (hrun : (Instr.makeSlice t v1 v2).run P w = .ok v w') (h : wpList P ops Q rest (a.put o.dst v) w') : wpList P ops Q (o :: rest) a w := by
  refine wpList_plain hg fun K hK' => ?_
  unfold Oper.wp execOp
  simp only [hop, hl, hc, Sem.run_bind, hrun, Sem.run_pure, Result.andThen_ok]
  exact hK' _ _ h
theorem run_indexS {P : Program} (w : World) (ty e : TypeId) (g off n cap k s : Nat) (hu : P.underlying ty = some (.slice e)) (he : (P.info? e).map (·.size) = some s) (hk : k < n) :
    (Instr.indexAt ty (.slice (some ⟨g, off, none⟩) n cap) (.int .i64 (k : Int))).run P w = .ok (.pointer (some ⟨g, off + k * s, none⟩)) w := by
  cases hq : P.info? e with
  | none => simp [hq] at he
  | some i =>
    have hs : i.size = s := by simpa [hq] using he
    by_cases h0 : k * s = 0
    · simp [Instr.indexAt, asIntOf, run_underlying hu, hk, sizeOf, typeInfo, hq, hs, Addr.add, h0]
    · simp [Instr.indexAt, asIntOf, run_underlying hu, hk, sizeOf, typeInfo, hq, hs, Addr.add, h0]
theorem made_tallies (n : Nat) : madeCells (Value.agg #[.int .i64 0, .int .i16 0, .int .i16 0]).cells (n * 3) = tC (tZ n) := by
  have e : (Value.agg #[.int .i64 0, .int .i16 0, .int .i16 0]).cells = t1 0 0 0 := rfl
  rw [e]
  unfold madeCells
  apply Array.ext
  · rw [tC_size]; simp [tZ]
  · intro i h1 h2
    have hi : i < n * 3 := by simpa using h1
    have hlen : (tZ n).length = n := by simp [tZ]
    have hq : i / 3 < n := by omega
    have hr : i % 3 < 3 := by omega
    have g := tC_get (xs := tZ n) (i := i / 3) (j := i % 3) (by rw [hlen]; exact hq) hr
    rw [show i / 3 * 3 + i % 3 = i from by omega] at g
    have hz : (tZ n).getD (i / 3) (0, 0, 0) = (0, 0, 0) := by
      rw [List.getD_eq_getElem?_getD, List.getElem?_eq_getElem (by rw [hlen]; exact hq)]
      simp [tZ]
    have h3 : (tC (tZ n))[i]? = some ((tC (tZ n))[i]'h2) := Array.getElem?_eq_getElem h2
    unfold tn tc tf at g
    rw [hz] at g
    rw [h3] at g
    simp only [Array.getElem_map, Array.getElem_range, t1_size]
    have : (t1 0 0 0)[i % 3]! = (t1 0 0 0)[i % 3]'(by rw [t1_size]; exact hr) := getElem!_pos _ _ _
    rw [this]
    have g' := g.symm
    rw [Array.getElem?_eq_getElem (by rw [t1_size]; exact hr)] at g'
    exact Option.some.inj g'
theorem run_make_tallies (W : World) (n : Nat) (hn : n ≤ 1048576) : (Instr.makeSlice 24 (.int .i64 (n : Int)) (.int .i64 (n : Int))).run Try.prog W = .ok (.slice (some ⟨W.heap.size, 0, none⟩) n n) (W.alloc (.cells (tC (tZ n)) 111)) := by
  have hi : (Try.prog.info? 111).map (fun i => (i.zero, i.size, i.bytes)) = some (some (.agg #[.int .i64 0, .int .i16 0, .int .i16 0]), 3, 16) := by kernel_rfl
  obtain ⟨i, h1, h2, h3, h4⟩ := info_parts hi
  have := run_make (P := Try.prog) W 24 111 i (.agg #[.int .i64 0, .int .i16 0, .int .i16 0]) Try.underlying24 h1 h2 .i64 .i64 (n : Int) (n : Int) (by omega) (by omega) (by rw [h4]; omega) (by omega)
  rw [Int.toNat_natCast, h3, made_tallies] at this
  exact this

theorem toTallyS_any (v : Value) (xs : Ts) (w : World) (hF : STl w v xs) (hn : xs.length ≤ 1048576) :
    Calls Try.prog 17 #[v] w fun e w' => e = .returned (.slice (some ⟨w.heap.size, 0, none⟩) xs.length xs.length) ∧ At w' w.heap.size (tC xs) 111 ∧ Below w.heap.size w w' := by
  have hmk := run_make_tallies w xs.length hn
  have A0 := At.new w (tC (tZ xs.length)) 111
  have B0 := Lib.hid (b0 w (.cells (tC (tZ xs.length)) 111))
  rcases hF.val with ⟨hx, a, cap, rfl⟩ | ⟨g, off, cap, rfl, hg, hcell⟩
  · subst hx
    have hmk' : (Instr.makeSlice 24 (.int .i64 0) (.int .i64 0)).run Try.prog w = .ok (.slice (some ⟨w.heap.size, 0, none⟩) 0 0) (w.alloc (.cells (tC (tZ 0)) 111)) := hmk
    clear hmk hF
    go_enter Try.func17, Try.ntmps17
    go_wp2_with ((at_make; refine wpList_make_run rfl _ _ _ rfl _ _ _ rfl rfl hmk' ?_))
    go_loopw [4] (fun i wr => i = .int .i64 0 ∧ wr = w.alloc (.cells (tC (tZ 0)) 111)) (fun _ _ => 0)
    case atStart => exact ⟨rfl, rfl⟩
    case round =>
      obtain ⟨rfl, rfl⟩ := hrel
      go_wp2
      go_ret
      exact ⟨rfl, A0, B0.out⟩
  · have HC := Lib.hid hcell
    clear hcell hF
    obtain ⟨n, hnn⟩ : ∃ n, n = xs.length := ⟨_, rfl⟩
    rw [← hnn] at hn hmk A0 B0 ⊢
    have HN := Lib.hid hnn
    clear hnn
    go_enter Try.func17, Try.ntmps17
    go_wp2_with ((at_make; refine wpList_make_run rfl _ _ _ rfl _ _ _ rfl rfl hmk ?_))
    clear hmk
    go_loopw [4] (fun i wr => ∃ k : Nat, k ≤ n ∧ i = .int .i64 (k : Int) ∧ At wr w.heap.size (tC (cpTl n xs k)) 111 ∧ Hid (Below w.heap.size w wr)) (fun i _ => n - (intOf i).toNat)
    case atStart => exact ⟨0, by omega, rfl, by rw [cpTl_zero]; exact A0, B0⟩
    case round =>
      clear A0 B0
      obtain ⟨k, hk, rfl, A1, B1⟩ := hrel
      have hl := HN.out.symm
      by_cases hlt : k < n
      · have s2 : IntKind.i64.wrap ((k : Int) + 1) = (k : Int) + 1 := IntWalk.i64_in _ (by omega)
        have kd : (k : Int) < (n : Int) := by omega
        have hld := Lib.hid (run_loadAt_cells (P := Try.prog) wr g (off + k * 3) 3 113 (t1 (tn xs k) (tc xs k) (tf xs k)) _ (t1_size _ _ _) Try.underlying113 rfl (by kernel_rfl) (fun j hj => by
          rw [← HC.out k (by omega) j hj]
          unfold World.cell?
          rw [B1.out.block g hg]))
        go_wp2_with ((with_reducible refine is_load 113 _ rfl ?_); refine wpList_load_of rfl 113 _ rfl _ rfl _ hld.out ?_)
        refine (toTally_any _ _ _ _).mono ?_
        rintro e w2 ⟨rfl, hb2⟩
        have A2 := A1.step hb2
        have B2 := Lib.hid (bthen B1.out hb2)
        clear A1 B1 hb2 hld
        have A3 := A2.setRow (tC (cpTl n xs (k + 1)))
        have B3 := Lib.hid (bset B2.out (g := w.heap.size) (Nat.le_refl _) (tC (cpTl n xs (k + 1))))
        go_wp2_with (((with_reducible refine is_store 111 _ _ rfl ?_); refine wpList_store_part rfl 111 _ _ rfl _ _ rfl ((t1 (tn xs k) (tc xs k) (tf xs k))) rfl (tC (cpTl n xs k)) _ (by with_reducible assumption) 3 (t1_size _ _ _) (by rw [tC_size, cpTl_len hl hk]; omega) (by kernel_rfl) (t1_one _ _ _) (tC (cpTl n xs (k + 1))) (cpTl_splice hl hlt (by omega)) ?_))
        exact ⟨⟨k + 1, by omega, by go_num, A3, B3⟩, by simp [intOf]; omega⟩
      · obtain rfl : n = k := by omega
        rw [cpTl_all hl] at A1
        clear hl
        go_wp2
        go_ret
        exact ⟨rfl, A1, B1.out⟩

theorem eqTallyS_same (g1 g2 : Nat) (xs : Ts) (cap1 cap2 : Nat) (hn : xs.length ≤ 1048576) (T1 T2 : TypeId) (w : World) (h1 : At w g1 (tC xs) T1) (h2 : At w g2 (tC xs) T2) :
    Calls Try.prog 19 #[.slice (some ⟨g1, 0, none⟩) xs.length cap1, .slice (some ⟨g2, 0, none⟩) xs.length cap2] w fun e w' => e = .returned (.bool true) ∧ Below w.heap.size w w' := by
  have HX := Lib.hid (And.intro h1 h2)
  obtain ⟨n, hnn⟩ : ∃ n, n = xs.length := ⟨_, rfl⟩
  rw [← hnn] at hn ⊢
  have HN := Lib.hid hnn
  clear hnn h1 h2
  go_enter Try.func19, Try.ntmps19
  go_wp2
  go_loopw [5] (fun i wr => ∃ k : Nat, k ≤ n ∧ i = .int .i64 (k : Int) ∧ Hid (Below w.heap.size w wr)) (fun i _ => n - (intOf i).toNat)
  case atStart => exact ⟨0, by omega, rfl, Lib.hid (Below.refl _ _)⟩
  case round =>
    obtain ⟨k, hk, rfl, B1⟩ := hrel
    by_cases hlt : k < n
    · have s2 : IntKind.i64.wrap ((k : Int) + 1) = (k : Int) + 1 := IntWalk.i64_in _ (by omega)
      have kd : (k : Int) < (n : Int) := by omega
      have A1 := HX.out.1.step B1.out
      have A2 := HX.out.2.step B1.out
      have hkl : k < xs.length := by rw [← HN.out]; exact hlt
      have SS := tC_size xs
      have hle : k * 3 + 3 ≤ (tC xs).size := by rw [SS]; omega
      have hsl := tC_tally hkl (k := k * 3) rfl
      have hC := Cb.const wr
      clear SS hkl
      go_wp2
      refine wp_region_cb (by kernel_rfl) (by kernel_rfl) ?_
      repeat (first
        | go_big_quiet_skip
        | (go_big_quiet_want; first
          | (refine q_part 111 _ rfl (k * 3) rfl A1 3 hle _ Try.underlying111 rfl (by kernel_rfl) (t1 (tn xs k) (tc xs k) (tf xs k)) hsl ?_; go_simp; go_big_quiet_on)
          | (refine q_part 111 _ rfl (k * 3) rfl A2 3 hle _ Try.underlying111 rfl (by kernel_rfl) (t1 (tn xs k) (tc xs k) (tf xs k)) hsl ?_; go_simp; go_big_quiet_on)
          | (go_big_quiet_op; go_big_quiet_on)
          | (go_big_quiet_op; apply Exists.intro; refine ⟨fun w' hw' => ?_, ?_⟩; (go_at_call 77; exact (eqTally_same _ _ _ _).mono fun _ _ h => ⟨h.1, hw'.step h.2⟩); go_big_quiet_on)))
      refine wpQuiet_nil ?_
      intro w2 hw2
      have B2 := Lib.hid (bthen B1.out hw2)
      clear A1 A2 hle hsl hC B1 hw2
      go_wp2
      exact ⟨⟨k + 1, by omega, by go_num, B2⟩, by simp [intOf]; omega⟩
    · obtain rfl : n = k := by omega
      go_wp2
      go_ret
      exact ⟨rfl, B1.out⟩

theorem szTallyS_any (a : Option Addr) (n cap : Nat) (left : Int) (hl : 0 ≤ left ∧ left ≤ 1048576) (hn : n ≤ maxLen) (w : World) :
    Calls Try.prog 15 #[.slice a n cap, .int .i64 left] w fun e w' => e = .returned (.int .i64 (if left < n then -1 else left - n)) ∧ w' = w := by
  have hm : n ≤ 9223372036854775807 := Nat.le_trans hn (by decide)
  have s1 : IntKind.i64.wrap (left - (n : Int)) = left - (n : Int) := IntWalk.i64_in _ (by omega)
  by_cases h : left < (n : Int)
  · rw [if_pos h]
    go_enter Try.func15, Try.ntmps15
    go_wp2
    go_ret
    exact ⟨rfl, rfl⟩
  · rw [if_neg h]
    go_enter Try.func15, Try.ntmps15
    go_wp2
    go_ret
    exact ⟨rfl, rfl⟩

end Go.Proofs.Ytlffcpoooaoneaa
