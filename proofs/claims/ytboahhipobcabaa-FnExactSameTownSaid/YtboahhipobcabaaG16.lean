/-
  SEVERAL TEXTS IN ONE.
-/
import Derived.Test.YtboahhipobcabaaG1
import Derived.Laws.StructEq
import Derived.Test.YtboahhipobcabaaG15
import Derived.Test.YtboahhipobcabaaG9

/-
  ARRAYS AND STRUCTS OF WORDS HELD AGAINST EACH OTHER BY ==.
  No Go text in it. Conditions: those of each theorem.
-/
namespace Go.Proofs.Ytboahhipobcabaa
open Go

/-- a row of 32-bit words -/
def ub (xs : List Nat) : Array Value := (xs.map fun x => Value.int .u32 (x : Nat)).toArray
theorem ub_size (xs : List Nat) : (ub xs).size = xs.length := by simp [ub]
theorem ub_one (xs : List Nat) : (ub xs).all (·.oneCell') = true := by
  simp only [ub, List.all_toArray, List.all_map]
  rw [List.all_eq_true]
  intro x _
  rfl
theorem ub_get {xs : List Nat} {k : Nat} (h : k < xs.length) : (ub xs)[k]? = some (.int .u32 (nth xs k : Nat)) := by
  simp [ub, nth, List.getElem?_map, List.getElem?_eq_getElem h, List.getD]
theorem ub_set (xs : List Nat) (k x : Nat) : (ub xs).setIfInBounds k (.int .u32 (x : Nat)) = ub (xs.set k x) := by
  apply Array.ext'
  simp [ub]

variable {P : Program}

theorem run_part_u32 (w : World) (e : TypeId) (xs : List Nat) (k : Nat) (hue : P.underlying e = some (.int .u32)) (hk : k < xs.length) : (part e (ub xs) k).run P w = .ok (.int .u32 (nth xs k : Nat)) w := by
  have hagg : (isAgg e).run P w = .ok false w := by
    unfold isAgg
    rw [Sem.run_bind, run_underlying hue w]
    rfl
  simp [part, Sem.run_bind, hagg, ub_get hk]

theorem forIn_run (w : World) (f : Nat → (Option Bool × Unit) → Sem (ForInStep (Option Bool × Unit))) (p : Nat → Bool) (L : List Nat)
    (h : ∀ i ∈ L, ∀ s, (f i s).run P w = .ok (if p i then .yield (none, ()) else .done (some false, ())) w) :
    (forIn L (none, ()) f).run P w = .ok (if L.all p then (none, ()) else (some false, ())) w := by
  induction L with
  | nil => rfl
  | cons i L ih =>
    have h0 := h i (by simp) (none, ())
    have ih' := ih (fun j hj s => h j (by simp [hj]) s)
    rw [List.forIn_cons, Sem.run_bind, h0]
    cases hp : p i
    · simp [hp]
    · simp [hp, ih']

theorem all_eq_iff {xs ys : List Nat} (h : xs.length = ys.length) : ((List.range' 0 xs.length).all fun i => decide (nth xs i = nth ys i)) = decide (xs = ys) := by
  rw [Bool.eq_iff_iff]
  simp only [List.all_eq_true, decide_eq_true_eq]
  constructor
  · intro q
    apply List.ext_getElem h
    intro i h1 h2
    have := q i (by simp [List.mem_range'_1]; exact h1)
    simpa [nth, List.getD, List.getElem?_eq_getElem h1, List.getElem?_eq_getElem h2] using this
  · intro e i _; rw [e]

/-- two arrays of 32-bit words -/
theorem run_eq_u32s (w : World) (d : Nat) (t e : TypeId) (n : Nat) (xs ys : List Nat) (hu : P.underlying t = some (.array n e)) (hue : P.underlying e = some (.int .u32)) (he : (P.info? e).map (·.size) = some 1) (hx : xs.length = n) (hy : ys.length = n) :
    (Op.equalIn (d + 2) t (.agg (ub xs)) (.agg (ub ys))).run P w = .ok (decide (xs = ys)) w := by
  cases hq : P.info? e with
  | none => simp [hq] at he
  | some i =>
    have hs : i.size = 1 := by simpa [hq] using he
    unfold Op.equalIn
    simp only [Sem.run_bind, run_underlying hu w, Result.andThen_ok, sizeOf, typeInfo]
    simp [hq, hs]
    rw [forIn_run w _ (fun i => decide (nth xs i = nth ys i)) _ ?_]
    · subst hx
      rw [all_eq_iff hy.symm]
      by_cases c : xs = ys <;> simp [c]
    · intro k hk s
      have hk' : k < n := by simpa [List.mem_range'_1] using hk
      rw [Sem.run_bind, run_part_u32 w e xs k hue (by omega)]
      simp only [Result.andThen_ok]
      rw [Sem.run_bind, run_part_u32 w e ys k hue (by omega)]
      simp only [Result.andThen_ok]
      rw [Sem.run_bind, run_equalIn_int w d e .u32 .u32 _ _ hue]
      simp only [Result.andThen_ok]
      by_cases c : nth xs k = nth ys k
      · simp [c]
      · have : ¬ ((nth xs k : Nat) : Int) = ((nth ys k : Nat) : Int) := by omega
        simp [c, this]
theorem run_eql_u32s (w : World) (t e : TypeId) (n : Nat) (xs ys : List Nat) (hu : P.underlying t = some (.array n e)) (hue : P.underlying e = some (.int .u32)) (he : (P.info? e).map (·.size) = some 1) (hx : xs.length = n) (hy : ys.length = n) :
    (binOp .eql t (.agg (ub xs)) (.agg (ub ys))).run P w = .ok (.bool (decide (xs = ys))) w := by
  rw [run_eql_struct, show (10000 : Nat) = 9998 + 2 from rfl, run_eq_u32s w 9998 t e n xs ys hu hue he hx hy]
  rfl

/-- two structs of three 32-bit words -/
theorem run_eql_three (w : World) (t e : TypeId) (f1 f2 f3 : Field) (a1 a2 a3 b1 b2 b3 : Nat) (ht : P.underlying t = some (.struct (P.fieldsOf t))) (hp : P.stoodInHeld t = false) (hf : (P.fieldsOf t).toList = [f1, f2, f3]) (hue : P.underlying e = some (.int .u32))
    (t1 : f1.type = e) (t2 : f2.type = e) (t3 : f3.type = e) (o1 : f1.offset = 0) (o2 : f2.offset = 1) (o3 : f3.offset = 2) (n1 : f1.name ≠ "_") (n2 : f2.name ≠ "_") (n3 : f3.name ≠ "_") :
    (binOp .eql t (.agg (ub [a1, a2, a3])) (.agg (ub [b1, b2, b3]))).run P w = .ok (.bool (decide (a1 = b1 ∧ a2 = b2 ∧ a3 = b3))) w := by
  have q : ∀ x y : Nat, ((x : Int) == (y : Int)) = decide (x = y) := fun x y => by
    by_cases c : x = y
    · simp [c]
    · have : ¬ ((x : Nat) : Int) = ((y : Nat) : Int) := by omega
      simp [c, this]
  rw [run_eql_struct, show (10000 : Nat) = 9999 + 1 from rfl, run_equalIn_struct _ 9999 t _ _ ht hp, hf]
  have E : ∀ x y : Int, (Op.equalIn 9999 e (.int .u32 x) (.int .u32 y)).run P w = .ok (x == y) w := fun x y => run_equalIn_int w 9998 e .u32 .u32 x y hue
  simp only [Op.eqFields, n1, n2, n3, ne_eq, not_false_eq_true, if_true, t1, t2, t3, o1, o2, o3, Sem.run_bind, Sem.run_ite,
    run_part_u32 w e [a1, a2, a3] 0 hue (by simp), run_part_u32 w e [a1, a2, a3] 1 hue (by simp), run_part_u32 w e [a1, a2, a3] 2 hue (by simp),
    run_part_u32 w e [b1, b2, b3] 0 hue (by simp), run_part_u32 w e [b1, b2, b3] 1 hue (by simp), run_part_u32 w e [b1, b2, b3] 2 hue (by simp), Result.andThen_ok,
    E, q]
  by_cases c1 : a1 = b1 <;> by_cases c2 : a2 = b2 <;> by_cases c3 : a3 = b3 <;> simp [nth, c1, c2, c3]
end Go.Proofs.Ytboahhipobcabaa

/-
  CONTRACTS: a road's numbers that hold for all its cells, as bits.
-/
namespace Go.Proofs.Ytboahhipobcabaa
open Go Go.RowKit

theorem numberBits_b (a : Nat) (ha : a < 4294967296) (w : World) :
    Calls Try.prog 70 #[.float .f32 a] w fun e w' => e = .returned (.int .u32 (nbits a)) ∧ Below w.heap.size w w' :=
  (numberBits_any a ha w).mono fun _ _ h => ⟨h.1, by obtain ⟨n, rfl⟩ := h.2; exact bdrew (Below.refl _ _) n⟩

theorem rulesOf_any (cs : List Nat) (p b l : Nat) (hl : cs.length = 16) (hp : p < 4294967296) (hb : b < 4294967296) (hla : l < 4294967296) (w : World) :
    Calls Try.prog 69 #[.agg (rd cs p b l)] w fun e w' => e = .returned (.agg (ub [nbits p, nbits b, nbits l])) ∧ Below w.heap.size w w' := by
  have A0 : At ((w.alloc (.cells (rd cs p b l) 62)).alloc (.cells #[.int .u32 0, .int .u32 0, .int .u32 0] 134)) w.heap.size (rd cs p b l) 62 := (At.new w _ _).alloc _
  have R0 : At ((w.alloc (.cells (rd cs p b l) 62)).alloc (.cells #[.int .u32 0, .int .u32 0, .int .u32 0] 134)) (w.heap.size + 1) #[.int .u32 0, .int .u32 0, .int .u32 0] 134 := At.new1 w _ _ _
  have B0 := Lib.hid (bnew (b0 w (.cells (rd cs p b l) 62)) (.cells #[.int .u32 0, .int .u32 0, .int .u32 0] 134))
  have d1 := rd_pace hl p b l
  have d2 := rd_back hl p b l
  have d3 := rd_lanes hl p b l
  go_enter Try.func69, Try.ntmps69
  go_wp2
  generalize (w.alloc (.cells (rd cs p b l) 62)).alloc (.cells #[.int .u32 0, .int .u32 0, .int .u32 0] 134) = w0 at A0 R0 B0 ⊢
  have hC := Cb.const w0
  refine wp_region_cb_tail 10 (by kernel_rfl) (by kernel_rfl) ?_
  simp only [List.take, List.drop]
  repeat (first
    | go_big_quiet_skip
    | (go_big_quiet_want; first
      | (refine q_cell 26 _ rfl _ Try.underlying26 _ rfl A0 _ (by assumption) ?_; go_simp; go_big_quiet_on)
      | (refine q_row 62 _ rfl rfl A0 19 (rd_size hl p b l) _ Try.underlying62 rfl (by kernel_rfl) ?_; go_simp; go_big_quiet_on)
      | (go_big_quiet_op; go_big_quiet_on)
      | (go_big_quiet_op; apply Exists.intro; refine ⟨fun w' hw' => ?_, ?_⟩; (go_at_call 70; exact (numberBits_b _ (by assumption) _).mono fun _ _ h => ⟨h.1, hw'.step h.2⟩); go_big_quiet_on)))
  refine wpQuiet_nil ?_
  intro w1 hw1
  have R1 := R0.step hw1
  have B1 := Lib.hid (bthen B0.out hw1)
  have R9 := R1.setRow (ub [nbits p, nbits b, nbits l])
  have B9 := Lib.hid (bset B1.out (g := w.heap.size + 1) (by omega) (ub [nbits p, nbits b, nbits l]))
  go_wp2_with ((with_reducible refine is_store 134 _ _ rfl ?_); refine wpList_store_at rfl 134 _ _ rfl _ rfl (ub [nbits p, nbits b, nbits l]) rfl #[.int .u32 0, .int .u32 0, .int .u32 0] _ R1 3 (ub_size _) rfl (by kernel_rfl) (ub_one _) ?_)
  exact bodyPost_ret (v := .agg (ub [nbits p, nbits b, nbits l])) (results_at (p := 2) (ty := 134) rfl _ _ _ _ _ rfl R9 _ Try.underlying134 rfl 3 (ub_size _) (by kernel_rfl)) rfl ⟨rfl, B9.out⟩
end Go.Proofs.Ytboahhipobcabaa

/-
  CONTRACTS: a road's shares, as bits.
-/
namespace Go.Proofs.Ytboahhipobcabaa
open Go Go.RowKit

theorem nth_map {cs : List Nat} (f : Nat → Nat) {k : Nat} (h : k < cs.length) : nth (cs.map f) k = f (nth cs k) := by
  simp [nth, List.getD, List.getElem?_map, List.getElem?_eq_getElem h]

theorem carBits_any (cs : List Nat) (hl : cs.length = 16) (hc : ∀ x ∈ cs, x < 4294967296) (w : World) :
    Calls Try.prog 68 #[.agg (fl cs)] w fun e w' => e = .returned (.agg (ub (cs.map nbits))) ∧ Below w.heap.size w w' := by
  have hm : (cs.map nbits).length = 16 := by simp [hl]
  have A0 : At (((w.alloc (.cells (fl cs) 60)).alloc (.cells (ub (zeros 16)) 131)).alloc (.cells (ub (cur (cs.map nbits) 0)) 131)) w.heap.size (fl cs) 60 := ((At.new w _ _).alloc _).alloc _
  have R0 : At (((w.alloc (.cells (fl cs) 60)).alloc (.cells (ub (zeros 16)) 131)).alloc (.cells (ub (cur (cs.map nbits) 0)) 131)) (w.heap.size + 1) (ub (zeros 16)) 131 := (At.new1 w _ _ _).alloc _
  have O0 : At (((w.alloc (.cells (fl cs) 60)).alloc (.cells (ub (zeros 16)) 131)).alloc (.cells (ub (cur (cs.map nbits) 0)) 131)) (w.heap.size + 1 + 1) (ub (cur (cs.map nbits) 0)) 131 := by
    have := At.new ((w.alloc (.cells (fl cs) 60)).alloc (.cells (ub (zeros 16)) 131)) (ub (cur (cs.map nbits) 0)) 131
    rwa [World.size_alloc, World.size_alloc] at this
  have B0 := Lib.hid (bnew (bnew (b0 w (.cells (fl cs) 60)) (.cells (ub (zeros 16)) 131)) (.cells (ub (cur (cs.map nbits) 0)) 131))
  have SZ : (fl cs).size = 16 := by rw [fl_size, hl]
  have HS := Lib.hid SZ
  have HM := Lib.hid hm
  clear SZ hm
  go_enter Try.func68, Try.ntmps68
  go_wp2_with ((with_reducible refine is_load 60 _ rfl ?_); refine wpList_load_at rfl 60 _ rfl _ rfl (fl cs) _ (by assumption) 16 HS.out _ Try.underlying60 rfl (by kernel_rfl) ?_)
  go_loopw [7] (fun i wr => ∃ k : Nat, k ≤ 16 ∧ i = .int .i64 k ∧ At wr w.heap.size (fl cs) 60 ∧ At wr (w.heap.size + 1) (ub (zeros 16)) 131 ∧ At wr (w.heap.size + 1 + 1) (ub (cur (cs.map nbits) k)) 131 ∧ Hid (Below w.heap.size w wr)) (fun i _ => 16 - (intOf i).toNat)
  case atStart => exact ⟨0, by omega, rfl, A0, R0, O0, B0⟩
  case round =>
    obtain ⟨k, hk, rfl, A1, R1, O1, B1⟩ := hrel
    clear A0 R0 O0 B0
    by_cases hlt : k < 16
    · have hi : ∀ W, (Instr.index 60 (.agg (fl cs)) (.int .i64 k)).run Try.prog W = .ok (.float .f32 (nth cs k)) W := fun W =>
        run_index_fl W 60 26 16 cs k Try.underlying60 Try.underlying26 (by kernel_rfl) hlt hl.symm
      have hx := u32_lt hc k
      go_wp2_with fail
      refine (numberBits_any _ hx _).mono ?_
      rintro e w2 ⟨rfl, n2, rfl⟩
      have A2 := A1.drewN n2
      have R2 := R1.drewN n2
      have O2 := O1.drewN n2
      have B2 := Lib.hid (bdrew B1.out n2)
      generalize wr.drewN n2 = w2 at A2 R2 O2 B2 ⊢
      clear A1 R1 O1 B1 hi
      have G := Lib.hid (run_storeAt_one (P := Try.prog) w2 (w.heap.size + 1 + 1) k 131 130 (ub (cur (cs.map nbits) k)) (.int .u32 (nbits (nth cs k) : Nat)) O2 (by kernel_rfl) (by rw [ub_size, cur_len HM.out k hk]; exact hlt) rfl)
      rw [ub_set, show nbits (nth cs k) = nth (cs.map nbits) k from (nth_map nbits (by omega)).symm, cur_set HM.out hlt, nth_map nbits (by omega)] at G
      have A3 := A2.setRow_other (k := w.heap.size + 1 + 1) (by omega) (ub (cur (cs.map nbits) (k + 1)))
      have R3 := R2.setRow_other (k := w.heap.size + 1 + 1) (by omega) (ub (cur (cs.map nbits) (k + 1)))
      have O3 := O2.setRow (ub (cur (cs.map nbits) (k + 1)))
      have B3 := Lib.hid (bset B2.out (g := w.heap.size + 1 + 1) (by omega) (ub (cur (cs.map nbits) (k + 1))))
      clear A2 R2 O2 B2
      go_wp2_with ((with_reducible refine is_store 130 _ _ rfl ?_); refine wpList_store_of rfl 130 _ _ rfl _ rfl _ rfl _ G.out ?_)
      exact ⟨⟨k + 1, by omega, by go_num, A3, R3, O3, B3⟩, by simp [intOf]; omega⟩
    · obtain rfl : k = 16 := by omega
      rw [cur_all HM.out] at O1
      have R9 := R1.setRow (ub (cs.map nbits))
      have B9 := Lib.hid (bset B1.out (g := w.heap.size + 1) (by omega) (ub (cs.map nbits)))
      have SU : (ub (cs.map nbits)).size = 16 := by rw [ub_size]; exact HM.out
      have HU := Lib.hid SU
      clear SU
      go_wp2_with (first | ((with_reducible refine is_load 131 _ rfl ?_); refine wpList_load_at rfl 131 _ rfl _ rfl (ub (cs.map nbits)) _ (by assumption) 16 HU.out _ Try.underlying131 rfl (by kernel_rfl) ?_) | ((with_reducible refine is_store 131 _ _ rfl ?_); refine wpList_store_at rfl 131 _ _ rfl _ rfl (ub (cs.map nbits)) rfl (ub (zeros 16)) _ (by assumption) 16 HU.out (ub_size _) (by kernel_rfl) (ub_one _) ?_))
      exact bodyPost_ret (v := .agg (ub (cs.map nbits))) (results_at (p := 2) (ty := 131) rfl _ _ _ _ _ rfl R9 _ Try.underlying131 rfl 16 HU.out (by kernel_rfl)) rfl ⟨rfl, B9.out⟩
end Go.Proofs.Ytboahhipobcabaa
