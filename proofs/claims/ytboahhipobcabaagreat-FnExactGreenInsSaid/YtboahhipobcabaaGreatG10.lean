/-
  SEVERAL TEXTS IN ONE.
-/
import Derived.Test.YtboahhipobcabaaGreatG3
import Derived.Test.YtboahhipobcabaaGreatG9
import Derived.Test.YtboahhipobcabaaGreatInts
import Derived.Test.YtboahhipobcabaaGreatConv
import Derived.Test.YtboahhipobcabaaGreatG6
import Derived.Test.YtboahhipobcabaaGreatG5
import Derived.StillTail
import Derived.Test.YtboahhipobcabaaGreatG2
import Derived.Barred

/-
  CONTRACTS: slices of flat elements; slices of roads, made the program's.
-/
namespace Go.Proofs.YtboahhipobcabaaGreat
open Go Go.ChangeShapes Go.WideShapes Go.ChangeAt Go.RowKit
set_option maxRecDepth 100000

/-- a slice of flat elements, wherever it lies -/
structure GSl {α : Type} (f : α → Array Value) (s : Nat) (d : α) (w : World) (v : Value) (xs : List α) : Prop where
  val : (xs = [] ∧ ∃ a cap, v = .slice a 0 cap) ∨ ∃ g off cap, v = .slice (some ⟨g, off, none⟩) xs.length cap ∧ g < w.heap.size ∧ ∀ i, i < xs.length → ∀ j, j < s → w.cell? ⟨g, off + i * s + j, none⟩ = (f (fe d xs i))[j]?
  len : xs.length ≤ maxLen

theorem GSl.step {α : Type} {f : α → Array Value} {s : Nat} {d : α} {B : Nat} {w w' : World} {v : Value} {xs : List α} (h : GSl f s d w v xs) (hB : w.heap.size ≤ B) (hb : Below B w w') : GSl f s d w' v xs := by
  refine ⟨h.val.imp id ?_, h.len⟩
  rintro ⟨g, off, cap, rfl, hg, hc⟩
  refine ⟨g, off, cap, rfl, Nat.lt_of_lt_of_le hg hb.size, fun i hi j hj => ?_⟩
  rw [← hc i hi j hj]
  unfold World.cell?
  rw [hb.block g (by omega)]

theorem GSl.any {α : Type} {f : α → Array Value} {s : Nat} {d : α} {w : World} {v : Value} {xs : List α} (h : GSl f s d w v xs) : ∃ a cap, v = .slice a xs.length cap := by
  rcases h.val with ⟨rfl, a, cap, rfl⟩ | ⟨g, off, cap, rfl, -⟩
  · exact ⟨a, cap, rfl⟩
  · exact ⟨_, cap, rfl⟩

theorem GSl.of_at {α : Type} {f : α → Array Value} {s : Nat} {d : α} (hf : ∀ x, (f x).size = s) {w : World} {G cap : Nat} {xs : List α} {T : TypeId} (h : At w G (fm f xs) T) (hm : xs.length ≤ maxLen) : GSl f s d w (.slice (some ⟨G, 0, none⟩) xs.length cap) xs :=
  ⟨.inr ⟨G, 0, cap, rfl, h.lt, fun i hi j hj => by rw [cell_of_row _ _ _ _ _ _ h, Nat.zero_add]; exact fm_get hf hi hj⟩, hm⟩

/-- a slice that is not empty: its elements are loaded -/
theorem GSl.get {α : Type} {f : α → Array Value} {s : Nat} {d : α} (hf : ∀ x, (f x).size = s) {w : World} {v : Value} {xs : List α} (h : GSl f s d w v xs) (hz : xs.length ≠ 0) (ty : TypeId) (fs : Array Field) (hu : Tryz.prog.underlying ty = some (.struct fs)) (hi : (Tryz.prog.info? ty).map (·.size) = some s) : ∃ g off cap, v = .slice (some ⟨g, off, none⟩) xs.length cap ∧
    ∀ k, k < xs.length → ∀ w', Below w.heap.size w w' → (Instr.loadAt ty (.pointer (some ⟨g, off + k * s, none⟩))).run Tryz.prog w' = .ok (.agg (f (fe d xs k))) w' := by
  rcases h.val with ⟨rfl, -⟩ | ⟨g, off, cap, rfl, hg, hc⟩
  · exact absurd rfl hz
  · refine ⟨g, off, cap, rfl, fun k hk w' hb => run_loadAt_cells (P := Tryz.prog) w' g (off + k * s) s ty (f (fe d xs k)) _ (hf _) hu rfl hi (fun j hj' => ?_)⟩
    rw [← hc k hk j hj']
    unfold World.cell?
    rw [hb.block g hg]

/-- a road's numbers, all of them words -/
structure Rd4 where
  cs : List Nat
  p : Nat
  b : Nat
  l : Nat
  hl : cs.length = 16
  hc : ∀ x ∈ cs, x < 4294967296
  hp : p < 4294967296
  hb : b < 4294967296
  hla : l < 4294967296

def rdr (r : Rd4) : Array Value := rd r.cs r.p r.b r.l

def zR : Rd4 := ⟨zeros 16, 0, 0, 0, zeros_len 16, fun x hx => by have := List.eq_of_mem_replicate hx; omega, by omega, by omega, by omega⟩

theorem rdr_size (r : Rd4) : (rdr r).size = 19 := rd_size r.hl _ _ _

theorem rdr_one (r : Rd4) : (rdr r).all (·.oneCell') = true := fl_one _

theorem rdr_z : rdr zR = rd (zeros 16) 0 0 0 := rfl

theorem szRoadS_any (a : Option Addr) (n cap : Nat) (hn : n ≤ maxLen) (left : Int) (hl : 0 ≤ left ∧ left ≤ 1048576) (w : World) :
    Calls Tryz.prog 21 #[.slice a n cap, .int .i64 left] w fun e w' => e = .returned (.int .i64 (if left < (n : Int) then -1 else left - (n : Int))) ∧ Below w.heap.size w w' := by
  have hm : n ≤ 9223372036854775807 := Nat.le_trans hn (by decide)
  have s1 : IntKind.i64.wrap (left - (n : Int)) = left - (n : Int) := IntWalk.i64_in _ (by omega)
  by_cases hb : left < (n : Int)
  · rw [if_pos hb]
    have h1 : left - (n : Int) < 0 := by omega
    go_enter Tryz.func21, Tryz.ntmps21
    go_wp2
    go_ret
    exact ⟨rfl, Below.refl _ _⟩
  · rw [if_neg hb]
    have h1 : ¬ left - (n : Int) < 0 := by omega
    go_enter Tryz.func21, Tryz.ntmps21
    go_wp2
    go_ret
    exact ⟨rfl, Below.refl _ _⟩

theorem run_make_roads (W : World) (n : Nat) (hn : n ≤ 1048576) : (Instr.makeSlice 33 (.int .i64 (n : Int)) (.int .i64 (n : Int))).run Tryz.prog W = .ok (.slice (some ⟨W.heap.size, 0, none⟩) n n) (W.alloc (.cells (fm rdr (List.replicate n zR)) 64)) := by
  have hi : (Tryz.prog.info? 64).map (fun i => (i.zero, i.size, i.bytes)) = some (some (.agg (rdr zR)), 19, 76) := by kernel_rfl
  obtain ⟨i, h1, h2, h3, h4⟩ := info_parts hi
  have := run_make (P := Tryz.prog) W 33 64 i (.agg (rdr zR)) Tryz.underlying33 h1 h2 .i64 .i64 (n : Int) (n : Int) (by omega) (by omega) (by rw [h4]; omega) (by omega)
  rw [Int.toNat_natCast, h3] at this
  rw [← made_fm rdr_size zR n]
  exact this

set_option maxHeartbeats 1000000 in
theorem toRoadS_any (v : Value) (rs : List Rd4) (w : World) (hF : GSl rdr 19 zR w v rs) (hn : rs.length ≤ 1048576) :
    Calls Tryz.prog 27 #[v] w fun e w' => e = .returned (.slice (some ⟨w.heap.size, 0, none⟩) rs.length rs.length) ∧ At w' w.heap.size (fm rdr rs) 64 ∧ Below w.heap.size w w' := by
  have hmk := run_make_roads w rs.length hn
  have A0 := At.new w (fm rdr (List.replicate rs.length zR)) 64
  have B0 := Lib.hid (b0 w (.cells (fm rdr (List.replicate rs.length zR)) 64))
  by_cases z : rs.length = 0
  · obtain ⟨a, cap, rfl⟩ := hF.any
    obtain rfl := List.length_eq_zero_iff.1 z
    have hmk' : (Instr.makeSlice 33 (.int .i64 0) (.int .i64 0)).run Tryz.prog w = .ok (.slice (some ⟨w.heap.size, 0, none⟩) 0 0) (w.alloc (.cells (fm rdr (List.replicate 0 zR)) 64)) := hmk
    clear hmk hF
    go_enter Tryz.func27, Tryz.ntmps27
    go_wp2_with ((at_make; refine wpList_make_runI rfl _ _ _ rfl _ _ _ rfl rfl hmk' ?_))
    go_loopw [4] (fun i wr => i = .int .i64 0 ∧ wr = w.alloc (.cells (fm rdr (List.replicate 0 zR)) 64)) (fun _ _ => 0)
    case atStart => exact ⟨rfl, rfl⟩
    case round =>
      obtain ⟨rfl, rfl⟩ := hrel
      go_wp2
      go_ret
      exact ⟨rfl, A0, B0.out⟩
  · obtain ⟨g, off, cap, rfl, HG⟩ := hF.get rdr_size z 129 _ Tryz.underlying129 (by kernel_rfl)
    have HL := Lib.hid HG
    clear HG hF
    obtain ⟨n, hnn⟩ : ∃ n, n = rs.length := ⟨_, rfl⟩
    rw [← hnn] at hn hmk A0 B0 z ⊢
    have HN := Lib.hid hnn
    rw [← cpF_zero n zR rs] at A0
    clear hnn
    have HA := Lib.hid A0
    clear A0
    go_enter Tryz.func27, Tryz.ntmps27
    go_wp2_with ((at_make; refine wpList_make_runI rfl _ _ _ rfl _ _ _ rfl rfl hmk ?_))
    clear hmk
    go_loopw [4] (fun i wr => ∃ k : Nat, k ≤ n ∧ i = .int .i64 (k : Int) ∧ At wr w.heap.size (fm rdr (cpF n zR rs k)) 64 ∧ Hid (Below w.heap.size w wr)) (fun i _ => n - (intOf i).toNat)
    case atStart => exact ⟨0, by omega, rfl, HA.out, B0⟩
    case round =>
      clear B0
      obtain ⟨k, hk, rfl, A1, B1⟩ := hrel
      have hlen := HN.out.symm
      by_cases hlt : k < n
      · have s2 : IntKind.i64.wrap ((k : Int) + 1) = (k : Int) + 1 := IntWalk.i64_in _ (by omega)
        have kd : (k : Int) < (n : Int) := by omega
        have hld2 := Lib.hid (HL.out k (by rw [hlen]; exact hlt) _ B1.out)
        have hsz := fm_size rdr_size (cpF n zR rs k)
        rw [cpF_len hlen k hk] at hsz
        have KT := toRoad_any (fe zR rs k).cs (fe zR rs k).p (fe zR rs k).b (fe zR rs k).l (fe zR rs k).hl wr
        have e3 : splice (fm rdr (cpF n zR rs k)) (k * 19) (rdr (fe zR rs k)) = fm rdr (cpF n zR rs (k + 1)) := by rw [fm_set rdr_size (by rw [cpF_len hlen k hk]; exact hlt) rfl, cpF_set hlen hlt]
        change Calls _ _ #[.agg (rdr (fe zR rs k))] _ (fun e w' => e = .returned (.agg (rdr (fe zR rs k))) ∧ _) at KT
        generalize fe zR rs k = r at *
        clear hlen
        go_wp2_with ((with_reducible refine is_load 129 _ rfl ?_); refine wpList_load_of rfl 129 _ rfl _ rfl _ hld2.out ?_)
        refine KT.mono ?_
        rintro e w2 ⟨rfl, hb2⟩
        have A2 := A1.step hb2
        have A3 := A2.setRow (fm rdr (cpF n zR rs (k + 1)))
        have B3 := Lib.hid (bset (bthen B1.out hb2) (g := w.heap.size) (Nat.le_refl _) (fm rdr (cpF n zR rs (k + 1))))
        clear A1 B1 hb2 hld2 KT
        go_wp2_with (((with_reducible refine is_store 64 _ _ rfl ?_); refine wpList_store_part rfl 64 _ _ rfl _ _ rfl (rdr r) rfl (fm rdr (cpF n zR rs k)) _ (by with_reducible assumption) 19 (rdr_size _) (by rw [hsz]; omega) (by kernel_rfl) (rdr_one _) (fm rdr (cpF n zR rs (k + 1))) e3 ?_))
        exact ⟨⟨k + 1, by omega, by go_num, A3, B3⟩, by simp [intOf]; omega⟩
      · obtain rfl : n = k := by omega
        rw [cpF_all hlen] at A1
        clear hlen
        go_wp2
        go_ret
        exact ⟨rfl, A1, B1.out⟩

end Go.Proofs.YtboahhipobcabaaGreat

/-
  CONTRACTS: SumOfFour.
-/
namespace Go.Proofs.YtboahhipobcabaaGreat
open Go Go.RowKit
set_option maxRecDepth 100000

theorem SumOfFour_any (xs : List Nat) (hl : xs.length = 4) (w : World) :
    Calls Tryz.prog 189 #[.agg (fl xs)] w fun e w' => ∃ v, e = .returned (.float .f32 v) ∧ Sum4 (nth xs 0) (nth xs 1) (nth xs 2) (nth xs 3) v ∧ Below w.heap.size w w' := by
  obtain ⟨y, n1, e1, r1⟩ := run_add_any (P := Tryz.prog) 26 (nth xs 0) (nth xs 1) (w.alloc (.cells (fl xs) 68))
  obtain ⟨z, n2, e2, r2⟩ := run_add_any (P := Tryz.prog) 26 y (nth xs 2) ((w.alloc (.cells (fl xs) 68)).drewN n1)
  obtain ⟨v, n3, e3, r3⟩ := run_add_any (P := Tryz.prog) 26 z (nth xs 3) ((w.alloc (.cells (fl xs) 68)).drewN (n1 + n2))
  have A0 := At.new w (fl xs) 68
  have c0 := A0.cell (fl_get (xs := xs) (k := 0) (by omega))
  have c1 := A0.cell (fl_get (xs := xs) (k := 1) (by omega))
  have c2 := (A0.drewN n1).cell (fl_get (xs := xs) (k := 2) (by omega))
  have c3 := (A0.drewN (n1 + n2)).cell (fl_get (xs := xs) (k := 3) (by omega))
  go_enter Tryz.func189, Tryz.ntmps189
  go_wp2
  go_ret
  exact ⟨v, rfl, ⟨y, z, r1, r2, r3⟩, bdrew (b0 _ _) _⟩

theorem sSumOfFour_any (xs : List Nat) (hl : xs.length = 4) (w : World) :
    Calls Tryz.prog 177 #[.agg (fl xs)] w fun e w' => ∃ v, e = .returned (.float .f32 v) ∧ Sum4 (nth xs 0) (nth xs 1) (nth xs 2) (nth xs 3) v ∧ Below w.heap.size w w' := by
  obtain ⟨y, n1, e1, r1⟩ := run_add_any (P := Tryz.prog) 26 (nth xs 0) (nth xs 1) (w.alloc (.cells (fl xs) 68))
  obtain ⟨z, n2, e2, r2⟩ := run_add_any (P := Tryz.prog) 26 y (nth xs 2) ((w.alloc (.cells (fl xs) 68)).drewN n1)
  obtain ⟨v, n3, e3, r3⟩ := run_add_any (P := Tryz.prog) 26 z (nth xs 3) ((w.alloc (.cells (fl xs) 68)).drewN (n1 + n2))
  have A0 := At.new w (fl xs) 68
  have c0 := A0.cell (fl_get (xs := xs) (k := 0) (by omega))
  have c1 := A0.cell (fl_get (xs := xs) (k := 1) (by omega))
  have c2 := (A0.drewN n1).cell (fl_get (xs := xs) (k := 2) (by omega))
  have c3 := (A0.drewN (n1 + n2)).cell (fl_get (xs := xs) (k := 3) (by omega))
  go_enter Tryz.func177, Tryz.ntmps177
  go_wp2
  go_ret
  exact ⟨v, rfl, ⟨y, z, r1, r2, r3⟩, bdrew (b0 _ _) _⟩

/-- two numbers that agree, made wide -/
theorem wide_agr {x : Nat} (hx : x < 4294967296) (w : World) : ∃ X n, (convert 26 96 (.float .f32 x)).run Tryz.prog w = .ok (.float .f64 X) (w.drewN n) ∧ (nanB x = true → X < 18446744073709551616 ∧ 9218868437227405312 < X % 9223372036854775808) ∧ (nanB x = false → X = wideB x) := by
  cases h : nanB x
  · exact ⟨_, 0, wide_at hx h w, fun k => by simp at k, fun _ => rfl⟩
  · exact ⟨_, 1, wide_nan_at hx h w, fun _ => tapeNan64 w x, fun k => by simp at k⟩
theorem sameFloat_agr {x y X Y : Nat} (h : Agr x y) (hX : (nanB x = true → X < 18446744073709551616 ∧ 9218868437227405312 < X % 9223372036854775808) ∧ (nanB x = false → X = wideB x))
    (hY : (nanB y = true → Y < 18446744073709551616 ∧ 9218868437227405312 < Y % 9223372036854775808) ∧ (nanB y = false → Y = wideB y)) (w : World) :
    Calls Tryz.prog 38 #[.float .f64 X, .float .f64 Y] w fun e w' => e = .returned (.bool true) ∧ w = w' := by
  rcases h.2.2 with ⟨n1, n2⟩ | ⟨n1, rfl⟩
  · exact sameFloat_nan (hX.1 n1).1 (hX.1 n1).2 (hY.1 n2).1 (hY.1 n2).2 w
  · rw [hX.2 n1, hY.2 n1]; exact sameFloat_same _ h.1 n1 w
theorem Agr.symm {x y : Nat} (h : Agr x y) : Agr y x := ⟨h.2.1, h.1, h.2.2.imp (fun h => ⟨h.2, h.1⟩) fun ⟨h1, h2⟩ => by subst h2; exact ⟨h1, rfl⟩⟩
end Go.Proofs.YtboahhipobcabaaGreat

/-
  A STATEMENT WHOSE ORDER IS OPEN: a head of operations that leave what was there (reads, calls that make memory), behind it operations in one forced order that may write: the head is walked once, in the order of the text.
  No Go text in it. Conditions: those of each theorem.
-/
namespace Go.Proofs.YtboahhipobcabaaGreat
open Go Go.RowKit

section
variable {P : Program} {ops : Array Oper} {md : Region.Mode} {C : World → Prop} {n : Nat}

/-- so many operations of the head are still to come, in whatever order; L: what holds behind them -/
def hdQ (P : Program) (md : Region.Mode) (ops : Array Oper) (C : World → Prop) (n : Nat) (L : Array Bool → Act → Prop) : Nat → Array Bool → Act → Prop
  | 0, done, a => L done a
  | k + 1, done, a => Region.ready md ops done ≠ [] ∧ ∀ i ∈ Region.ready md ops done, i < n ∧ qOp P ops C i (hdQ P md ops C n L k (done.setIfInBounds i true)) a

theorem hdQ_any {g : Nat} {L : Array Bool → Act → Prop} {Q' : Exit → Act → World → Prop} (hL : ∀ done a w, C w → L done a → wpAny P md ops Q' g done a w) (k : Nat) :
    ∀ (done : Array Bool) (a : Act) (w : World), C w → hdQ P md ops C n L k done a → wpAny P md ops Q' (k + g) done a w := by
  induction k with
  | zero => intro done a w hw h; rw [Nat.zero_add]; exact hL done a w hw h
  | succ k ih =>
    intro done a w hw h
    have e : k + 1 + g = (k + g) + 1 := by omega
    rw [e]
    refine ⟨fun none => absurd none h.1, fun i hi => ?_⟩
    exact wpOp_of_qOp hw (fun a' w' hw' h' => ih _ a' w' hw' h') (h.2 i hi).2

/-- one that may come now may be taken first -/
theorem hdQ_take {i : Nat} {oi : Oper} {v : Value} {L : Array Bool → Act → Prop} (hi : ops[i]? = some oi) (hsel : ∀ (j : Nat) (o : Oper) cs b, ops[j]? = some o → o.op ≠ .select cs b)
    (hs : Region.sinkB md ops n = true) (hc : Region.chainB md ops n = true) (hn : n < ops.size) (hin : i < n) (hend : ∀ done a, L done a → ∀ j ∈ Region.ready md ops done, n ≤ j) (k : Nat) :
    ∀ (done : Array Bool) (a : Act), HeadInv md ops n done →
      (∀ j oj, ops[j]? = some oj → j ≠ i → done.getD j true = false → (∀ e ∈ oj.after, Region.binds md e = true → e.on ≠ i) → oi.apart ops oj = true) →
      i ∈ Region.ready md ops done → YieldsIn P ops C oi v a → hdQ P md ops C n L k (done.setIfInBounds i true) (a.put oi.dst v) → hdQ P md ops C n L (k + 1) done a := by
  induction k with
  | zero =>
    intro done a inv _ hr hy H
    refine ⟨fun none => (by rw [none] at hr; cases hr), fun j hj => ?_⟩
    have hjn : j < n := Nat.lt_of_not_le fun q => tail_waits hs hc hn inv _ i rfl hin (mem_ready.1 hr).1 j q hj
    by_cases e : j = i
    · subst e; exact ⟨hjn, hy.qOp hi H⟩
    · exact absurd (hend _ _ H j (ready_mono hj e)) (by omega)
  | succ k ih =>
    intro done a inv hfree hr hy H
    have hun := (mem_ready.1 hr).1
    refine ⟨fun none => (by rw [none] at hr; cases hr), fun j hj => ?_⟩
    have hjn : j < n := Nat.lt_of_not_le fun q => tail_waits hs hc hn inv _ i rfl hin hun j q hj
    refine ⟨hjn, ?_⟩
    by_cases e : j = i
    · subst e; exact hy.qOp hi H
    obtain ⟨hjun, oj, hoj, hwaits⟩ := mem_ready.1 hj
    have hnot : ∀ d ∈ oj.after, Region.binds md d = true → d.on ≠ i := by
      intro d hd hb hon
      have := hwaits d hd hb
      rw [hon, getD_both hun] at this
      cases this
    have step := qOp_put hoj (hfree j oj hoj e hjun hnot) (fun cs b => hsel i oi cs b hi) (fun cs b => hsel j oj cs b hoj) hy (H.2 j (ready_mono hj e)).2
    refine qOp_mono (fun a' h' => ih (done.setIfInBounds j true) a' (inv.set hj hjn) ?_ (ready_mono hr (Ne.symm e)) h'.1 ?_) step
    · intro m om hm hmi hmun hmno
      refine hfree m om hm hmi ?_ hmno
      by_cases ejm : j = m
      · subst ejm; exact hjun
      · rwa [getD_set_ne true ejm] at hmun
    · rw [Array.setIfInBounds_comm _ _ e]; exact h'.2

theorem hdQ_lex {g : Nat} {Lq : Act → Prop} (hsel : Region.noSelect ops = true) (hs : Region.sinkB md ops n = true) (hc : Region.chainB md ops n = true) (hn : n < ops.size) (l : List Oper) :
    ∀ (k : Nat) (done : Array Bool) (a : Act), (∀ j, j < l.length → l[j]? = ops[k + j]?) → k + l.length = n → HeadInv md ops n done → Region.lexHead md ops g l.length k done = true → wpQuiet P ops C Lq l a →
      hdQ P md ops C n (fun done' a' => Region.seqB md ops g n done' = true ∧ Lq a') l.length done a := by
  induction l with
  | nil =>
    intro k done a _ hk _ hB h
    obtain rfl : k = n := by simpa using hk
    exact ⟨by simpa [Region.lexHead] using hB, h⟩
  | cons o l ih =>
    intro k done a hl hk inv hB h
    have h0 : ops[k]? = some o := by simpa using (hl 0 (by simp)).symm
    simp only [List.length_cons, Region.lexHead, Bool.and_eq_true] at hB
    have hkn : k < n := by simp only [List.length_cons] at hk; omega
    have hr : k ∈ Region.ready md ops done := by simpa using hB.1.1
    have hq : qOp P ops C k (wpQuiet P ops C Lq l) a := by unfold qOp; simp only [h0]; exact h
    obtain ⟨v, hy, hK⟩ := yieldsIn_of_qOp h0 hq
    refine hdQ_take h0 (Region.noSelect_spec hsel) hs hc hn hkn (fun done' a' q => seqB_ready q.1) l.length done a inv (Region.free_spec h0 hB.1.2) hr hy ?_
    refine ih (k + 1) _ _ (fun j hj => ?_) (by simp only [List.length_cons] at hk; omega) (inv.set hr hkn) hB.2 hK
    have := hl (j + 1) (by simp; omega)
    simpa [Nat.add_assoc, Nat.add_comm 1 j] using this
end

/-- the head by one walk in the class of worlds in which nothing has turned of what was there; then the tail as it stands -/
theorem wp_region_cb_tail {P : Program} {id : Nat} {Q : Exit → Act → World → Prop} {a : Act} {w : World} {l : List Oper} (n : Nat) (hm : P.follows .mixedOrders = true) (hB : Region.lexTailB .any l.toArray n = true)
    (h : wpQuiet P l.toArray (Cb w) (fun a' => ∀ w', Cb w w' → wpList P l.toArray Q (l.drop n) a' w') (l.take n) a) : (Code.region id l.toArray true).wp P Q a w := by
  simp only [Region.lexTailB, Bool.and_eq_true, decide_eq_true_eq] at hB
  obtain ⟨⟨⟨⟨hsel, hn⟩, hs⟩, hc⟩, hlex⟩ := hB
  have hlt : n < l.length := by simpa using hn
  have htl : (l.take n).length = n := by simp; omega
  have inv0 : HeadInv .any l.toArray n (Array.replicate l.toArray.size false) := by
    refine ⟨by simp, fun j oj _ q => ?_, fun t _ ht => getD_in (by simpa using ht) (getD_replicate_false _ _)⟩
    rw [getD_replicate_false] at q; cases q
  have H := hdQ_lex (md := .any) (g := l.toArray.size - n) hsel hs hc hn (l.take n) 0 _ a (fun j hj => by rw [htl] at hj; simp [hj]) (by simpa using htl) inv0 (by rw [htl]; exact hlex) h
  refine wp_region_any hm ?_
  have key := hdQ_any (Q' := Q) (g := l.toArray.size - n) (fun done a' w' hw' q => by
    have t := wpAny_of_seq (md := .any) (Q' := Q) (l.drop n) n done a' w' (fun j => by simp [List.getElem?_drop]) (by rw [show (l.drop n).length = l.toArray.size - n from by simp]; exact q.1) (q.2 w' hw')
    rwa [show (l.drop n).length = l.toArray.size - n from by simp] at t) _ _ _ { w with drawn := w.drawn + 1 } ⟨rfl, rfl, rfl, Nat.le_refl _, fun _ _ => rfl⟩ H
  rw [htl, show n + (l.toArray.size - n) = l.toArray.size from by omega] at key
  exact key
end Go.Proofs.YtboahhipobcabaaGreat

/-
  TWO CONTRACTS ON ONE CALL SPEAK OF ONE ENDING: the machine's run is a function.
  No Go text in it. Conditions: both contracts say that the call returns.
-/
namespace Go.Proofs.YtboahhipobcabaaGreat
open Go Go.RowKit

/-- a caller that goes no further -/
def bin0 : Frame := { fn := 0, tmps := #[], todo := [.code (.refuse "")], defers := [], mode := .run, kind := .normal }
theorem bin0_ends (P : Program) (w : World) : ∃ o w', step P (lone bin0 [] w) = .ended o w' :=
  ⟨.unsupported (.elab "") (bin0.pos P), w, step_lone_ended (by simp [stepG, stepG.exec, bin0, GStep.bare])⟩
theorem agree_side {P : Program} {M : Machine} {n m : Nat} {fr fr' : Frame} {w1 w2 : World} {v : Value} (hn : runN P n M = .next (lone fr [bin0] w1)) (hl : fr.leaving P w1 (.returned v))
    (hm : runN P m M = .next (lone fr' [bin0] w2)) : m ≤ n := by
  have s1 : step P (lone fr [bin0] w1) = .next (lone bin0 [] w1) := step_leave_returned (c := bin0) (cs := []) hl
  obtain ⟨o, w', s2⟩ := bin0_ends P w1
  have e1 : runN P (n + 1) M = .next (lone bin0 [] w1) := by
    rw [runN_add, hn]
    simp only [runN, s1]
  have e2 : runN P (n + 2) M = .ended o w' := by
    rw [show n + 2 = (n + 1) + 1 from rfl, runN_add, e1]
    simp only [runN, s2]
  rcases Nat.lt_or_ge n m with c | c
  · exfalso
    rcases Nat.lt_or_ge (n + 1) m with c2 | c2
    · obtain ⟨d, rfl⟩ := Nat.exists_eq_add_of_le (show n + 2 ≤ m from c2)
      have := runN_ended e2 d
      rw [hm] at this
      cases this
    · obtain rfl : m = n + 1 := by omega
      rw [e1] at hm
      have h := congrArg (fun r => match r with | .next M' => M'.gs.toList.map (fun g : Goroutine => g.callers.length) | _ => []) hm
      simp [lone] at h
  · exact c
theorem calls_agree {P : Program} {f : FuncId} {args : Array Value} {w : World} {R R' : Value → World → Prop}
    (h : Calls P f args w fun e w' => ∃ v, e = .returned v ∧ R v w') (h' : Calls P f args w fun e w' => ∃ v, e = .returned v ∧ R' v w') : ∃ v w', R v w' ∧ R' v w' := by
  obtain ⟨e, w1, fr, ⟨v, rfl, r1⟩, ⟨n, hn⟩, -, hl⟩ := h [bin0]
  obtain ⟨e', w2, fr', ⟨v', rfl, r2⟩, ⟨m, hm⟩, -, hl'⟩ := h' [bin0]
  have a := agree_side hn hl hm
  have b := agree_side hm hl' hn
  obtain rfl : n = m := by omega
  rw [hn] at hm
  have e1 := congrArg (fun r => match r with | .next M' => (M'.world, M'.gs.toList.map (fun g : Goroutine => g.frame)) | _ => (w, [])) hm
  simp [lone] at e1
  obtain ⟨rfl, rfl⟩ := e1
  obtain ⟨-, -, -, fn, hf, hr⟩ := hl
  obtain ⟨-, -, -, fn', hf', hr'⟩ := hl'
  rw [hf] at hf'
  obtain rfl := Option.some.inj hf'
  rw [hr] at hr'
  injection hr' with hv
  subst hv
  exact ⟨_, _, r1, r2⟩
end Go.Proofs.YtboahhipobcabaaGreat
