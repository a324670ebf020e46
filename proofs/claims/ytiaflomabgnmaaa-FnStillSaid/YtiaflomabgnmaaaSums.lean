/-
  CONTRACTS: the sums of several steps, over whatever function hands them on.
-/
import Derived.Test.YtiaflomabgnmaaaRange
import Derived.Shelf.Abstract
import Derived.Shelf.RegionOpen
import Derived.Test.YtiaflomabgnmaaaG12
import Derived.Test.YtiaflomabgnmaaaRes
import Derived.Test.YtiaflomabgnmaaaLate
namespace Go.Proofs.Ytiaflomabgnmaaa
open Go Go.RowKit Go.Shelf
attribute [local go_sem] Oper.semAt_some
set_option maxRecDepth 100000

/-- a step, as it is handed on -/
def stepRow (p b l : Nat) (cs : List Nat) (oo mm : Nat → Nat) (k : Nat) : Array Value := rd (itL p b cs oo mm k) p b l ++ fl (itF p b cs oo mm k) ++ rd (itL p b cs oo mm (k + 1)) p b l

theorem stepRow_size {cs : List Nat} {p b l : Nat} (ok : OkR cs p b l) (oo mm : Nat → Nat) (k : Nat) : (stepRow p b l cs oo mm k).size = 55 := by
  unfold stepRow
  rw [Array.size_append, Array.size_append, rd_size (itL_ok ok oo mm k).len, rd_size (itL_ok ok oo mm (k + 1)).len, fl_size, itF_len]

theorem stepRow_one (p b l : Nat) (cs : List Nat) (oo mm : Nat → Nat) (k : Nat) : (stepRow p b l cs oo mm k).all (·.oneCell') = true := by
  unfold stepRow
  have h1 : ∀ (cs : List Nat) (p b l : Nat), (rd cs p b l).all (·.oneCell') = true := fun _ _ _ _ => fl_one _
  rw [Array.all_append, Array.all_append, fl_one, h1, h1]; rfl

theorem fold_one (p : Tmp) (v : Value) (t : Array Value) : ((#[p] : Array Tmp).zip #[v]).foldl (fun t (p, v) => t.setIfInBounds p v) t = t.setIfInBounds p v := by simp

theorem Kept.row {B : Nat} {a b : World} (h : Kept B a b) {g : Nat} (hg : g < B) (c : Array Value) : Kept B a (b.setRow g c) :=
  h.trans ⟨by have := (Below.setRow (Below.refl g b) (Nat.le_refl g) c).size; omega, fun i h1 h2 => heap_setRow_other _ _ _ _ (by omega)⟩

theorem app3 (a b c : Array Value) : ((a ++ b ++ c).extract (a.size + b.size) (a.size + b.size + c.size) = c) ∧ (∀ k, k < b.size → (a ++ b ++ c)[a.size + k]? = b[k]?) := by
  constructor
  · rw [Array.extract_append]
    simp
    omega
  · intro k hk
    rw [Array.append_assoc, Array.getElem?_append_right (by omega), Nat.add_sub_cancel_left, Array.getElem?_append_left hk]

theorem stepRow_after {cs : List Nat} {p b l : Nat} (ok : OkR cs p b l) (oo mm : Nat → Nat) (k : Nat) : (stepRow p b l cs oo mm k).extract 36 (36 + 19) = rd (itL p b cs oo mm (k + 1)) p b l := by
  have h := (app3 (rd (itL p b cs oo mm k) p b l) (fl (itF p b cs oo mm k)) (rd (itL p b cs oo mm (k + 1)) p b l)).1
  rwa [rd_size (itL_ok ok oo mm k).len, rd_size (itL_ok ok oo mm (k + 1)).len, fl_size, itF_len] at h

theorem stepRow_flow {cs : List Nat} {p b l : Nat} (ok : OkR cs p b l) (oo mm : Nat → Nat) (k : Nat) {i : Nat} (hi : i < 17) : (stepRow p b l cs oo mm k)[19 + i]? = some (.float .f32 (nth (itF p b cs oo mm k) i)) := by
  have h := (app3 (rd (itL p b cs oo mm k) p b l) (fl (itF p b cs oo mm k)) (rd (itL p b cs oo mm (k + 1)) p b l)).2 i (by rw [fl_size, itF_len]; exact hi)
  rw [rd_size (itL_ok ok oo mm k).len] at h
  exact h.trans (fl_get (by rw [itF_len]; exact hi))

theorem Ce.obj {gR : Nat} {W w' : World} (h : Ce gR W w') {i : Nat} (hi : i < W.heap.size) (hne : i ≠ gR) : w'.heap[i]? = W.heap[i]? := by
  obtain ⟨B, -, hb, hk⟩ := h.sub
  rcases Nat.lt_or_ge i B with c | c
  · exact hb.block i c
  · exact hk i c hi hne

theorem At.turn {W : World} {g l : Nat} {c : Array Value} {T : TypeId} (h : At W g c T) (hne : g ≠ l) (o : Obj) : At (W.putObj l o) g c T := (World.putObj_heap_other hne).trans h

theorem sumOfSteps_any (cs : List Nat) (p b l : Nat) (ok : OkR cs p b l) (oo mm : Nat → Nat) (N : Nat) (lb : Array Value) (w : World) (hseq : SeqB Fence.wide 2 Try.prog 45 lb (fun k => #[.agg (stepRow p b l cs oo mm k)]) N w) :
    Calls Try.prog 23 #[.agg (rd cs p b l), .func (.func 45) #[] lb] w fun e w' => e = .returned (.tuple #[.agg (rd (itL p b cs oo mm N) p b l), .float .f32 (itS p b cs oo mm 0 N), .float .f32 (itS p b cs oo mm 16 N), .int .i64 0]) ∧ Below w.heap.size w w' := by
  have hl := ok.len
  have A0 : At ((((w.alloc (.cells (rd cs p b l) 28)).alloc (.cells (rd (zeros 16) 0 0 0) 28)).alloc (.cells #[.float .f32 0] 24)).alloc (.cells #[.float .f32 0] 24)) w.heap.size (rd cs p b l) 28 := (((At.new w _ _).alloc _).alloc _).alloc _
  have Y0 : At ((((w.alloc (.cells (rd cs p b l) 28)).alloc (.cells (rd (zeros 16) 0 0 0) 28)).alloc (.cells #[.float .f32 0] 24)).alloc (.cells #[.float .f32 0] 24)) (w.heap.size + 1) (rd (zeros 16) 0 0 0) 28 := ((At.last1 w _ _ _).alloc _).alloc _
  have S0 : At ((((w.alloc (.cells (rd cs p b l) 28)).alloc (.cells (rd (zeros 16) 0 0 0) 28)).alloc (.cells #[.float .f32 0] 24)).alloc (.cells #[.float .f32 0] 24)) (w.heap.size + 1 + 1) #[.float .f32 0] 24 := (At.last2 w _ _ _ _).alloc _
  have U0 : At ((((w.alloc (.cells (rd cs p b l) 28)).alloc (.cells (rd (zeros 16) 0 0 0) 28)).alloc (.cells #[.float .f32 0] 24)).alloc (.cells #[.float .f32 0] 24)) (w.heap.size + 1 + 1 + 1) #[.float .f32 0] 24 := by
    have := At.new (((w.alloc (.cells (rd cs p b l) 28)).alloc (.cells (rd (zeros 16) 0 0 0) 28)).alloc (.cells #[.float .f32 0] 24)) #[.float .f32 0] 24
    rwa [World.size_alloc, World.size_alloc, World.size_alloc] at this
  have B0 := Lib.hid (bnew (bnew (bnew (b0 w (.cells (rd cs p b l) 28)) (.cells (rd (zeros 16) 0 0 0) 28)) (.cells #[.float .f32 0] 24)) (.cells #[.float .f32 0] 24))
  have Z0 : ((((w.alloc (.cells (rd cs p b l) 28)).alloc (.cells (rd (zeros 16) 0 0 0) 28)).alloc (.cells #[.float .f32 0] 24)).alloc (.cells #[.float .f32 0] 24)).heap.size = w.heap.size + 4 := by simp
  refine (callsIn_wide (n := 3)).1 ?_
  refine callsIn_of_wp_marks Try.func23 rfl trivial ?_ rfl
  refine wpIn_wide.2 ?_
  simp only [Try.ntmps23, List.size_toArray, List.length_cons, List.length_nil, Nat.reduceAdd, Nat.reduceSub, Array.replicate_succ, Array.replicate_zero, List.push_toArray, List.append_toArray, List.nil_append, List.cons_append]
  have HS := Lib.hid hseq
  clear hseq
  go_wp2
  rw [show (rd (zeros 16) 0 0 0 : Array Value) = #[.float .f32 0, .float .f32 0, .float .f32 0, .float .f32 0, .float .f32 0, .float .f32 0, .float .f32 0, .float .f32 0, .float .f32 0, .float .f32 0, .float .f32 0, .float .f32 0, .float .f32 0, .float .f32 0, .float .f32 0, .float .f32 0, .float .f32 0, .float .f32 0, .float .f32 0] from rfl] at A0 Y0 S0 U0 B0 Z0
  generalize hwl : ((((w.alloc (.cells (rd cs p b l) 28)).alloc (.cells #[.float .f32 0, .float .f32 0, .float .f32 0, .float .f32 0, .float .f32 0, .float .f32 0, .float .f32 0, .float .f32 0, .float .f32 0, .float .f32 0, .float .f32 0, .float .f32 0, .float .f32 0, .float .f32 0, .float .f32 0, .float .f32 0, .float .f32 0, .float .f32 0, .float .f32 0] 28)).alloc (.cells #[.float .f32 0] 24)).alloc (.cells #[.float .f32 0] 24)) = wl at A0 Y0 S0 U0 B0 Z0 ⊢
  clear hwl
  rw [show (#[.float .f32 0, .float .f32 0, .float .f32 0, .float .f32 0, .float .f32 0, .float .f32 0, .float .f32 0, .float .f32 0, .float .f32 0, .float .f32 0, .float .f32 0, .float .f32 0, .float .f32 0, .float .f32 0, .float .f32 0, .float .f32 0, .float .f32 0, .float .f32 0, .float .f32 0] : Array Value) = rd (zeros 16) 0 0 0 from rfl] at Y0
  have BB0 := B0
  refine (wpIn_wide (n := 3)).1 (wpIn_range (w0 := w) (N := N) rfl (by omega) (gf := 45) (lb := lb) rfl trivial (enters_of Try.func45 (by kernel_rfl) rfl) HS.out B0.out (fun _ => rfl)
    (fun k W => At W w.heap.size (rd (itL p b cs oo mm k) p b l) 28 ∧ At W (w.heap.size + 1) (rd (zeros 16) 0 0 0) 28 ∧ At W (w.heap.size + 1 + 1) #[.float .f32 (itS p b cs oo mm 0 k)] 24 ∧ At W (w.heap.size + 1 + 1 + 1) #[.float .f32 (itS p b cs oo mm 16 k)] 24 ∧ Hid (Below w.heap.size w W)) (fun _ _ => False) ?_ (fun _ _ _ h _ => h) ⟨A0, Y0, S0, U0, BB0⟩ ?_ ?_ (fun _ _ _ _ _ h => h.elim))
  · rintro k A B ⟨a1, a2, a3, a4, a5⟩ hb
    exact ⟨(hb.block _ (by omega)).trans a1, (hb.block _ (by omega)).trans a2, (hb.block _ (by omega)).trans a3, (hb.block _ (by omega)).trans a4, Lib.hid (a5.out.trans (hb.mono (by omega)))⟩
  · rintro l' k W hl1 hl2 hkN ⟨A1, Y1, S1, U1, B1⟩
    clear A0 Y0 S0 U0 B0 BB0
    have hz : (Try.prog.info? 67).map (·.size) = some 55 := by kernel_rfl
    rw [fold_one]
    change Code.wpIn _ _ _ _ _ { tmps := #[.agg (rd cs p b l), .func (.func 45) #[] lb, .pointer (some ⟨w.heap.size, 0, none⟩), undef, .pointer (some ⟨(w.heap.size + 1), 0, none⟩), .float .f32 0, .float .f32 0, .int .i64 0, .pointer (some ⟨(w.heap.size + 1 + 1), 0, none⟩), .pointer (some ⟨(w.heap.size + 1 + 1 + 1), 0, none⟩), undef, .func (.func 45) #[] lb, .agg (stepRow p b l cs oo mm k), undef, undef, undef, undef, undef, undef, undef, undef, undef, undef, undef, undef, undef, undef, undef], defers := [] } W
    have ZN := At.new W (rd (zeros 16) 0 0 0 ++ fl (zeros 17) ++ rd (zeros 16) 0 0 0) 67
    have zs : (rd (zeros 16) 0 0 0 ++ fl (zeros 17) ++ rd (zeros 16) 0 0 0).size = 55 := by rfl
    have ss : (stepRow p b l cs oo mm k).size = 55 := stepRow_size ok oo mm k
    have so : (stepRow p b l cs oo mm k).all (·.oneCell') = true := stepRow_one p b l cs oo mm k
    gi_wp2_with ((with_reducible refine in_is_store 67 (.tmp 10) (.tmp 12) rfl ?_); refine in_store_at rfl 67 (.tmp 10) (.tmp 12) rfl _ rfl (stepRow p b l cs oo mm k) rfl (rd (zeros 16) 0 0 0 ++ fl (zeros 17) ++ rd (zeros 16) 0 0 0) _ ZN 55 ss zs hz so ?_)
    have K2 : Kept wl.heap.size W ((W.alloc (.cells (rd (zeros 16) 0 0 0 ++ fl (zeros 17) ++ rd (zeros 16) 0 0 0) 67)).setRow W.heap.size (stepRow p b l cs oo mm k)) := Kept.of_below (bset (b0 W _) (Nat.le_refl _) _)
    have H2 : Below w.heap.size W ((W.alloc (.cells (rd (zeros 16) 0 0 0 ++ fl (zeros 17) ++ rd (zeros 16) 0 0 0) 67)).setRow W.heap.size (stepRow p b l cs oo mm k)) := (bset (b0 W _) (Nat.le_refl _) _).mono B1.out.size
    have X2 := ZN.setRow (stepRow p b l cs oo mm k)
    have A2 := (A1.alloc (.cells (rd (zeros 16) 0 0 0 ++ fl (zeros 17) ++ rd (zeros 16) 0 0 0) 67)).setRow_other (k := W.heap.size) (Nat.ne_of_lt A1.lt) (stepRow p b l cs oo mm k)
    have Y2 := (Y1.alloc (.cells (rd (zeros 16) 0 0 0 ++ fl (zeros 17) ++ rd (zeros 16) 0 0 0) 67)).setRow_other (k := W.heap.size) (Nat.ne_of_lt Y1.lt) (stepRow p b l cs oo mm k)
    have S2 := (S1.alloc (.cells (rd (zeros 16) 0 0 0 ++ fl (zeros 17) ++ rd (zeros 16) 0 0 0) 67)).setRow_other (k := W.heap.size) (Nat.ne_of_lt S1.lt) (stepRow p b l cs oo mm k)
    have U2 := (U1.alloc (.cells (rd (zeros 16) 0 0 0 ++ fl (zeros 17) ++ rd (zeros 16) 0 0 0) 67)).setRow_other (k := W.heap.size) (Nat.ne_of_lt U1.lt) (stepRow p b l cs oo mm k)
    have B2 := Lib.hid (bset (bnew B1.out (.cells (rd (zeros 16) 0 0 0 ++ fl (zeros 17) ++ rd (zeros 16) 0 0 0) 67)) (g := W.heap.size) B1.out.size (stepRow p b l cs oo mm k))
    rw [show (rd (zeros 16) 0 0 0 ++ fl (zeros 17) ++ rd (zeros 16) 0 0 0 : Array Value) = #[.float .f32 0, .float .f32 0, .float .f32 0, .float .f32 0, .float .f32 0, .float .f32 0, .float .f32 0, .float .f32 0, .float .f32 0, .float .f32 0, .float .f32 0, .float .f32 0, .float .f32 0, .float .f32 0, .float .f32 0, .float .f32 0, .float .f32 0, .float .f32 0, .float .f32 0, .float .f32 0, .float .f32 0, .float .f32 0, .float .f32 0, .float .f32 0, .float .f32 0, .float .f32 0, .float .f32 0, .float .f32 0, .float .f32 0, .float .f32 0, .float .f32 0, .float .f32 0, .float .f32 0, .float .f32 0, .float .f32 0, .float .f32 0, .float .f32 0, .float .f32 0, .float .f32 0, .float .f32 0, .float .f32 0, .float .f32 0, .float .f32 0, .float .f32 0, .float .f32 0, .float .f32 0, .float .f32 0, .float .f32 0, .float .f32 0, .float .f32 0, .float .f32 0, .float .f32 0, .float .f32 0, .float .f32 0, .float .f32 0] from rfl] at K2 H2 X2 A2 Y2 S2 U2 B2
    generalize hw2 : (W.alloc (.cells #[.float .f32 0, .float .f32 0, .float .f32 0, .float .f32 0, .float .f32 0, .float .f32 0, .float .f32 0, .float .f32 0, .float .f32 0, .float .f32 0, .float .f32 0, .float .f32 0, .float .f32 0, .float .f32 0, .float .f32 0, .float .f32 0, .float .f32 0, .float .f32 0, .float .f32 0, .float .f32 0, .float .f32 0, .float .f32 0, .float .f32 0, .float .f32 0, .float .f32 0, .float .f32 0, .float .f32 0, .float .f32 0, .float .f32 0, .float .f32 0, .float .f32 0, .float .f32 0, .float .f32 0, .float .f32 0, .float .f32 0, .float .f32 0, .float .f32 0, .float .f32 0, .float .f32 0, .float .f32 0, .float .f32 0, .float .f32 0, .float .f32 0, .float .f32 0, .float .f32 0, .float .f32 0, .float .f32 0, .float .f32 0, .float .f32 0, .float .f32 0, .float .f32 0, .float .f32 0, .float .f32 0, .float .f32 0, .float .f32 0] 67)).setRow W.heap.size (stepRow p b l cs oo mm k) = W2 at K2 H2 X2 A2 Y2 S2 U2 B2 ⊢
    clear hw2 zs ZN so ss hz
    refine ⟨K2, H2, fun o' => ?_⟩
    clear K2 H2
    have X3 := X2.turn (l := l') (by omega) o'
    have A3 := A2.turn (l := l') (by omega) o'
    have Y3 := Y2.turn (l := l') (by omega) o'
    have S3 := S2.turn (l := l') (by omega) o'
    have U3 := U2.turn (l := l') (by omega) o'
    have B3 : Hid (Below w.heap.size w (W2.putObj l' o')) := Lib.hid (B2.out.trans (below_putObj o' (by omega)))
    clear X2 A2 Y2 S2 U2 B2 A1 Y1 S1 U1 B1
    have gl := hl2
    generalize W.heap.size = gx at X3 gl ⊢
    generalize W2.putObj l' o' = W3 at X3 A3 Y3 S3 U3 B3 ⊢
    have okk := itL_ok ok oo mm k
    have a0 := itS_add ok oo mm 0 k
    have a6 := itS_add ok oo mm 16 k
    have f0 : ∀ t w, (binOp .add t (.float .f32 (itS p b cs oo mm 0 k)) (.float .f32 (nth (itF p b cs oo mm k) 0))).run Try.prog w = .ok (.float .f32 (itS p b cs oo mm 0 (k + 1))) w := fun t w => run_float_arith w .add t .f32 _ _ _ a0
    have f6 : ∀ t w, (binOp .add t (.float .f32 (itS p b cs oo mm 16 k)) (.float .f32 (nth (itF p b cs oo mm k) 16))).run Try.prog w = .ok (.float .f32 (itS p b cs oo mm 16 (k + 1))) w := fun t w => run_float_arith w .add t .f32 _ _ _ a6
    have sA := rd_size okk.len p b l
    have sA1 := rd_size (itL_ok ok oo mm (k + 1)).len p b l
    have sX := stepRow_size ok oo mm k
    have xA := stepRow_after ok oo mm k
    have hi := (show (Try.prog.info? 28).map (·.size) = some 19 by kernel_rfl)
    have x0 := stepRow_flow ok oo mm k (i := 0) (by omega)
    have x6 := stepRow_flow ok oo mm k (i := 16) (by omega)
    have A4 := A3.setRow (rd (itL p b cs oo mm (k + 1)) p b l)
    have X4 := X3.setRow_other (k := w.heap.size) (by omega) (rd (itL p b cs oo mm (k + 1)) p b l)
    have Y4 := Y3.setRow_other (k := w.heap.size) (by omega) (rd (itL p b cs oo mm (k + 1)) p b l)
    have S4 := S3.setRow_other (k := w.heap.size) (by omega) (rd (itL p b cs oo mm (k + 1)) p b l)
    have U4 := U3.setRow_other (k := w.heap.size) (by omega) (rd (itL p b cs oo mm (k + 1)) p b l)
    have B4 := Lib.hid (bset B3.out (g := w.heap.size) (Nat.le_refl _) (rd (itL p b cs oo mm (k + 1)) p b l))
    have H4 := bset (Below.refl w.heap.size W3) (g := w.heap.size) (Nat.le_refl _) (rd (itL p b cs oo mm (k + 1)) p b l)
    have K4 := (Kept.refl wl.heap.size W3).row (g := w.heap.size) (by omega) (rd (itL p b cs oo mm (k + 1)) p b l)
    clear a0 a6 okk Y3 S3 U3 B3
    gi_wp2_with (first
      | ((with_reducible refine in_is_load 28 (.tmp 13) rfl ?_); refine in_load_part rfl 28 (.tmp 13) rfl _ 36 rfl (stepRow p b l cs oo mm k) _ X3 19 (by omega) _ Try.underlying28 rfl hi _ xA ?_)
      | ((with_reducible refine in_is_store 28 (.tmp 2) (.tmp 14) rfl ?_); refine in_store_at rfl 28 (.tmp 2) (.tmp 14) rfl _ rfl (rd (itL p b cs oo mm (k + 1)) p b l) rfl (rd (itL p b cs oo mm k) p b l) _ A3 19 sA1 sA hi (fl_one _) ?_; refine Hid.out ?_))
    refine Lib.hid ?_
    clear A3 X3 xA sA sA1 hi sX
    generalize W3.setRow w.heap.size (rd (itL p b cs oo mm (k + 1)) p b l) = W4 at A4 X4 Y4 S4 U4 B4 K4 H4 ⊢
    have S5 := S4.setRow #[.float .f32 (itS p b cs oo mm 0 (k + 1))]
    have A5 := A4.setRow_other (k := w.heap.size + 1 + 1) (by omega) #[.float .f32 (itS p b cs oo mm 0 (k + 1))]
    have X5 := X4.setRow_other (k := w.heap.size + 1 + 1) (by omega) #[.float .f32 (itS p b cs oo mm 0 (k + 1))]
    have Y5 := Y4.setRow_other (k := w.heap.size + 1 + 1) (by omega) #[.float .f32 (itS p b cs oo mm 0 (k + 1))]
    have U5 := U4.setRow_other (k := w.heap.size + 1 + 1) (by omega) #[.float .f32 (itS p b cs oo mm 0 (k + 1))]
    have B5 := Lib.hid (bset B4.out (g := w.heap.size + 1 + 1) (by omega) #[.float .f32 (itS p b cs oo mm 0 (k + 1))])
    have H5 := bset H4 (g := w.heap.size + 1 + 1) (by omega) #[.float .f32 (itS p b cs oo mm 0 (k + 1))]
    have K5 := K4.row (g := w.heap.size + 1 + 1) (by omega) #[.float .f32 (itS p b cs oo mm 0 (k + 1))]
    have G4 := run_store_one (P := Try.prog) W4 (w.heap.size + 1 + 1) 0 24 #[.float .f32 (itS p b cs oo mm 0 k)] (.float .f32 (itS p b cs oo mm 0 (k + 1))) S4 (by simp) rfl
    rw [show (#[.float .f32 (itS p b cs oo mm 0 k)] : Array Value).setIfInBounds 0 (.float .f32 (itS p b cs oo mm 0 (k + 1))) = #[.float .f32 (itS p b cs oo mm 0 (k + 1))] from rfl] at G4
    have c8 : W4.cell? ⟨w.heap.size + 1 + 1, 0, none⟩ = some (.float .f32 (itS p b cs oo mm 0 k)) := S4.cell (k := 0) rfl
    have cx : W4.cell? ⟨gx, 19, none⟩ = some (.float .f32 (nth (itF p b cs oo mm k) 0)) := X4.cell (k := 19) x0
    clear S4 A4 X4 Y4 U4 B4 K4 H4
    gi_wp2_with ((with_reducible refine in_is_load 24 (.tmp 9) rfl ?_); refine Hid.out ?_)
    refine Lib.hid ?_
    clear G4 c8 cx f0
    generalize W4.setRow (w.heap.size + 1 + 1) #[.float .f32 (itS p b cs oo mm 0 (k + 1))] = W5 at A5 X5 Y5 S5 U5 B5 K5 H5 ⊢
    have U6 := U5.setRow #[.float .f32 (itS p b cs oo mm 16 (k + 1))]
    have A6 := A5.setRow_other (k := w.heap.size + 1 + 1 + 1) (by omega) #[.float .f32 (itS p b cs oo mm 16 (k + 1))]
    have Y6 := Y5.setRow_other (k := w.heap.size + 1 + 1 + 1) (by omega) #[.float .f32 (itS p b cs oo mm 16 (k + 1))]
    have S6 := S5.setRow_other (k := w.heap.size + 1 + 1 + 1) (by omega) #[.float .f32 (itS p b cs oo mm 16 (k + 1))]
    have B6 := Lib.hid (bset B5.out (g := w.heap.size + 1 + 1 + 1) (by omega) #[.float .f32 (itS p b cs oo mm 16 (k + 1))])
    have K6 := K5.row (g := w.heap.size + 1 + 1 + 1) (by omega) #[.float .f32 (itS p b cs oo mm 16 (k + 1))]
    have G5 := run_store_one (P := Try.prog) W5 (w.heap.size + 1 + 1 + 1) 0 24 #[.float .f32 (itS p b cs oo mm 16 k)] (.float .f32 (itS p b cs oo mm 16 (k + 1))) U5 (by simp) rfl
    rw [show (#[.float .f32 (itS p b cs oo mm 16 k)] : Array Value).setIfInBounds 0 (.float .f32 (itS p b cs oo mm 16 (k + 1))) = #[.float .f32 (itS p b cs oo mm 16 (k + 1))] from rfl] at G5
    have c9 : W5.cell? ⟨w.heap.size + 1 + 1 + 1, 0, none⟩ = some (.float .f32 (itS p b cs oo mm 16 k)) := U5.cell (k := 0) rfl
    have cy : W5.cell? ⟨gx, 35, none⟩ = some (.float .f32 (nth (itF p b cs oo mm k) 16)) := X5.cell (k := 35) x6
    have K7 := Lib.hid K6
    have H7 := Lib.hid (bset H5 (g := w.heap.size + 1 + 1 + 1) (by omega) #[.float .f32 (itS p b cs oo mm 16 (k + 1))])
    clear U5 A5 X5 Y5 S5 B5 K5 K6 H5
    gi_wp2
    exact ⟨K7.out, H7.out, A6, Y6, S6, U6, B6⟩
  · rintro D W hD ⟨A1, Y1, S1, U1, B1⟩ hK
    have HK := Lib.hid hK
    have HD := Lib.hid hD
    clear A0 Y0 S0 U0 B0 BB0 hK hD
    go_wp2
    have SZ : (rd (itL p b cs oo mm N) p b l).size = 19 := rd_size (itL_ok ok oo mm N).len p b l
    have HY := Y1.lt
    refine wp_region_late (n := 5) (ist := 3) (d := 4) (s := 25) (T := 28) (gR := w.heap.size + 1) (OV := rd (zeros 16) 0 0 0) (RV := rd (itL p b cs oo mm N) p b l) (by kernel_rfl) (by kernel_rfl) (by kernel_rfl) ⟨rfl, rfl, by decide, by kernel_rfl, by kernel_rfl, by kernel_rfl, by kernel_rfl⟩ rfl Y1 (fun ev w' h1 h2 h3 => store_fresh rfl 19 SZ (rd_size (zeros_len 16) _ _ _) (by kernel_rfl) (fl_one _) ev w' _ h1 h2 h3) ?_
    intro C hC0
    have A9 : ∀ w', C w' → At w' w.heap.size (rd (itL p b cs oo mm N) p b l) 28 := fun w' h => (hC0.sub w' h).at A1 (by omega)
    have S9 : ∀ w', C w' → At w' (w.heap.size + 1 + 1) #[.float .f32 (itS p b cs oo mm 0 N)] 24 := fun w' h => (hC0.sub w' h).at S1 (by omega)
    have U9 : ∀ w', C w' → At w' (w.heap.size + 1 + 1 + 1) #[.float .f32 (itS p b cs oo mm 16 N)] 24 := fun w' h => (hC0.sub w' h).at U1 (by omega)
    have hC := hC0.const
    have s0 : (#[.float .f32 (itS p b cs oo mm 0 N)] : Array Value)[0]? = some (.float .f32 (itS p b cs oo mm 0 N)) := rfl
    have u0 : (#[.float .f32 (itS p b cs oo mm 16 N)] : Array Value)[0]? = some (.float .f32 (itS p b cs oo mm 16 N)) := rfl
    simp (config := { decide := true }) only [cutOut, nop, List.mapIdx_cons, List.mapIdx_nil, if_true, if_false, List.take, List.drop]
    repeat (first
      | go_big_quiet_skip
      | (go_big_quiet_want; first
        | (refine q_cellC 24 _ rfl _ Try.underlying24 _ rfl S9 _ s0 ?_; go_simp; go_big_quiet_on)
        | (refine q_cellC 24 _ rfl _ Try.underlying24 _ rfl U9 _ u0 ?_; go_simp; go_big_quiet_on)
        | (refine q_rowC 28 _ rfl rfl A9 19 SZ _ Try.underlying28 rfl (by kernel_rfl) ?_; go_simp; go_big_quiet_on)
        | (go_big_quiet_op; go_big_quiet_on)))
    refine wpQuiet_nil ?_
    refine ⟨rfl, fun w9 hw9 hA9 => ?_⟩
    have BB := Lib.hid (B1.out.trans (hw9.below (by omega) HY))
    have K9 := Lib.hid ((hw9.obj (i := D) (Array.getElem?_eq_some_iff.1 HK.out).1 (by have := HD.out; omega)).trans HK.out)
    clear hC A9 S9 U9 hC0 hw9 A1 Y1 S1 U1 B1
    go_wp2
    refine ⟨by simp, .inl ⟨_, _, rfl, run_takeDeferred K9.out, ?_⟩⟩
    have hD := HD.out
    exact ⟨.tuple #[.agg (rd (itL p b cs oo mm N) p b l), .float .f32 (itS p b cs oo mm 0 N), .float .f32 (itS p b cs oo mm 16 N), .int .i64 0], results_at3 (p := 4) (ty := 28) rfl _ _ _ (rd (itL p b cs oo mm N) p b l) _ _ _ _ rfl rfl rfl rfl (hA9.turn (by omega) _) _ Try.underlying28 rfl 19 SZ (by kernel_rfl), rfl, BB.out.trans (below_putObj _ (by omega))⟩
end Go.Proofs.Ytiaflomabgnmaaa
