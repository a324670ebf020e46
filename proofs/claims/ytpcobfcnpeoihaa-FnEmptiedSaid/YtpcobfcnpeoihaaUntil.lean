/-
  CONTRACTS: the number of steps until a road is as wanted, the program's.
-/
import Derived.Test.YtpcobfcnpeoihaaG17
import Derived.Test.YtpcobfcnpeoihaaG7
import Derived.Test.YtpcobfcnpeoihaaSums
namespace Go.Proofs.Ytpcobfcnpeoihaa
open Go Go.RowKit Go.Shelf
attribute [local go_sem] Oper.semAt_some
set_option maxRecDepth 100000

/-- the first number of steps at which it holds, from k on, f more at most; 7 where there is none -/
def untilF (wt : Nat → Bool) (k : Nat) : Nat → Int × Int
  | 0 => if wt k then ((k : Int), 0) else (0, 7)
  | f + 1 => if wt k then ((k : Int), 0) else untilF wt (k + 1) f
theorem untilF_yes {wt : Nat → Bool} : ∀ {f k m : Nat}, (∀ j, k ≤ j → j < k + m → wt j = false) → wt (k + m) = true → m ≤ f → untilF wt k f = (((k + m : Nat) : Int), 0)
  | 0, k, m, _, h, hm => by
    obtain rfl : m = 0 := by omega
    unfold untilF
    rw [Nat.add_zero] at h
    rw [h]; rfl
  | f + 1, k, 0, _, h, _ => by
    unfold untilF
    rw [Nat.add_zero] at h
    rw [h]; rfl
  | f + 1, k, m + 1, h0, h, hm => by
    unfold untilF
    rw [h0 k (Nat.le_refl _) (by omega)]
    have := untilF_yes (wt := wt) (f := f) (k := k + 1) (m := m) (fun j h1 h2 => h0 j (by omega) (by omega)) (by rw [show k + 1 + m = k + (m + 1) from by omega]; exact h) (by omega)
    rw [if_neg (by decide), this, show k + 1 + m = k + (m + 1) from by omega]
theorem untilF_no {wt : Nat → Bool} : ∀ {f k : Nat}, (∀ j, k ≤ j → j ≤ k + f → wt j = false) → untilF wt k f = (0, 7)
  | 0, k, h => by unfold untilF; rw [h k (Nat.le_refl _) (by omega)]; rfl
  | f + 1, k, h => by
    unfold untilF
    rw [h k (Nat.le_refl _) (by omega), if_neg (by decide)]
    exact untilF_no fun j h1 h2 => h j (by omega) (by omega)
theorem results_cells2 {fn : Func} {p q : Tmp} {t1 t2 : TypeId} {P : Program} (h : fn.results = #[.cell p t1, .cell q t2]) (tmps : Array Value) (W : World) (g1 g2 : Nat) (v1 v2 : Value) (hp : tmps.getD p undef = .pointer (some ⟨g1, 0, none⟩)) (hq : tmps.getD q undef = .pointer (some ⟨g2, 0, none⟩))
    (l1 : (Instr.loadAt t1 (.pointer (some ⟨g1, 0, none⟩))).run P W = .ok v1 W) (l2 : (Instr.loadAt t2 (.pointer (some ⟨g2, 0, none⟩))).run P W = .ok v2 W) :
    (results fn tmps).run P W = .ok (.tuple #[v1, v2]) W := by
  have e1 : (loadVar t1 ⟨g1, 0, none⟩).run P W = .ok v1 W := by simpa [Instr.loadAt, Instr.sureAddr, Sem.run_bind] using l1
  have e2 : (loadVar t2 ⟨g2, 0, none⟩).run P W = .ok v2 W := by simpa [Instr.loadAt, Instr.sureAddr, Sem.run_bind] using l2
  rw [Array.getD_eq_getD_getElem?] at hp hq
  simp only [results, h]
  simp [Sem.run_bind, Result.andThen, hp, hq, asAddr, e1, e2]

set_option maxHeartbeats 2000000 in
theorem untilEmpty_any (cs : List Nat) (p b l : Nat) (ok : OkR cs p b l) (oo mm : Nat → Nat) (N : Nat) (hN : N ≤ 400) (lb : Array Value) (w : World) (hseq : SeqB Fence.wide 2 Try.prog 63 lb (fun k => #[.agg (stepRow p b l cs oo mm k)]) N w) :
    Calls Try.prog 20 #[.func (.func 21) #[] #[], .agg (rd cs p b l), .func (.func 63) #[] lb] w fun e w' => e = .returned (.tuple #[.int .i64 (untilF (fun k => emptyW l (itL p b cs oo mm k)) 0 N).1, .int .i64 (untilF (fun k => emptyW l (itL p b cs oo mm k)) 0 N).2]) ∧ Below w.heap.size w w' := by
  have hl := ok.len
  have F0 : At ((((w.alloc (.cells #[.func (.func 21) #[] #[]] 47)).alloc (.cells (rd cs p b l) 28)).alloc (.cells #[.int .i64 0] 2)).alloc (.cells #[.int .i64 0] 2)) w.heap.size #[.func (.func 21) #[] #[]] 47 := (((At.new w _ _).alloc _).alloc _).alloc _
  have A0 : At ((((w.alloc (.cells #[.func (.func 21) #[] #[]] 47)).alloc (.cells (rd cs p b l) 28)).alloc (.cells #[.int .i64 0] 2)).alloc (.cells #[.int .i64 0] 2)) (w.heap.size + 1) (rd cs p b l) 28 := ((At.last1 w _ _ _).alloc _).alloc _
  have S0 : At ((((w.alloc (.cells #[.func (.func 21) #[] #[]] 47)).alloc (.cells (rd cs p b l) 28)).alloc (.cells #[.int .i64 0] 2)).alloc (.cells #[.int .i64 0] 2)) (w.heap.size + 1 + 1) #[.int .i64 0] 2 := (At.last2 w _ _ _ _).alloc _
  have U0 : At ((((w.alloc (.cells #[.func (.func 21) #[] #[]] 47)).alloc (.cells (rd cs p b l) 28)).alloc (.cells #[.int .i64 0] 2)).alloc (.cells #[.int .i64 0] 2)) (w.heap.size + 1 + 1 + 1) #[.int .i64 0] 2 := by
    have := At.new (((w.alloc (.cells #[.func (.func 21) #[] #[]] 47)).alloc (.cells (rd cs p b l) 28)).alloc (.cells #[.int .i64 0] 2)) #[.int .i64 0] 2
    rwa [World.size_alloc, World.size_alloc, World.size_alloc] at this
  have B0 := Lib.hid (bnew (bnew (bnew (b0 w (.cells #[.func (.func 21) #[] #[]] 47)) (.cells (rd cs p b l) 28)) (.cells #[.int .i64 0] 2)) (.cells #[.int .i64 0] 2))
  have lF : (Instr.loadAt 47 (.pointer (some ⟨w.heap.size, 0, none⟩))).run Try.prog ((((w.alloc (.cells #[.func (.func 21) #[] #[]] 47)).alloc (.cells (rd cs p b l) 28)).alloc (.cells #[.int .i64 0] 2)).alloc (.cells #[.int .i64 0] 2)) = .ok (.func (.func 21) #[] #[]) ((((w.alloc (.cells #[.func (.func 21) #[] #[]] 47)).alloc (.cells (rd cs p b l) 28)).alloc (.cells #[.int .i64 0] 2)).alloc (.cells #[.int .i64 0] 2)) := run_load_one ((((w.alloc (.cells #[.func (.func 21) #[] #[]] 47)).alloc (.cells (rd cs p b l) 28)).alloc (.cells #[.int .i64 0] 2)).alloc (.cells #[.int .i64 0] 2)) 47 _ Try.underlying47 rfl _ _ (F0.cell (k := 0) rfl)
  refine (callsIn_wide (n := 3)).1 ?_
  refine callsIn_of_wp_marks Try.func20 rfl trivial ?_ rfl
  refine wpIn_wide.2 ?_
  simp only [Try.ntmps20, List.size_toArray, List.length_cons, List.length_nil, Nat.reduceAdd, Nat.reduceSub, Array.replicate_succ, Array.replicate_zero, List.push_toArray, List.append_toArray, List.nil_append, List.cons_append]
  have HS := Lib.hid hseq
  have KW := isEmpty_b cs p b l ok
  clear hseq
  go_wp2_with (first | ((with_reducible refine is_load 47 _ rfl ?_); refine wpList_load_of rfl 47 _ rfl _ rfl _ lF ?_) | ((with_reducible refine is_load 28 _ rfl ?_); refine wpList_load_at rfl 28 _ rfl _ rfl (rd cs p b l) _ A0 19 (rd_size hl p b l) _ Try.underlying28 rfl (by kernel_rfl) ?_))
  refine (KW _).mono ?_
  rintro e w1 ⟨rfl, hb1⟩
  have F1 := F0.step hb1
  have S1 := S0.step hb1
  have U1 := U0.step hb1
  have B1 := Lib.hid (bthen B0.out hb1)
  have Z1 : w.heap.size + 4 ≤ w1.heap.size := by have := hb1.size; simp at this; omega
  clear F0 A0 S0 U0 B0 hb1 lF KW
  cases h0 : emptyW l cs
  · have C0 := At.new w1 #[.int .i64 0] 2
    have C2 := C0.setRow #[.int .i64 0]
    have F2 := (F1.alloc (.cells #[.int .i64 0] 2)).setRow_other (k := w1.heap.size) (Nat.ne_of_lt F1.lt) #[.int .i64 0]
    have S2 := (S1.alloc (.cells #[.int .i64 0] 2)).setRow_other (k := w1.heap.size) (Nat.ne_of_lt S1.lt) #[.int .i64 0]
    have U2 := (U1.alloc (.cells #[.int .i64 0] 2)).setRow_other (k := w1.heap.size) (Nat.ne_of_lt U1.lt) #[.int .i64 0]
    have B2 := Lib.hid (bset (bnew B1.out (.cells #[.int .i64 0] 2)) (g := w1.heap.size) B1.out.size #[.int .i64 0])
    have H0 : Hid (∀ j, j ≤ 0 → emptyW l (itL p b cs oo mm j) = false) := Lib.hid fun j hj => by obtain rfl : j = 0 := (by omega); exact h0
    clear h0
    go_wp2_with (((with_reducible refine is_store 2 (.tmp 8) (.const (.int .i64 0)) rfl ?_); refine wpList_store_cell rfl 2 (.tmp 8) (.const (.int .i64 0)) rfl _ _ rfl (.int .i64 0) rfl (#[.int .i64 0]) _ C0 (by simp) (by kernel_rfl) rfl (#[.int .i64 0]) rfl ?_))
    generalize hwl : (w1.alloc (.cells #[.int .i64 0] 2)).setRow w1.heap.size #[.int .i64 0] = wl at F2 S2 U2 C2 B2 ⊢
    clear hwl C0 F1 S1 U1 B1
    generalize w1.heap.size = gc at C2 Z1 ⊢
    have Z2 := C2.lt
    refine (wpIn_wide (n := 3)).1 (wpIn_range (w0 := w) (N := N) rfl (by omega) (gf := 63) (lb := lb) rfl trivial (enters_of Try.func63 (by kernel_rfl) rfl) HS.out B2.out (fun _ => rfl)
      (fun k W => At W w.heap.size #[.func (.func 21) #[] #[]] 47 ∧ At W (w.heap.size + 1 + 1) #[.int .i64 0] 2 ∧ At W (w.heap.size + 1 + 1 + 1) #[.int .i64 0] 2 ∧ At W gc #[.int .i64 ((k : Nat) : Int)] 2 ∧ Hid (Below w.heap.size w W) ∧ Hid (∀ j, j ≤ k → emptyW l (itL p b cs oo mm j) = false)) (fun k W => At W (w.heap.size + 1 + 1) #[.int .i64 ((k : Nat) : Int)] 2 ∧ At W (w.heap.size + 1 + 1 + 1) #[.int .i64 0] 2 ∧ Hid (Below w.heap.size w W) ∧ Hid (untilF (fun k => emptyW l (itL p b cs oo mm k)) 0 N = (((k : Nat) : Int), 0))) ?_ ?_ ⟨F2, S2, U2, C2, B2, H0⟩ ?_ ?_ ?_)
    · rintro k A B ⟨a1, a2, a3, a4, a5, a6⟩ hb
      exact ⟨(hb.block _ (by omega)).trans a1, (hb.block _ (by omega)).trans a2, (hb.block _ (by omega)).trans a3, (hb.block _ (by omega)).trans a4, Lib.hid (a5.out.trans (hb.mono (by omega))), a6⟩
    · rintro k A B ⟨a2, a3, a5, a6⟩ hb
      exact ⟨(hb.block _ (by omega)).trans a2, (hb.block _ (by omega)).trans a3, Lib.hid (a5.out.trans (hb.mono (by omega))), a6⟩
    · rintro l' k W hl1 hl2 hkN ⟨F3, S3, U3, C3, B3, H3⟩
      clear F2 S2 U2 C2 B2 H0
      have hz : (Try.prog.info? 66).map (·.size) = some 55 := by kernel_rfl
      rw [fold_one]
      change Code.wpIn _ _ _ _ _ { tmps := #[.func (.func 21) #[] #[], .agg (rd cs p b l), .func (.func 63) #[] lb, .pointer (some ⟨w.heap.size, 0, none⟩), .pointer (some ⟨w.heap.size + 1, 0, none⟩), undef, .pointer (some ⟨w.heap.size + 1 + 1, 0, none⟩), .pointer (some ⟨w.heap.size + 1 + 1 + 1, 0, none⟩), .pointer (some ⟨gc, 0, none⟩), undef, .func (.func 21) #[] #[], .agg (rd cs p b l), .bool false, .func (.func 63) #[] lb, .agg (stepRow p b l cs oo mm k), undef, undef, undef, undef, undef, undef, undef], defers := [] } W
      have ZN := At.new W (rd (zeros 16) 0 0 0 ++ fl (zeros 17) ++ rd (zeros 16) 0 0 0) 66
      have zs : (rd (zeros 16) 0 0 0 ++ fl (zeros 17) ++ rd (zeros 16) 0 0 0).size = 55 := by rfl
      have ss : (stepRow p b l cs oo mm k).size = 55 := stepRow_size ok oo mm k
      have so : (stepRow p b l cs oo mm k).all (·.oneCell') = true := stepRow_one p b l cs oo mm k
      gi_wp2_with ((with_reducible refine in_is_store 66 (.tmp 9) (.tmp 14) rfl ?_); refine in_store_at rfl 66 (.tmp 9) (.tmp 14) rfl _ rfl (stepRow p b l cs oo mm k) rfl (rd (zeros 16) 0 0 0 ++ fl (zeros 17) ++ rd (zeros 16) 0 0 0) _ ZN 55 ss zs hz so ?_)
      have K2 : Kept wl.heap.size W ((W.alloc (.cells (rd (zeros 16) 0 0 0 ++ fl (zeros 17) ++ rd (zeros 16) 0 0 0) 66)).setRow W.heap.size (stepRow p b l cs oo mm k)) := Kept.of_below (bset (b0 W _) (Nat.le_refl _) _)
      have H2 : Below w.heap.size W ((W.alloc (.cells (rd (zeros 16) 0 0 0 ++ fl (zeros 17) ++ rd (zeros 16) 0 0 0) 66)).setRow W.heap.size (stepRow p b l cs oo mm k)) := (bset (b0 W _) (Nat.le_refl _) _).mono B3.out.size
      have X4 := ZN.setRow (stepRow p b l cs oo mm k)
      have F4 := (F3.alloc (.cells (rd (zeros 16) 0 0 0 ++ fl (zeros 17) ++ rd (zeros 16) 0 0 0) 66)).setRow_other (k := W.heap.size) (Nat.ne_of_lt F3.lt) (stepRow p b l cs oo mm k)
      have S4 := (S3.alloc (.cells (rd (zeros 16) 0 0 0 ++ fl (zeros 17) ++ rd (zeros 16) 0 0 0) 66)).setRow_other (k := W.heap.size) (Nat.ne_of_lt S3.lt) (stepRow p b l cs oo mm k)
      have U4 := (U3.alloc (.cells (rd (zeros 16) 0 0 0 ++ fl (zeros 17) ++ rd (zeros 16) 0 0 0) 66)).setRow_other (k := W.heap.size) (Nat.ne_of_lt U3.lt) (stepRow p b l cs oo mm k)
      have C4 := (C3.alloc (.cells (rd (zeros 16) 0 0 0 ++ fl (zeros 17) ++ rd (zeros 16) 0 0 0) 66)).setRow_other (k := W.heap.size) (Nat.ne_of_lt C3.lt) (stepRow p b l cs oo mm k)
      have B4 := Lib.hid (bset (bnew B3.out (.cells (rd (zeros 16) 0 0 0 ++ fl (zeros 17) ++ rd (zeros 16) 0 0 0) 66)) (g := W.heap.size) B3.out.size (stepRow p b l cs oo mm k))
      rw [show (rd (zeros 16) 0 0 0 ++ fl (zeros 17) ++ rd (zeros 16) 0 0 0 : Array Value) = #[.float .f32 0, .float .f32 0, .float .f32 0, .float .f32 0, .float .f32 0, .float .f32 0, .float .f32 0, .float .f32 0, .float .f32 0, .float .f32 0, .float .f32 0, .float .f32 0, .float .f32 0, .float .f32 0, .float .f32 0, .float .f32 0, .float .f32 0, .float .f32 0, .float .f32 0, .float .f32 0, .float .f32 0, .float .f32 0, .float .f32 0, .float .f32 0, .float .f32 0, .float .f32 0, .float .f32 0, .float .f32 0, .float .f32 0, .float .f32 0, .float .f32 0, .float .f32 0, .float .f32 0, .float .f32 0, .float .f32 0, .float .f32 0, .float .f32 0, .float .f32 0, .float .f32 0, .float .f32 0, .float .f32 0, .float .f32 0, .float .f32 0, .float .f32 0, .float .f32 0, .float .f32 0, .float .f32 0, .float .f32 0, .float .f32 0, .float .f32 0, .float .f32 0, .float .f32 0, .float .f32 0, .float .f32 0, .float .f32 0] from rfl] at K2 H2 X4 F4 S4 U4 C4 B4
      generalize hw2 : (W.alloc (.cells #[.float .f32 0, .float .f32 0, .float .f32 0, .float .f32 0, .float .f32 0, .float .f32 0, .float .f32 0, .float .f32 0, .float .f32 0, .float .f32 0, .float .f32 0, .float .f32 0, .float .f32 0, .float .f32 0, .float .f32 0, .float .f32 0, .float .f32 0, .float .f32 0, .float .f32 0, .float .f32 0, .float .f32 0, .float .f32 0, .float .f32 0, .float .f32 0, .float .f32 0, .float .f32 0, .float .f32 0, .float .f32 0, .float .f32 0, .float .f32 0, .float .f32 0, .float .f32 0, .float .f32 0, .float .f32 0, .float .f32 0, .float .f32 0, .float .f32 0, .float .f32 0, .float .f32 0, .float .f32 0, .float .f32 0, .float .f32 0, .float .f32 0, .float .f32 0, .float .f32 0, .float .f32 0, .float .f32 0, .float .f32 0, .float .f32 0, .float .f32 0, .float .f32 0, .float .f32 0, .float .f32 0, .float .f32 0, .float .f32 0] 66)).setRow W.heap.size (stepRow p b l cs oo mm k) = W2 at K2 H2 X4 F4 S4 U4 C4 B4 ⊢
      clear hw2 zs ZN so ss hz
      refine ⟨K2, H2, fun o' => ?_⟩
      clear K2 H2
      have X5 := X4.turn (l := l') (by omega) o'
      have F5 := F4.turn (l := l') (by omega) o'
      have S5 := S4.turn (l := l') (by omega) o'
      have U5 := U4.turn (l := l') (by omega) o'
      have C5 := C4.turn (l := l') (by omega) o'
      have B5 : Hid (Below w.heap.size w (W2.putObj l' o')) := Lib.hid (B4.out.trans (below_putObj o' (by omega)))
      clear X4 F4 S4 U4 C4 B4 F3 S3 U3 C3 B3
      have gl := hl2
      generalize W.heap.size = gx at X5 gl ⊢
      generalize W2.putObj l' o' = W5 at X5 F5 S5 U5 C5 B5 ⊢
      have ok1 := itL_ok ok oo mm (k + 1)
      have KW := isEmpty_b (itL p b cs oo mm (k + 1)) p b l ok1
      have sX := stepRow_size ok oo mm k
      have xA := stepRow_after ok oo mm k
      have hi := (show (Try.prog.info? 28).map (·.size) = some 19 by kernel_rfl)
      have s2 : IntKind.i64.wrap ((k : Int) + 1) = (k : Int) + 1 := IntWalk.i64_in _ (by omega)
      have lC : (Instr.loadAt 2 (.pointer (some ⟨gc, 0, none⟩))).run Try.prog W5 = .ok (.int .i64 (k : Int)) W5 := run_load_one W5 2 _ Try.underlying2 rfl _ _ (C5.cell (k := 0) rfl)
      have G5 := run_storeAt_one (P := Try.prog) W5 gc 0 2 2 #[.int .i64 (k : Int)] (.int .i64 ((k : Int) + 1)) C5 (by kernel_rfl) (by simp) rfl
      rw [show (#[.int .i64 (k : Int)] : Array Value).setIfInBounds 0 (.int .i64 ((k : Int) + 1)) = #[.int .i64 ((k : Int) + 1)] from rfl] at G5
      have C6 := C5.setRow #[.int .i64 ((k : Int) + 1)]
      have X6 := X5.setRow_other (k := gc) (by omega) #[.int .i64 ((k : Int) + 1)]
      have F6 := F5.setRow_other (k := gc) (by omega) #[.int .i64 ((k : Int) + 1)]
      have S6 := S5.setRow_other (k := gc) (by omega) #[.int .i64 ((k : Int) + 1)]
      have U6 := U5.setRow_other (k := gc) (by omega) #[.int .i64 ((k : Int) + 1)]
      have B6 := Lib.hid (bset B5.out (g := gc) (by omega) #[.int .i64 ((k : Int) + 1)])
      have H6 := Lib.hid (bset (Below.refl w.heap.size W5) (g := gc) (by omega) #[.int .i64 ((k : Int) + 1)])
      have K6 := Lib.hid ((Kept.refl wl.heap.size W5).row (g := gc) (by omega) #[.int .i64 ((k : Int) + 1)])
      gi_wp2_with (first
        | ((with_reducible refine in_is_load 2 (.tmp 8) rfl ?_); refine in_load_of rfl 2 (.tmp 8) rfl _ rfl _ lC ?_)
        | ((with_reducible refine in_is_store 2 (.tmp 8) (.tmp 16) rfl ?_); refine in_store_of rfl 2 (.tmp 8) (.tmp 16) rfl _ rfl _ rfl _ G5 ?_; refine Hid.out ?_))
      refine Lib.hid ?_
      clear X5 F5 S5 U5 C5 B5 lC G5
      generalize W5.setRow gc #[.int .i64 ((k : Int) + 1)] = W6 at X6 F6 S6 U6 C6 B6 H6 K6 ⊢
      have lF : (Instr.loadAt 47 (.pointer (some ⟨w.heap.size, 0, none⟩))).run Try.prog W6 = .ok (.func (.func 21) #[] #[]) W6 := run_load_one W6 47 _ Try.underlying47 rfl _ _ (F6.cell (k := 0) rfl)
      gi_wp2_with (first
        | ((with_reducible refine in_is_load 47 (.tmp 3) rfl ?_); refine in_load_of rfl 47 (.tmp 3) rfl _ rfl _ lF ?_)
        | ((with_reducible refine in_is_load 28 (.tmp 18) rfl ?_); refine in_load_part rfl 28 (.tmp 18) rfl _ 36 rfl (stepRow p b l cs oo mm k) _ X6 19 (by omega) _ Try.underlying28 rfl hi _ xA ?_))
      refine ⟨trivial, (CallsIn.inRound l' (callsIn_wide.2 (KW _))).mono ?_⟩
      rintro e W7 ⟨rfl, hb7⟩
      have F7 := F6.step hb7
      have S7 := S6.step hb7
      have U7 := U6.step hb7
      have C7 := C6.step hb7
      have B7 := Lib.hid (bthen B6.out hb7)
      have K7 := Lib.hid (K6.out.trans (Kept.of_below hb7))
      have H7 := Lib.hid (H6.out.trans (hb7.mono B6.out.size))
      clear F6 S6 U6 C6 X6 B6 K6 H6 hb7 KW lF xA sX
      cases h1 : emptyW l (itL p b cs oo mm (k + 1))
      · have H8 : Hid (∀ j, j ≤ k + 1 → emptyW l (itL p b cs oo mm j) = false) := Lib.hid fun j hj => by
          rcases Nat.lt_or_ge j (k + 1) with c | c
          · exact H3.out j (by omega)
          · obtain rfl : j = k + 1 := (by omega)
            exact h1
        clear h1 H3
        gi_wp2
        exact ⟨K7.out, H7.out, F7, S7, U7, C7, B7, H8⟩
      · have hv : Hid (untilF (fun k => emptyW l (itL p b cs oo mm k)) 0 N = (((k + 1 : Nat) : Int), 0)) := Lib.hid (by
          have := untilF_yes (wt := fun k => emptyW l (itL p b cs oo mm k)) (f := N) (k := 0) (m := k + 1) (fun j _ h2 => H3.out j (by omega)) (by rw [Nat.zero_add]; exact h1) (by omega)
          rwa [Nat.zero_add] at this)
        clear h1 H3
        have lC7 : (Instr.loadAt 2 (.pointer (some ⟨gc, 0, none⟩))).run Try.prog W7 = .ok (.int .i64 ((k : Int) + 1)) W7 := run_load_one W7 2 _ Try.underlying2 rfl _ _ (C7.cell (k := 0) rfl)
        have G8 := run_storeAt_one (P := Try.prog) W7 (w.heap.size + 1 + 1) 0 2 2 #[.int .i64 0] (.int .i64 ((k : Int) + 1)) S7 (by kernel_rfl) (by simp) rfl
        rw [show (#[.int .i64 0] : Array Value).setIfInBounds 0 (.int .i64 ((k : Int) + 1)) = #[.int .i64 ((k : Int) + 1)] from rfl] at G8
        have S8 := S7.setRow #[.int .i64 ((k : Int) + 1)]
        have U8 := U7.setRow_other (k := w.heap.size + 1 + 1) (by omega) #[.int .i64 ((k : Int) + 1)]
        have B8 := Lib.hid (bset B7.out (g := w.heap.size + 1 + 1) (by omega) #[.int .i64 ((k : Int) + 1)])
        have K8 := Lib.hid (K7.out.row (g := w.heap.size + 1 + 1) (by omega) #[.int .i64 ((k : Int) + 1)])
        gi_wp2_with (first
          | ((with_reducible refine in_is_load 2 (.tmp 8) rfl ?_); refine in_load_of rfl 2 (.tmp 8) rfl _ rfl _ lC7 ?_)
          | ((with_reducible refine in_is_store 2 (.tmp 6) (.tmp 21) rfl ?_); refine in_store_of rfl 2 (.tmp 6) (.tmp 21) rfl _ rfl _ rfl _ G8 ?_; refine Hid.out ?_))
        refine Lib.hid ?_
        clear S7 U7 C7 F7 B7 K7 H7 lC7 G8
        generalize W7.setRow (w.heap.size + 1 + 1) #[.int .i64 ((k : Int) + 1)] = W8 at S8 U8 B8 K8 ⊢
        have G9 := run_storeAt_one (P := Try.prog) W8 (w.heap.size + 1 + 1 + 1) 0 2 2 #[.int .i64 0] (.int .i64 0) U8 (by kernel_rfl) (by simp) rfl
        rw [show (#[.int .i64 0] : Array Value).setIfInBounds 0 (.int .i64 0) = #[.int .i64 0] from rfl] at G9
        have U9 := U8.setRow #[.int .i64 0]
        have S9 := S8.setRow_other (k := w.heap.size + 1 + 1 + 1) (by omega) #[.int .i64 0]
        have B9 := Lib.hid (bset B8.out (g := w.heap.size + 1 + 1 + 1) (by omega) #[.int .i64 0])
        have K9 := Lib.hid (K8.out.row (g := w.heap.size + 1 + 1 + 1) (by omega) #[.int .i64 0])
        clear S8 U8 B8 K8
        gi_wp2_with ((with_reducible refine in_is_store 2 (.tmp 7) (.const (.int .i64 0)) rfl ?_); refine in_store_of rfl 2 (.tmp 7) (.const (.int .i64 0)) rfl _ rfl _ rfl _ G9 ?_)
        exact ⟨K9.out, S9, U9, B9, hv⟩
    · rintro D W hD ⟨F3, S3, U3, C3, B3, H3⟩ hK
      have hv := Lib.hid (show untilF (fun k => emptyW l (itL p b cs oo mm k)) 0 N = (0, 7) from untilF_no (fun j _ h2 => H3.out j (by omega)))
      clear F2 S2 U2 C2 B2 H0 H3 C3 F3
      have S4 := S3.setRow #[.int .i64 0]
      have U4 := U3.setRow_other (k := w.heap.size + 1 + 1) (by omega) #[.int .i64 0]
      have B4 := Lib.hid (bset B3.out (g := w.heap.size + 1 + 1) (by omega) #[.int .i64 0])
      have U5 := U4.setRow #[.int .i64 7]
      have S5 := S4.setRow_other (k := w.heap.size + 1 + 1 + 1) (by omega) #[.int .i64 7]
      have B5 := Lib.hid (bset B4.out (g := w.heap.size + 1 + 1 + 1) (by omega) #[.int .i64 7])
      have K5 := Lib.hid ((heap_setRow_other _ _ _ #[.int .i64 7] (show D ≠ w.heap.size + 1 + 1 + 1 by omega)).trans ((heap_setRow_other _ _ _ #[.int .i64 0] (show D ≠ w.heap.size + 1 + 1 by omega)).trans hK))
      clear hK
      go_wp2_with (first | ((with_reducible refine is_store 2 (.tmp 6) (.const (.int .i64 0)) rfl ?_); refine wpList_store_cell rfl 2 (.tmp 6) (.const (.int .i64 0)) rfl _ _ rfl (.int .i64 0) rfl (#[.int .i64 0]) _ S3 (by simp) (by kernel_rfl) rfl (#[.int .i64 0]) rfl ?_) | ((with_reducible refine is_store 2 (.tmp 7) (.const (.int .i64 7)) rfl ?_); refine wpList_store_cell rfl 2 (.tmp 7) (.const (.int .i64 7)) rfl _ _ rfl (.int .i64 7) rfl (#[.int .i64 0]) _ U4 (by simp) (by kernel_rfl) rfl (#[.int .i64 7]) rfl ?_))
      refine ⟨by simp, .inl ⟨_, _, rfl, run_takeDeferred K5.out, ?_⟩⟩
      have S6 := S5.turn (l := D) (by omega) (.deferred none)
      have U6 := U5.turn (l := D) (by omega) (.deferred none)
      exact ⟨.tuple #[.int .i64 0, .int .i64 7], results_cells2 rfl _ _ _ _ _ _ rfl rfl (run_load_one _ 2 _ Try.underlying2 rfl _ _ (S6.cell (k := 0) rfl)) (run_load_one _ 2 _ Try.underlying2 rfl _ _ (U6.cell (k := 0) rfl)), by rw [hv.out], B5.out.trans (below_putObj _ (by omega))⟩
    · rintro D k W hD hkN ⟨S5, U5, B5, hv⟩ hK
      have K5 := Lib.hid hK
      clear F2 S2 U2 C2 B2 H0 hK
      refine wpIn_wide.2 ?_
      go_wp2
      refine ⟨by simp, .inl ⟨_, _, rfl, run_takeDeferred K5.out, ?_⟩⟩
      have S6 := S5.turn (l := D) (by omega) (.deferred none)
      have U6 := U5.turn (l := D) (by omega) (.deferred none)
      exact ⟨.tuple #[.int .i64 (((k + 1 : Nat) : Int)), .int .i64 0], results_cells2 rfl _ _ _ _ _ _ rfl rfl (run_load_one _ 2 _ Try.underlying2 rfl _ _ (S6.cell (k := 0) rfl)) (run_load_one _ 2 _ Try.underlying2 rfl _ _ (U6.cell (k := 0) rfl)), by rw [hv.out], B5.out.trans (below_putObj _ (by omega))⟩
  · have S2 := S1.setRow #[.int .i64 0]
    have U2 := U1.setRow_other (k := w.heap.size + 1 + 1) (by omega) #[.int .i64 0]
    have B2 := Lib.hid (bset B1.out (g := w.heap.size + 1 + 1) (by omega) #[.int .i64 0])
    have U3 := U2.setRow #[.int .i64 0]
    have S3 := S2.setRow_other (k := w.heap.size + 1 + 1 + 1) (by omega) #[.int .i64 0]
    have B3 := Lib.hid (bset B2.out (g := w.heap.size + 1 + 1 + 1) (by omega) #[.int .i64 0])
    have hv := Lib.hid (show untilF (fun k => emptyW l (itL p b cs oo mm k)) 0 N = (0, 0) from untilF_yes (m := 0) (fun j h1 h2 => by omega) h0 (by omega))
    go_wp2_with (first | ((with_reducible refine is_store 2 (.tmp 6) (.const (.int .i64 0)) rfl ?_); refine wpList_store_cell rfl 2 (.tmp 6) (.const (.int .i64 0)) rfl _ _ rfl (.int .i64 0) rfl (#[.int .i64 0]) _ S1 (by simp) (by kernel_rfl) rfl (#[.int .i64 0]) rfl ?_) | ((with_reducible refine is_store 2 (.tmp 7) (.const (.int .i64 0)) rfl ?_); refine wpList_store_cell rfl 2 (.tmp 7) (.const (.int .i64 0)) rfl _ _ rfl (.int .i64 0) rfl (#[.int .i64 0]) _ U2 (by simp) (by kernel_rfl) rfl (#[.int .i64 0]) rfl ?_))
    exact ⟨.tuple #[.int .i64 0, .int .i64 0], results_cells2 rfl _ _ _ _ _ _ rfl rfl (run_load_one _ 2 _ Try.underlying2 rfl _ _ (S3.cell (k := 0) rfl)) (run_load_one _ 2 _ Try.underlying2 rfl _ _ (U3.cell (k := 0) rfl)), by rw [hv.out], B3.out⟩

set_option maxHeartbeats 2000000 in
theorem untilFull_any (cs : List Nat) (p b l : Nat) (ok : OkR cs p b l) (oo mm : Nat → Nat) (N : Nat) (hN : N ≤ 400) (lb : Array Value) (w : World) (hseq : SeqB Fence.wide 2 Try.prog 63 lb (fun k => #[.agg (stepRow p b l cs oo mm k)]) N w) :
    Calls Try.prog 20 #[.func (.func 32) #[] #[], .agg (rd cs p b l), .func (.func 63) #[] lb] w fun e w' => e = .returned (.tuple #[.int .i64 (untilF (fun k => fullW p b (itL p b cs oo mm k)) 0 N).1, .int .i64 (untilF (fun k => fullW p b (itL p b cs oo mm k)) 0 N).2]) ∧ Below w.heap.size w w' := by
  have hl := ok.len
  have F0 : At ((((w.alloc (.cells #[.func (.func 32) #[] #[]] 47)).alloc (.cells (rd cs p b l) 28)).alloc (.cells #[.int .i64 0] 2)).alloc (.cells #[.int .i64 0] 2)) w.heap.size #[.func (.func 32) #[] #[]] 47 := (((At.new w _ _).alloc _).alloc _).alloc _
  have A0 : At ((((w.alloc (.cells #[.func (.func 32) #[] #[]] 47)).alloc (.cells (rd cs p b l) 28)).alloc (.cells #[.int .i64 0] 2)).alloc (.cells #[.int .i64 0] 2)) (w.heap.size + 1) (rd cs p b l) 28 := ((At.last1 w _ _ _).alloc _).alloc _
  have S0 : At ((((w.alloc (.cells #[.func (.func 32) #[] #[]] 47)).alloc (.cells (rd cs p b l) 28)).alloc (.cells #[.int .i64 0] 2)).alloc (.cells #[.int .i64 0] 2)) (w.heap.size + 1 + 1) #[.int .i64 0] 2 := (At.last2 w _ _ _ _).alloc _
  have U0 : At ((((w.alloc (.cells #[.func (.func 32) #[] #[]] 47)).alloc (.cells (rd cs p b l) 28)).alloc (.cells #[.int .i64 0] 2)).alloc (.cells #[.int .i64 0] 2)) (w.heap.size + 1 + 1 + 1) #[.int .i64 0] 2 := by
    have := At.new (((w.alloc (.cells #[.func (.func 32) #[] #[]] 47)).alloc (.cells (rd cs p b l) 28)).alloc (.cells #[.int .i64 0] 2)) #[.int .i64 0] 2
    rwa [World.size_alloc, World.size_alloc, World.size_alloc] at this
  have B0 := Lib.hid (bnew (bnew (bnew (b0 w (.cells #[.func (.func 32) #[] #[]] 47)) (.cells (rd cs p b l) 28)) (.cells #[.int .i64 0] 2)) (.cells #[.int .i64 0] 2))
  have lF : (Instr.loadAt 47 (.pointer (some ⟨w.heap.size, 0, none⟩))).run Try.prog ((((w.alloc (.cells #[.func (.func 32) #[] #[]] 47)).alloc (.cells (rd cs p b l) 28)).alloc (.cells #[.int .i64 0] 2)).alloc (.cells #[.int .i64 0] 2)) = .ok (.func (.func 32) #[] #[]) ((((w.alloc (.cells #[.func (.func 32) #[] #[]] 47)).alloc (.cells (rd cs p b l) 28)).alloc (.cells #[.int .i64 0] 2)).alloc (.cells #[.int .i64 0] 2)) := run_load_one ((((w.alloc (.cells #[.func (.func 32) #[] #[]] 47)).alloc (.cells (rd cs p b l) 28)).alloc (.cells #[.int .i64 0] 2)).alloc (.cells #[.int .i64 0] 2)) 47 _ Try.underlying47 rfl _ _ (F0.cell (k := 0) rfl)
  refine (callsIn_wide (n := 3)).1 ?_
  refine callsIn_of_wp_marks Try.func20 rfl trivial ?_ rfl
  refine wpIn_wide.2 ?_
  simp only [Try.ntmps20, List.size_toArray, List.length_cons, List.length_nil, Nat.reduceAdd, Nat.reduceSub, Array.replicate_succ, Array.replicate_zero, List.push_toArray, List.append_toArray, List.nil_append, List.cons_append]
  have HS := Lib.hid hseq
  have KW := isFull_b cs p b l ok
  clear hseq
  go_wp2_with (first | ((with_reducible refine is_load 47 _ rfl ?_); refine wpList_load_of rfl 47 _ rfl _ rfl _ lF ?_) | ((with_reducible refine is_load 28 _ rfl ?_); refine wpList_load_at rfl 28 _ rfl _ rfl (rd cs p b l) _ A0 19 (rd_size hl p b l) _ Try.underlying28 rfl (by kernel_rfl) ?_))
  refine (KW _).mono ?_
  rintro e w1 ⟨rfl, hb1⟩
  have F1 := F0.step hb1
  have S1 := S0.step hb1
  have U1 := U0.step hb1
  have B1 := Lib.hid (bthen B0.out hb1)
  have Z1 : w.heap.size + 4 ≤ w1.heap.size := by have := hb1.size; simp at this; omega
  clear F0 A0 S0 U0 B0 hb1 lF KW
  cases h0 : fullW p b cs
  · have C0 := At.new w1 #[.int .i64 0] 2
    have C2 := C0.setRow #[.int .i64 0]
    have F2 := (F1.alloc (.cells #[.int .i64 0] 2)).setRow_other (k := w1.heap.size) (Nat.ne_of_lt F1.lt) #[.int .i64 0]
    have S2 := (S1.alloc (.cells #[.int .i64 0] 2)).setRow_other (k := w1.heap.size) (Nat.ne_of_lt S1.lt) #[.int .i64 0]
    have U2 := (U1.alloc (.cells #[.int .i64 0] 2)).setRow_other (k := w1.heap.size) (Nat.ne_of_lt U1.lt) #[.int .i64 0]
    have B2 := Lib.hid (bset (bnew B1.out (.cells #[.int .i64 0] 2)) (g := w1.heap.size) B1.out.size #[.int .i64 0])
    have H0 : Hid (∀ j, j ≤ 0 → fullW p b (itL p b cs oo mm j) = false) := Lib.hid fun j hj => by obtain rfl : j = 0 := (by omega); exact h0
    clear h0
    go_wp2_with (((with_reducible refine is_store 2 (.tmp 8) (.const (.int .i64 0)) rfl ?_); refine wpList_store_cell rfl 2 (.tmp 8) (.const (.int .i64 0)) rfl _ _ rfl (.int .i64 0) rfl (#[.int .i64 0]) _ C0 (by simp) (by kernel_rfl) rfl (#[.int .i64 0]) rfl ?_))
    generalize hwl : (w1.alloc (.cells #[.int .i64 0] 2)).setRow w1.heap.size #[.int .i64 0] = wl at F2 S2 U2 C2 B2 ⊢
    clear hwl C0 F1 S1 U1 B1
    generalize w1.heap.size = gc at C2 Z1 ⊢
    have Z2 := C2.lt
    refine (wpIn_wide (n := 3)).1 (wpIn_range (w0 := w) (N := N) rfl (by omega) (gf := 63) (lb := lb) rfl trivial (enters_of Try.func63 (by kernel_rfl) rfl) HS.out B2.out (fun _ => rfl)
      (fun k W => At W w.heap.size #[.func (.func 32) #[] #[]] 47 ∧ At W (w.heap.size + 1 + 1) #[.int .i64 0] 2 ∧ At W (w.heap.size + 1 + 1 + 1) #[.int .i64 0] 2 ∧ At W gc #[.int .i64 ((k : Nat) : Int)] 2 ∧ Hid (Below w.heap.size w W) ∧ Hid (∀ j, j ≤ k → fullW p b (itL p b cs oo mm j) = false)) (fun k W => At W (w.heap.size + 1 + 1) #[.int .i64 ((k : Nat) : Int)] 2 ∧ At W (w.heap.size + 1 + 1 + 1) #[.int .i64 0] 2 ∧ Hid (Below w.heap.size w W) ∧ Hid (untilF (fun k => fullW p b (itL p b cs oo mm k)) 0 N = (((k : Nat) : Int), 0))) ?_ ?_ ⟨F2, S2, U2, C2, B2, H0⟩ ?_ ?_ ?_)
    · rintro k A B ⟨a1, a2, a3, a4, a5, a6⟩ hb
      exact ⟨(hb.block _ (by omega)).trans a1, (hb.block _ (by omega)).trans a2, (hb.block _ (by omega)).trans a3, (hb.block _ (by omega)).trans a4, Lib.hid (a5.out.trans (hb.mono (by omega))), a6⟩
    · rintro k A B ⟨a2, a3, a5, a6⟩ hb
      exact ⟨(hb.block _ (by omega)).trans a2, (hb.block _ (by omega)).trans a3, Lib.hid (a5.out.trans (hb.mono (by omega))), a6⟩
    · rintro l' k W hl1 hl2 hkN ⟨F3, S3, U3, C3, B3, H3⟩
      clear F2 S2 U2 C2 B2 H0
      have hz : (Try.prog.info? 66).map (·.size) = some 55 := by kernel_rfl
      rw [fold_one]
      change Code.wpIn _ _ _ _ _ { tmps := #[.func (.func 32) #[] #[], .agg (rd cs p b l), .func (.func 63) #[] lb, .pointer (some ⟨w.heap.size, 0, none⟩), .pointer (some ⟨w.heap.size + 1, 0, none⟩), undef, .pointer (some ⟨w.heap.size + 1 + 1, 0, none⟩), .pointer (some ⟨w.heap.size + 1 + 1 + 1, 0, none⟩), .pointer (some ⟨gc, 0, none⟩), undef, .func (.func 32) #[] #[], .agg (rd cs p b l), .bool false, .func (.func 63) #[] lb, .agg (stepRow p b l cs oo mm k), undef, undef, undef, undef, undef, undef, undef], defers := [] } W
      have ZN := At.new W (rd (zeros 16) 0 0 0 ++ fl (zeros 17) ++ rd (zeros 16) 0 0 0) 66
      have zs : (rd (zeros 16) 0 0 0 ++ fl (zeros 17) ++ rd (zeros 16) 0 0 0).size = 55 := by rfl
      have ss : (stepRow p b l cs oo mm k).size = 55 := stepRow_size ok oo mm k
      have so : (stepRow p b l cs oo mm k).all (·.oneCell') = true := stepRow_one p b l cs oo mm k
      gi_wp2_with ((with_reducible refine in_is_store 66 (.tmp 9) (.tmp 14) rfl ?_); refine in_store_at rfl 66 (.tmp 9) (.tmp 14) rfl _ rfl (stepRow p b l cs oo mm k) rfl (rd (zeros 16) 0 0 0 ++ fl (zeros 17) ++ rd (zeros 16) 0 0 0) _ ZN 55 ss zs hz so ?_)
      have K2 : Kept wl.heap.size W ((W.alloc (.cells (rd (zeros 16) 0 0 0 ++ fl (zeros 17) ++ rd (zeros 16) 0 0 0) 66)).setRow W.heap.size (stepRow p b l cs oo mm k)) := Kept.of_below (bset (b0 W _) (Nat.le_refl _) _)
      have H2 : Below w.heap.size W ((W.alloc (.cells (rd (zeros 16) 0 0 0 ++ fl (zeros 17) ++ rd (zeros 16) 0 0 0) 66)).setRow W.heap.size (stepRow p b l cs oo mm k)) := (bset (b0 W _) (Nat.le_refl _) _).mono B3.out.size
      have X4 := ZN.setRow (stepRow p b l cs oo mm k)
      have F4 := (F3.alloc (.cells (rd (zeros 16) 0 0 0 ++ fl (zeros 17) ++ rd (zeros 16) 0 0 0) 66)).setRow_other (k := W.heap.size) (Nat.ne_of_lt F3.lt) (stepRow p b l cs oo mm k)
      have S4 := (S3.alloc (.cells (rd (zeros 16) 0 0 0 ++ fl (zeros 17) ++ rd (zeros 16) 0 0 0) 66)).setRow_other (k := W.heap.size) (Nat.ne_of_lt S3.lt) (stepRow p b l cs oo mm k)
      have U4 := (U3.alloc (.cells (rd (zeros 16) 0 0 0 ++ fl (zeros 17) ++ rd (zeros 16) 0 0 0) 66)).setRow_other (k := W.heap.size) (Nat.ne_of_lt U3.lt) (stepRow p b l cs oo mm k)
      have C4 := (C3.alloc (.cells (rd (zeros 16) 0 0 0 ++ fl (zeros 17) ++ rd (zeros 16) 0 0 0) 66)).setRow_other (k := W.heap.size) (Nat.ne_of_lt C3.lt) (stepRow p b l cs oo mm k)
      have B4 := Lib.hid (bset (bnew B3.out (.cells (rd (zeros 16) 0 0 0 ++ fl (zeros 17) ++ rd (zeros 16) 0 0 0) 66)) (g := W.heap.size) B3.out.size (stepRow p b l cs oo mm k))
      rw [show (rd (zeros 16) 0 0 0 ++ fl (zeros 17) ++ rd (zeros 16) 0 0 0 : Array Value) = #[.float .f32 0, .float .f32 0, .float .f32 0, .float .f32 0, .float .f32 0, .float .f32 0, .float .f32 0, .float .f32 0, .float .f32 0, .float .f32 0, .float .f32 0, .float .f32 0, .float .f32 0, .float .f32 0, .float .f32 0, .float .f32 0, .float .f32 0, .float .f32 0, .float .f32 0, .float .f32 0, .float .f32 0, .float .f32 0, .float .f32 0, .float .f32 0, .float .f32 0, .float .f32 0, .float .f32 0, .float .f32 0, .float .f32 0, .float .f32 0, .float .f32 0, .float .f32 0, .float .f32 0, .float .f32 0, .float .f32 0, .float .f32 0, .float .f32 0, .float .f32 0, .float .f32 0, .float .f32 0, .float .f32 0, .float .f32 0, .float .f32 0, .float .f32 0, .float .f32 0, .float .f32 0, .float .f32 0, .float .f32 0, .float .f32 0, .float .f32 0, .float .f32 0, .float .f32 0, .float .f32 0, .float .f32 0, .float .f32 0] from rfl] at K2 H2 X4 F4 S4 U4 C4 B4
      generalize hw2 : (W.alloc (.cells #[.float .f32 0, .float .f32 0, .float .f32 0, .float .f32 0, .float .f32 0, .float .f32 0, .float .f32 0, .float .f32 0, .float .f32 0, .float .f32 0, .float .f32 0, .float .f32 0, .float .f32 0, .float .f32 0, .float .f32 0, .float .f32 0, .float .f32 0, .float .f32 0, .float .f32 0, .float .f32 0, .float .f32 0, .float .f32 0, .float .f32 0, .float .f32 0, .float .f32 0, .float .f32 0, .float .f32 0, .float .f32 0, .float .f32 0, .float .f32 0, .float .f32 0, .float .f32 0, .float .f32 0, .float .f32 0, .float .f32 0, .float .f32 0, .float .f32 0, .float .f32 0, .float .f32 0, .float .f32 0, .float .f32 0, .float .f32 0, .float .f32 0, .float .f32 0, .float .f32 0, .float .f32 0, .float .f32 0, .float .f32 0, .float .f32 0, .float .f32 0, .float .f32 0, .float .f32 0, .float .f32 0, .float .f32 0, .float .f32 0] 66)).setRow W.heap.size (stepRow p b l cs oo mm k) = W2 at K2 H2 X4 F4 S4 U4 C4 B4 ⊢
      clear hw2 zs ZN so ss hz
      refine ⟨K2, H2, fun o' => ?_⟩
      clear K2 H2
      have X5 := X4.turn (l := l') (by omega) o'
      have F5 := F4.turn (l := l') (by omega) o'
      have S5 := S4.turn (l := l') (by omega) o'
      have U5 := U4.turn (l := l') (by omega) o'
      have C5 := C4.turn (l := l') (by omega) o'
      have B5 : Hid (Below w.heap.size w (W2.putObj l' o')) := Lib.hid (B4.out.trans (below_putObj o' (by omega)))
      clear X4 F4 S4 U4 C4 B4 F3 S3 U3 C3 B3
      have gl := hl2
      generalize W.heap.size = gx at X5 gl ⊢
      generalize W2.putObj l' o' = W5 at X5 F5 S5 U5 C5 B5 ⊢
      have ok1 := itL_ok ok oo mm (k + 1)
      have KW := isFull_b (itL p b cs oo mm (k + 1)) p b l ok1
      have sX := stepRow_size ok oo mm k
      have xA := stepRow_after ok oo mm k
      have hi := (show (Try.prog.info? 28).map (·.size) = some 19 by kernel_rfl)
      have s2 : IntKind.i64.wrap ((k : Int) + 1) = (k : Int) + 1 := IntWalk.i64_in _ (by omega)
      have lC : (Instr.loadAt 2 (.pointer (some ⟨gc, 0, none⟩))).run Try.prog W5 = .ok (.int .i64 (k : Int)) W5 := run_load_one W5 2 _ Try.underlying2 rfl _ _ (C5.cell (k := 0) rfl)
      have G5 := run_storeAt_one (P := Try.prog) W5 gc 0 2 2 #[.int .i64 (k : Int)] (.int .i64 ((k : Int) + 1)) C5 (by kernel_rfl) (by simp) rfl
      rw [show (#[.int .i64 (k : Int)] : Array Value).setIfInBounds 0 (.int .i64 ((k : Int) + 1)) = #[.int .i64 ((k : Int) + 1)] from rfl] at G5
      have C6 := C5.setRow #[.int .i64 ((k : Int) + 1)]
      have X6 := X5.setRow_other (k := gc) (by omega) #[.int .i64 ((k : Int) + 1)]
      have F6 := F5.setRow_other (k := gc) (by omega) #[.int .i64 ((k : Int) + 1)]
      have S6 := S5.setRow_other (k := gc) (by omega) #[.int .i64 ((k : Int) + 1)]
      have U6 := U5.setRow_other (k := gc) (by omega) #[.int .i64 ((k : Int) + 1)]
      have B6 := Lib.hid (bset B5.out (g := gc) (by omega) #[.int .i64 ((k : Int) + 1)])
      have H6 := Lib.hid (bset (Below.refl w.heap.size W5) (g := gc) (by omega) #[.int .i64 ((k : Int) + 1)])
      have K6 := Lib.hid ((Kept.refl wl.heap.size W5).row (g := gc) (by omega) #[.int .i64 ((k : Int) + 1)])
      gi_wp2_with (first
        | ((with_reducible refine in_is_load 2 (.tmp 8) rfl ?_); refine in_load_of rfl 2 (.tmp 8) rfl _ rfl _ lC ?_)
        | ((with_reducible refine in_is_store 2 (.tmp 8) (.tmp 16) rfl ?_); refine in_store_of rfl 2 (.tmp 8) (.tmp 16) rfl _ rfl _ rfl _ G5 ?_; refine Hid.out ?_))
      refine Lib.hid ?_
      clear X5 F5 S5 U5 C5 B5 lC G5
      generalize W5.setRow gc #[.int .i64 ((k : Int) + 1)] = W6 at X6 F6 S6 U6 C6 B6 H6 K6 ⊢
      have lF : (Instr.loadAt 47 (.pointer (some ⟨w.heap.size, 0, none⟩))).run Try.prog W6 = .ok (.func (.func 32) #[] #[]) W6 := run_load_one W6 47 _ Try.underlying47 rfl _ _ (F6.cell (k := 0) rfl)
      gi_wp2_with (first
        | ((with_reducible refine in_is_load 47 (.tmp 3) rfl ?_); refine in_load_of rfl 47 (.tmp 3) rfl _ rfl _ lF ?_)
        | ((with_reducible refine in_is_load 28 (.tmp 18) rfl ?_); refine in_load_part rfl 28 (.tmp 18) rfl _ 36 rfl (stepRow p b l cs oo mm k) _ X6 19 (by omega) _ Try.underlying28 rfl hi _ xA ?_))
      refine ⟨trivial, (CallsIn.inRound l' (callsIn_wide.2 (KW _))).mono ?_⟩
      rintro e W7 ⟨rfl, hb7⟩
      have F7 := F6.step hb7
      have S7 := S6.step hb7
      have U7 := U6.step hb7
      have C7 := C6.step hb7
      have B7 := Lib.hid (bthen B6.out hb7)
      have K7 := Lib.hid (K6.out.trans (Kept.of_below hb7))
      have H7 := Lib.hid (H6.out.trans (hb7.mono B6.out.size))
      clear F6 S6 U6 C6 X6 B6 K6 H6 hb7 KW lF xA sX
      cases h1 : fullW p b (itL p b cs oo mm (k + 1))
      · have H8 : Hid (∀ j, j ≤ k + 1 → fullW p b (itL p b cs oo mm j) = false) := Lib.hid fun j hj => by
          rcases Nat.lt_or_ge j (k + 1) with c | c
          · exact H3.out j (by omega)
          · obtain rfl : j = k + 1 := (by omega)
            exact h1
        clear h1 H3
        gi_wp2
        exact ⟨K7.out, H7.out, F7, S7, U7, C7, B7, H8⟩
      · have hv : Hid (untilF (fun k => fullW p b (itL p b cs oo mm k)) 0 N = (((k + 1 : Nat) : Int), 0)) := Lib.hid (by
          have := untilF_yes (wt := fun k => fullW p b (itL p b cs oo mm k)) (f := N) (k := 0) (m := k + 1) (fun j _ h2 => H3.out j (by omega)) (by rw [Nat.zero_add]; exact h1) (by omega)
          rwa [Nat.zero_add] at this)
        clear h1 H3
        have lC7 : (Instr.loadAt 2 (.pointer (some ⟨gc, 0, none⟩))).run Try.prog W7 = .ok (.int .i64 ((k : Int) + 1)) W7 := run_load_one W7 2 _ Try.underlying2 rfl _ _ (C7.cell (k := 0) rfl)
        have G8 := run_storeAt_one (P := Try.prog) W7 (w.heap.size + 1 + 1) 0 2 2 #[.int .i64 0] (.int .i64 ((k : Int) + 1)) S7 (by kernel_rfl) (by simp) rfl
        rw [show (#[.int .i64 0] : Array Value).setIfInBounds 0 (.int .i64 ((k : Int) + 1)) = #[.int .i64 ((k : Int) + 1)] from rfl] at G8
        have S8 := S7.setRow #[.int .i64 ((k : Int) + 1)]
        have U8 := U7.setRow_other (k := w.heap.size + 1 + 1) (by omega) #[.int .i64 ((k : Int) + 1)]
        have B8 := Lib.hid (bset B7.out (g := w.heap.size + 1 + 1) (by omega) #[.int .i64 ((k : Int) + 1)])
        have K8 := Lib.hid (K7.out.row (g := w.heap.size + 1 + 1) (by omega) #[.int .i64 ((k : Int) + 1)])
        gi_wp2_with (first
          | ((with_reducible refine in_is_load 2 (.tmp 8) rfl ?_); refine in_load_of rfl 2 (.tmp 8) rfl _ rfl _ lC7 ?_)
          | ((with_reducible refine in_is_store 2 (.tmp 6) (.tmp 21) rfl ?_); refine in_store_of rfl 2 (.tmp 6) (.tmp 21) rfl _ rfl _ rfl _ G8 ?_; refine Hid.out ?_))
        refine Lib.hid ?_
        clear S7 U7 C7 F7 B7 K7 H7 lC7 G8
        generalize W7.setRow (w.heap.size + 1 + 1) #[.int .i64 ((k : Int) + 1)] = W8 at S8 U8 B8 K8 ⊢
        have G9 := run_storeAt_one (P := Try.prog) W8 (w.heap.size + 1 + 1 + 1) 0 2 2 #[.int .i64 0] (.int .i64 0) U8 (by kernel_rfl) (by simp) rfl
        rw [show (#[.int .i64 0] : Array Value).setIfInBounds 0 (.int .i64 0) = #[.int .i64 0] from rfl] at G9
        have U9 := U8.setRow #[.int .i64 0]
        have S9 := S8.setRow_other (k := w.heap.size + 1 + 1 + 1) (by omega) #[.int .i64 0]
        have B9 := Lib.hid (bset B8.out (g := w.heap.size + 1 + 1 + 1) (by omega) #[.int .i64 0])
        have K9 := Lib.hid (K8.out.row (g := w.heap.size + 1 + 1 + 1) (by omega) #[.int .i64 0])
        clear S8 U8 B8 K8
        gi_wp2_with ((with_reducible refine in_is_store 2 (.tmp 7) (.const (.int .i64 0)) rfl ?_); refine in_store_of rfl 2 (.tmp 7) (.const (.int .i64 0)) rfl _ rfl _ rfl _ G9 ?_)
        exact ⟨K9.out, S9, U9, B9, hv⟩
    · rintro D W hD ⟨F3, S3, U3, C3, B3, H3⟩ hK
      have hv := Lib.hid (show untilF (fun k => fullW p b (itL p b cs oo mm k)) 0 N = (0, 7) from untilF_no (fun j _ h2 => H3.out j (by omega)))
      clear F2 S2 U2 C2 B2 H0 H3 C3 F3
      have S4 := S3.setRow #[.int .i64 0]
      have U4 := U3.setRow_other (k := w.heap.size + 1 + 1) (by omega) #[.int .i64 0]
      have B4 := Lib.hid (bset B3.out (g := w.heap.size + 1 + 1) (by omega) #[.int .i64 0])
      have U5 := U4.setRow #[.int .i64 7]
      have S5 := S4.setRow_other (k := w.heap.size + 1 + 1 + 1) (by omega) #[.int .i64 7]
      have B5 := Lib.hid (bset B4.out (g := w.heap.size + 1 + 1 + 1) (by omega) #[.int .i64 7])
      have K5 := Lib.hid ((heap_setRow_other _ _ _ #[.int .i64 7] (show D ≠ w.heap.size + 1 + 1 + 1 by omega)).trans ((heap_setRow_other _ _ _ #[.int .i64 0] (show D ≠ w.heap.size + 1 + 1 by omega)).trans hK))
      clear hK
      go_wp2_with (first | ((with_reducible refine is_store 2 (.tmp 6) (.const (.int .i64 0)) rfl ?_); refine wpList_store_cell rfl 2 (.tmp 6) (.const (.int .i64 0)) rfl _ _ rfl (.int .i64 0) rfl (#[.int .i64 0]) _ S3 (by simp) (by kernel_rfl) rfl (#[.int .i64 0]) rfl ?_) | ((with_reducible refine is_store 2 (.tmp 7) (.const (.int .i64 7)) rfl ?_); refine wpList_store_cell rfl 2 (.tmp 7) (.const (.int .i64 7)) rfl _ _ rfl (.int .i64 7) rfl (#[.int .i64 0]) _ U4 (by simp) (by kernel_rfl) rfl (#[.int .i64 7]) rfl ?_))
      refine ⟨by simp, .inl ⟨_, _, rfl, run_takeDeferred K5.out, ?_⟩⟩
      have S6 := S5.turn (l := D) (by omega) (.deferred none)
      have U6 := U5.turn (l := D) (by omega) (.deferred none)
      exact ⟨.tuple #[.int .i64 0, .int .i64 7], results_cells2 rfl _ _ _ _ _ _ rfl rfl (run_load_one _ 2 _ Try.underlying2 rfl _ _ (S6.cell (k := 0) rfl)) (run_load_one _ 2 _ Try.underlying2 rfl _ _ (U6.cell (k := 0) rfl)), by rw [hv.out], B5.out.trans (below_putObj _ (by omega))⟩
    · rintro D k W hD hkN ⟨S5, U5, B5, hv⟩ hK
      have K5 := Lib.hid hK
      clear F2 S2 U2 C2 B2 H0 hK
      refine wpIn_wide.2 ?_
      go_wp2
      refine ⟨by simp, .inl ⟨_, _, rfl, run_takeDeferred K5.out, ?_⟩⟩
      have S6 := S5.turn (l := D) (by omega) (.deferred none)
      have U6 := U5.turn (l := D) (by omega) (.deferred none)
      exact ⟨.tuple #[.int .i64 (((k + 1 : Nat) : Int)), .int .i64 0], results_cells2 rfl _ _ _ _ _ _ rfl rfl (run_load_one _ 2 _ Try.underlying2 rfl _ _ (S6.cell (k := 0) rfl)) (run_load_one _ 2 _ Try.underlying2 rfl _ _ (U6.cell (k := 0) rfl)), by rw [hv.out], B5.out.trans (below_putObj _ (by omega))⟩
  · have S2 := S1.setRow #[.int .i64 0]
    have U2 := U1.setRow_other (k := w.heap.size + 1 + 1) (by omega) #[.int .i64 0]
    have B2 := Lib.hid (bset B1.out (g := w.heap.size + 1 + 1) (by omega) #[.int .i64 0])
    have U3 := U2.setRow #[.int .i64 0]
    have S3 := S2.setRow_other (k := w.heap.size + 1 + 1 + 1) (by omega) #[.int .i64 0]
    have B3 := Lib.hid (bset B2.out (g := w.heap.size + 1 + 1 + 1) (by omega) #[.int .i64 0])
    have hv := Lib.hid (show untilF (fun k => fullW p b (itL p b cs oo mm k)) 0 N = (0, 0) from untilF_yes (m := 0) (fun j h1 h2 => by omega) h0 (by omega))
    go_wp2_with (first | ((with_reducible refine is_store 2 (.tmp 6) (.const (.int .i64 0)) rfl ?_); refine wpList_store_cell rfl 2 (.tmp 6) (.const (.int .i64 0)) rfl _ _ rfl (.int .i64 0) rfl (#[.int .i64 0]) _ S1 (by simp) (by kernel_rfl) rfl (#[.int .i64 0]) rfl ?_) | ((with_reducible refine is_store 2 (.tmp 7) (.const (.int .i64 0)) rfl ?_); refine wpList_store_cell rfl 2 (.tmp 7) (.const (.int .i64 0)) rfl _ _ rfl (.int .i64 0) rfl (#[.int .i64 0]) _ U2 (by simp) (by kernel_rfl) rfl (#[.int .i64 0]) rfl ?_))
    exact ⟨.tuple #[.int .i64 0, .int .i64 0], results_cells2 rfl _ _ _ _ _ _ rfl rfl (run_load_one _ 2 _ Try.underlying2 rfl _ _ (S3.cell (k := 0) rfl)) (run_load_one _ 2 _ Try.underlying2 rfl _ _ (U3.cell (k := 0) rfl)), by rw [hv.out], B3.out⟩

end Go.Proofs.Ytpcobfcnpeoihaa
