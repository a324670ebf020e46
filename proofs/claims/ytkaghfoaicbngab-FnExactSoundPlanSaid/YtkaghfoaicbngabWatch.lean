/-
  CONTRACTS: a watch over a table, that keeps the conflicts that it has met.
-/
import Derived.Test.YtkaghfoaicbngabMapP
import Derived.Test.YtkaghfoaicbngabCfl
import Derived.Test.YtkaghfoaicbngabLate
namespace Go.Proofs.Ytkaghfoaicbngab
open Go Go.ChangeShapes Go.WideShapes Go.ChangeAt Go.RowKit
set_option maxRecDepth 100000
theorem foldw_get (off : Nat) : ∀ (cs : List Value) (k : Nat) (old : Array Value), off + k + cs.length ≤ old.size → ∀ i : Nat,
    ((cs.zipIdx k).foldl (fun (a : Array Value) (x : Value × Nat) => a.setIfInBounds (off + x.2) x.1) old)[i]? = if off + k ≤ i ∧ i < off + k + cs.length then cs[i - (off + k)]? else old[i]?
  | [], k, old, h, i => by
    rw [if_neg (by simp)]; rfl
  | c :: cs, k, old, h, i => by
    simp only [List.length_cons] at h
    simp only [List.zipIdx_cons, List.foldl_cons]
    rw [foldw_get off cs (k + 1) _ (by simp; omega) i]
    by_cases c1 : off + (k + 1) ≤ i ∧ i < off + (k + 1) + cs.length
    · rw [if_pos c1, if_pos (by simp; omega), show i - (off + k) = (i - (off + (k + 1))) + 1 by omega, List.getElem?_cons_succ]
    · rw [if_neg c1, Array.getElem?_setIfInBounds]
      by_cases e : off + k = i
      · subst e
        rw [if_pos rfl, if_pos (by omega), if_pos (by simp), Nat.sub_self]
        rfl
      · rw [if_neg e, if_neg (by simp; omega)]
theorem foldw_arr (off : Nat) (cs old : Array Value) (h : off + cs.size ≤ old.size) (i : Nat) :
    (cs.zipIdx.foldl (fun (a : Array Value) (x : Value × Nat) => a.setIfInBounds (off + x.2) x.1) old)[i]? = if off ≤ i ∧ i < off + cs.size then cs[i - off]? else old[i]? := by
  have := foldw_get off cs.toList 0 old (by simpa using h) i
  rw [← Array.foldl_toList, Array.toList_zipIdx]
  simpa using this
theorem foldw_size (off : Nat) (l : List (Value × Nat)) : ∀ old : Array Value, (l.foldl (fun (a : Array Value) (x : Value × Nat) => a.setIfInBounds (off + x.2) x.1) old).size = old.size := by
  induction l with
  | nil => intro old; rfl
  | cons c l ih => intro old; rw [List.foldl_cons, ih]; simp
theorem foldw_asize (off : Nat) (cs old : Array Value) : (cs.zipIdx.foldl (fun (a : Array Value) (x : Value × Nat) => a.setIfInBounds (off + x.2) x.1) old).size = old.size := by
  rw [← Array.foldl_toList]; exact foldw_size _ _ _


/-- a watch: its table, its map -/
def wt (ts : List Bool) (r : Nat) : Array Value := bl ts ++ #[.map (some r)]

theorem wt_size {ts : List Bool} (h : ts.length = 64) (r : Nat) : (wt ts r).size = 65 := by unfold wt; rw [Array.size_append, bl_size, h]; rfl

theorem wt_m {ts : List Bool} (h : ts.length = 64) (r : Nat) : (wt ts r)[64]? = some (.map (some r)) := by
  unfold wt
  rw [Array.getElem?_append_right (by rw [bl_size, h]; omega), bl_size, h]
  rfl

theorem wt_t {ts : List Bool} (h : ts.length = 64) (r : Nat) : (wt ts r).extract 0 (0 + 64) = bl ts := by
  unfold wt
  have hs : (bl ts).size = 64 := by rw [bl_size, h]
  apply Array.ext_getElem?
  intro i
  rw [Array.getElem?_extract]
  by_cases c : i < 64
  · rw [if_pos (by simp [hs]; omega), Array.getElem?_append_left (by omega), Nat.zero_add]
  · rw [if_neg (by omega), Array.getElem?_eq_none (by omega)]

theorem wt_one (ts : List Bool) (r : Nat) : (wt ts r).all (·.oneCell') = true := by
  unfold wt
  rw [Array.all_append, bl_one]
  simp [Value.oneCell']

section
variable {P : Program} {ops : Array Oper} {rest : List Oper} {o : Oper} {a : Act} {w : World} {Q : Exit → Act → World → Prop}
theorem is_lookup (ty : TypeId) (x i : Operand) (c : Bool) (_ho : o.op = .lookup ty x i c) (h : wpList P ops Q (o :: rest) a w) : wpList P ops Q (o :: rest) a w := h

theorem wpList_lookup (hgd : o.guard = none) (ty : TypeId) (x i : Operand) (c : Bool) (ho : o.op = .lookup ty x i c) (vx vi : Value) (hx : a.eval x = vx) (hi : a.eval i = vi) (v : Value) (hrun : (Instr.lookup ty vx vi c).run P w = .ok v w) (h : wpList P ops Q rest (a.put o.dst v) w) : wpList P ops Q (o :: rest) a w :=
  wpList_plain hgd fun _ hK => by
    unfold Oper.wp execOp
    simp only [ho, hx, hi, Sem.run_bind, hrun, Sem.run_pure, Result.andThen_ok]
    exact hK _ _ h

theorem is_makeMap (ty : TypeId) (_ho : o.op = .makeMap ty none) (h : wpList P ops Q (o :: rest) a w) : wpList P ops Q (o :: rest) a w := h

theorem wpList_makeMap (hgd : o.guard = none) (ty : TypeId) (ho : o.op = .makeMap ty none) (v : Value) (w' : World) (hrun : (Instr.makeMap ty none).run P w = .ok v w') (h : wpList P ops Q rest (a.put o.dst v) w') : wpList P ops Q (o :: rest) a w :=
  wpList_plain hgd fun _ hK => by
    unfold Oper.wp execOp
    simp only [ho, Sem.run_bind, Option.map_none, hrun, Sem.run_pure, Result.andThen_ok]
    exact hK _ _ h

theorem is_mapUpdate (ty : TypeId) (x i y : Operand) (_ho : o.op = .mapUpdate ty x i y) (h : wpList P ops Q (o :: rest) a w) : wpList P ops Q (o :: rest) a w := h

theorem wpList_mapUpdate (hgd : o.guard = none) (ty : TypeId) (x i y : Operand) (ho : o.op = .mapUpdate ty x i y) (vx vi vy : Value) (hx : a.eval x = vx) (hi : a.eval i = vi) (hy : a.eval y = vy) (w' : World) (hrun : (Instr.mapUpdate ty vx vi vy).run P w = .ok () w') (h : wpList P ops Q rest (a.put o.dst undef) w') : wpList P ops Q (o :: rest) a w :=
  wpList_plain hgd fun _ hK => by
    unfold Oper.wp execOp
    simp only [ho, hx, hi, hy, Sem.run_bind, hrun, Sem.run_pure, Result.andThen_ok]
    exact hK _ _ h
end

theorem Ce.put {gR : Nat} {W w1 : World} (h : Ce gR W w1) (o : Obj) : Ce gR W (w1.putObj gR o) := by
  obtain ⟨B, hB, hb, hk⟩ := h.sub
  have hs := h.size
  have hsz : (w1.putObj gR o).heap.size = w1.heap.size := World.putObj_size
  refine ⟨⟨min B gR, by omega, ⟨hb.1, hb.2, hb.3, ?_, fun i hi => ?_⟩, fun i h1 h2 h3 => ?_⟩, by omega⟩
  · have := hb.size; omega
  · exact (World.putObj_heap_other (by omega)).trans (hb.block i (by omega))
  · rw [World.putObj_heap_other h3]
    rcases Nat.lt_or_ge i B with c | c
    · exact hb.block i c
    · exact hk i c h2 h3

theorem zero_cf (w : World) : (zeroValue 108).run Try.prog w = .ok (.agg (#[.int .i64 0, .int .i64 0, .bool false])) w := by kernel_rfl

theorem Ce.of {gR : Nat} {W w' : World} (h : Below W.heap.size W w') : Ce gR W w' := ⟨⟨W.heap.size, Nat.le_refl _, h, fun i h1 h2 _ => by omega⟩, h.size⟩

theorem Ce.row {gR : Nat} {W w1 : World} (h : Ce gR W w1) {g : Nat} (hg : W.heap.size ≤ g) (c : Array Value) : Ce gR W (w1.setRow g c) := by
  obtain ⟨B, hB, hb, hk⟩ := h.sub
  have hs := h.size
  refine ⟨⟨B, hB, Below.setRow hb (by omega) c, fun i h1 h2 h3 => ?_⟩, ?_⟩
  · rw [heap_setRow_other _ _ _ _ (by omega)]
    exact hk i h1 h2 h3
  · have := (Below.setRow (Below.refl g w1) (Nat.le_refl g) c).size
    omega

theorem At.turnW {W : World} {g l : Nat} {c : Array Value} {T : TypeId} (h : At W g c T) (hne : g ≠ l) (o : Obj) : At (W.putObj l o) g c T := (World.putObj_heap_other hne).trans h

def cfV (ts ps : List Bool) : Value := .agg (cfA (conf ts ps))

set_option maxHeartbeats 1000000 in
theorem conflictOf_any (ts ps : List Bool) (hl : ts.length = 64) (hp : ps.length = 8) (r : Nat) (L : List (List Bool)) (w : World) (hM : MpB w r (cfV ts) L) :
    Calls Try.prog 65 #[.agg (wt ts r), .agg (bl ps)] w fun e w' => e = .returned (cfV ts ps) ∧ (∃ L', MpB w' r (cfV ts) L') ∧ Ce r w w' := by
  have hrlt := hM.lt
  have A0 : At (((w.alloc (.cells (wt ts r) 105)).alloc (.cells (bl ps) 84)).alloc (.cells (#[.int .i64 0, .int .i64 0, .bool false]) 108)) w.heap.size (wt ts r) 105 := ((At.new w _ _).alloc _).alloc _
  have P0 : At (((w.alloc (.cells (wt ts r) 105)).alloc (.cells (bl ps) 84)).alloc (.cells (#[.int .i64 0, .int .i64 0, .bool false]) 108)) (w.heap.size + 1) (bl ps) 84 := (At.last1 w _ _ _).alloc _
  have R0 : At (((w.alloc (.cells (wt ts r) 105)).alloc (.cells (bl ps) 84)).alloc (.cells (#[.int .i64 0, .int .i64 0, .bool false]) 108)) (w.heap.size + 1 + 1) (#[.int .i64 0, .int .i64 0, .bool false]) 108 := by
    have := At.new ((w.alloc (.cells (wt ts r) 105)).alloc (.cells (bl ps) 84)) (#[.int .i64 0, .int .i64 0, .bool false]) 108
    rwa [World.size_alloc, World.size_alloc] at this
  have M0 := hM.step (bnew (bnew (b0 w (.cells (wt ts r) 105)) (.cells (bl ps) 84)) (.cells (#[.int .i64 0, .int .i64 0, .bool false]) 108))
  have B0 := Lib.hid (bnew (bnew (b0 w (.cells (wt ts r) 105)) (.cells (bl ps) 84)) (.cells (#[.int .i64 0, .int .i64 0, .bool false]) 108))
  have HLK := Lib.hid (M0.look ps hp _ 103 108 Try.underlying103 (zero_cf _))
  have hsz : (((w.alloc (.cells (wt ts r) 105)).alloc (.cells (bl ps) 84)).alloc (.cells (#[.int .i64 0, .int .i64 0, .bool false]) 108)).heap.size = w.heap.size + 1 + 1 + 1 := by rw [World.size_alloc, World.size_alloc, World.size_alloc]
  have V0 : At ((((w.alloc (.cells (wt ts r) 105)).alloc (.cells (bl ps) 84)).alloc (.cells (#[.int .i64 0, .int .i64 0, .bool false]) 108)).alloc (.cells (#[.int .i64 0, .int .i64 0, .bool false]) 108)) (w.heap.size + 1 + 1 + 1) (#[.int .i64 0, .int .i64 0, .bool false]) 108 := by
    have := At.new (((w.alloc (.cells (wt ts r) 105)).alloc (.cells (bl ps) 84)).alloc (.cells (#[.int .i64 0, .int .i64 0, .bool false]) 108)) (#[.int .i64 0, .int .i64 0, .bool false]) 108
    rwa [World.size_alloc, World.size_alloc, World.size_alloc] at this
  have hcf : (cfA (conf ts ps)).size = 3 := rfl
  have hone := Lib.hid (show (cfA (conf ts ps)).all (·.oneCell') = true from cf3_one _ _ _)
  have HM := Lib.hid hM
  by_cases hin : ps ∈ L
  · rw [if_pos hin, decide_eq_true hin] at HLK
    clear hin M0 hM
    have V1 := V0.setRow (cfA (conf ts ps))
    have R1 := (R0.alloc (.cells (#[.int .i64 0, .int .i64 0, .bool false]) 108)).setRow_other (k := w.heap.size + 1 + 1 + 1) (by omega) (cfA (conf ts ps))
    have B1 := Lib.hid (bset (bnew B0.out (.cells (#[.int .i64 0, .int .i64 0, .bool false]) 108)) (g := w.heap.size + 1 + 1 + 1) (by omega) (cfA (conf ts ps)))
    have R9 := R1.setRow (cfA (conf ts ps))
    have B9 := Lib.hid (bset B1.out (g := w.heap.size + 1 + 1) (by omega) (cfA (conf ts ps)))
    clear hsz hrlt
    go_enter Try.func65, Try.ntmps65
    go_wp2_with (first | ((with_reducible refine is_load 103 _ rfl ?_); refine wpList_load_cell rfl 103 _ rfl _ 64 rfl (wt ts r) _ (by with_reducible assumption) _ Try.underlying103 rfl (.map (some r)) (wt_m hl r) ?_) | ((with_reducible refine is_load 84 _ rfl ?_); refine wpList_load_at rfl 84 _ rfl _ rfl (bl ps) _ (by with_reducible assumption) 8 (by rw [bl_size, hp]) _ Try.underlying84 rfl (by kernel_rfl) ?_) | ((refine is_lookup 103 _ _ true rfl ?_); refine wpList_lookup rfl 103 _ _ true rfl _ _ rfl rfl _ HLK.out ?_) | ((with_reducible refine is_store 108 (.tmp 5) (.tmp 12) rfl ?_); refine wpList_store_at rfl 108 (.tmp 5) (.tmp 12) rfl _ rfl ((cfA (conf ts ps))) rfl (#[.int .i64 0, .int .i64 0, .bool false]) _ (by with_reducible assumption) 3 rfl rfl (by kernel_rfl) (cf3_one _ _ _) ?_) | ((with_reducible refine is_store 108 (.tmp 4) (.tmp 24) rfl ?_); refine wpList_store_at rfl 108 (.tmp 4) (.tmp 24) rfl _ rfl ((cfA (conf ts ps))) rfl (#[.int .i64 0, .int .i64 0, .bool false]) _ (by with_reducible assumption) 3 rfl rfl (by kernel_rfl) (cf3_one _ _ _) ?_) | ((with_reducible refine is_load 108 _ rfl ?_); refine wpList_load_at rfl 108 _ rfl _ rfl ((cfA (conf ts ps))) _ (by with_reducible assumption) 3 (hcf) _ Try.underlying108 rfl (by kernel_rfl) ?_))
    exact bodyPost_ret (v := cfV ts ps) (results_at (p := 4) (ty := 108) rfl _ _ _ (cfA (conf ts ps)) _ rfl R9 _ Try.underlying108 rfl 3 hcf (by kernel_rfl)) rfl ⟨rfl, ⟨L, HM.out.step B9.out⟩, Ce.of B9.out⟩
  · rw [if_neg hin, decide_eq_false hin] at HLK
    have hni := Lib.hid hin
    clear hin hM
    have KC := conflictIn_any ts ps hl hp
    have V1 := V0.setRow (#[.int .i64 0, .int .i64 0, .bool false])
    have A1 := (A0.alloc (.cells (#[.int .i64 0, .int .i64 0, .bool false]) 108)).setRow_other (k := w.heap.size + 1 + 1 + 1) (by omega) (#[.int .i64 0, .int .i64 0, .bool false])
    have P1 := (P0.alloc (.cells (#[.int .i64 0, .int .i64 0, .bool false]) 108)).setRow_other (k := w.heap.size + 1 + 1 + 1) (by omega) (#[.int .i64 0, .int .i64 0, .bool false])
    have R1 := (R0.alloc (.cells (#[.int .i64 0, .int .i64 0, .bool false]) 108)).setRow_other (k := w.heap.size + 1 + 1 + 1) (by omega) (#[.int .i64 0, .int .i64 0, .bool false])
    have B1 := Lib.hid (bset (bnew B0.out (.cells (#[.int .i64 0, .int .i64 0, .bool false]) 108)) (g := w.heap.size + 1 + 1 + 1) (by omega) (#[.int .i64 0, .int .i64 0, .bool false]))
    go_enter Try.func65, Try.ntmps65
    go_wp2_with (first | ((with_reducible refine is_load 103 _ rfl ?_); refine wpList_load_cell rfl 103 _ rfl _ 64 rfl (wt ts r) _ (by with_reducible assumption) _ Try.underlying103 rfl (.map (some r)) (wt_m hl r) ?_) | ((with_reducible refine is_load 84 _ rfl ?_); refine wpList_load_at rfl 84 _ rfl _ rfl (bl ps) _ (by with_reducible assumption) 8 (by rw [bl_size, hp]) _ Try.underlying84 rfl (by kernel_rfl) ?_) | ((refine is_lookup 103 _ _ true rfl ?_); refine wpList_lookup rfl 103 _ _ true rfl _ _ rfl rfl _ HLK.out ?_) | ((with_reducible refine is_store 108 (.tmp 5) (.tmp 12) rfl ?_); refine wpList_store_at rfl 108 (.tmp 5) (.tmp 12) rfl _ rfl (#[.int .i64 0, .int .i64 0, .bool false]) rfl (#[.int .i64 0, .int .i64 0, .bool false]) _ (by with_reducible assumption) 3 rfl rfl (by kernel_rfl) (cf3_one _ _ _) ?_) | ((with_reducible refine is_load 45 _ rfl ?_); refine wpList_load_part rfl 45 _ rfl _ 0 rfl (wt ts r) _ (by with_reducible assumption) 64 (by rw [wt_size hl]; omega) _ Try.underlying45 rfl (by kernel_rfl) (bl ts) (wt_t hl r) ?_))
    refine (KC _).mono ?_
    rintro e w5 ⟨rfl, hb5⟩
    obtain ⟨v, hv⟩ : ∃ v, v = w.heap.size + 1 + 1 + 1 := ⟨_, rfl⟩
    have hvl : w.heap.size + 1 + 1 < v := by omega
    rw [← hv] at V1 A1 P1 R1 B1 hb5
    rw [← hv]
    have A5 := A1.step hb5
    have P5 := P1.step hb5
    have R5 := R1.step hb5
    have V5 := V1.step hb5
    have B5 := Lib.hid (bthen B1.out hb5)
    clear hv hsz V0 A0 P0 R0 M0 B0 V1 A1 P1 R1 B1 hb5 HLK KC
    have A6 := A5.setRow_other (k := v) (by omega) (cfA (conf ts ps))
    have P6 := P5.setRow_other (k := v) (by omega) (cfA (conf ts ps))
    have R6 := R5.setRow_other (k := v) (by omega) (cfA (conf ts ps))
    have V6 := V5.setRow (cfA (conf ts ps))
    have B6 := Lib.hid (bset B5.out (g := v) (by omega) (cfA (conf ts ps)))
    obtain ⟨o, hrun, hM7⟩ := (HM.out.step B6.out).add ps hp hni.out 103 108 Try.underlying103
    have HR := Lib.hid hrun
    have R7 := R6.turnW (l := r) (by omega) o
    have V7 := V6.turnW (l := r) (by omega) o
    have C7 := Lib.hid ((Ce.of (gR := r) B6.out).put o)
    have R8 := R7.setRow (cfA (conf ts ps))
    have C8 := Lib.hid (C7.out.row (g := w.heap.size + 1 + 1) (by omega) (cfA (conf ts ps)))
    have M8 := Lib.hid (hM7.of (w' := ((w5.setRow v (cfA (conf ts ps))).putObj r o).setRow (w.heap.size + 1 + 1) (cfA (conf ts ps))) (heap_setRow_other _ _ _ _ (by omega)))
    clear hrun hM7 hrlt hvl
    go_wp2_with (first | ((with_reducible refine is_load 103 _ rfl ?_); refine wpList_load_cell rfl 103 _ rfl _ 64 rfl (wt ts r) _ (by with_reducible assumption) _ Try.underlying103 rfl (.map (some r)) (wt_m hl r) ?_) | ((with_reducible refine is_load 84 _ rfl ?_); refine wpList_load_at rfl 84 _ rfl _ rfl (bl ps) _ (by with_reducible assumption) 8 (by rw [bl_size, hp]) _ Try.underlying84 rfl (by kernel_rfl) ?_) | ((with_reducible refine is_store 108 (.tmp 5) (.tmp 19) rfl ?_); refine wpList_store_at rfl 108 (.tmp 5) (.tmp 19) rfl _ rfl ((cfA (conf ts ps))) rfl (#[.int .i64 0, .int .i64 0, .bool false]) _ (by with_reducible assumption) 3 rfl rfl (by kernel_rfl) (cf3_one _ _ _) ?_) | ((refine is_mapUpdate 103 _ _ _ rfl ?_); refine wpList_mapUpdate rfl 103 _ _ _ rfl _ _ _ rfl rfl rfl _ HR.out ?_) | ((with_reducible refine is_store 108 (.tmp 4) (.tmp 24) rfl ?_); refine wpList_store_at rfl 108 (.tmp 4) (.tmp 24) rfl _ rfl ((cfA (conf ts ps))) rfl (#[.int .i64 0, .int .i64 0, .bool false]) _ (by with_reducible assumption) 3 rfl rfl (by kernel_rfl) (cf3_one _ _ _) ?_) | ((with_reducible refine is_load 108 _ rfl ?_); refine wpList_load_at rfl 108 _ rfl _ rfl ((cfA (conf ts ps))) _ (by with_reducible assumption) 3 (hcf) _ Try.underlying108 rfl (by kernel_rfl) ?_))
    exact bodyPost_ret (v := cfV ts ps) (results_at (p := 4) (ty := 108) rfl _ _ _ (cfA (conf ts ps)) _ rfl R8 _ Try.underlying108 rfl 3 hcf (by kernel_rfl)) rfl ⟨rfl, ⟨_, M8.out⟩, C8.out⟩

theorem built_watch (ts : List Bool) (hl : ts.length = 64) (r : Nat) : Try.prog.built 105 [(0, .agg (bl ts)), (1, .map (some r))] = some (wt ts r) := by
  obtain ⟨it, hit, hz⟩ : ∃ it, Try.prog.info? 105 = some it ∧ it.zero = some (.agg (bl (List.replicate 64 false) ++ #[.map none])) := by
    have : (Try.prog.info? 105).map (·.zero) = some (some (.agg (bl (List.replicate 64 false) ++ #[.map none]))) := by kernel_rfl
    obtain ⟨it, h1, h2⟩ := Option.map_eq_some_iff.1 this
    exact ⟨it, h1, h2⟩
  obtain ⟨fs, hu, hpp⟩ : ∃ fs, Try.prog.underlying 105 = some (.struct fs) ∧ fs.toList.mapM (fun f => (Try.prog.info? f.type).map fun i => (f.offset, i.size)) = some [(0, 64), (64, 1)] :=
    ⟨_, Try.underlying105, by kernel_rfl⟩
  obtain ⟨ZZ, hzz⟩ : ∃ ZZ, ZZ = bl (List.replicate 64 false) ++ #[.map none] := ⟨_, rfl⟩
  have zs : ZZ.size = 65 := by rw [hzz]; rfl
  have hA : (bl ts).size = 64 := by rw [bl_size, hl]
  rw [← hzz] at hz
  unfold Program.built
  simp only [hit, hu, hz, hpp]
  have c1 : ∀ X : Array Value, (Value.agg X).cells = X := fun _ => rfl
  have c2 : (Value.map (some r)).cells = #[.map (some r)] := rfl
  have p0 : ([(0, 64), (64, 1)] : List (Nat × Nat)).toArray[0]? = some (0, 64) := rfl
  have p1 : ([(0, 64), (64, 1)] : List (Nat × Nat)).toArray[1]? = some (64, 1) := rfl
  rw [Instr.fill, p0]
  simp only [c1]
  rw [if_neg (by simp [hA, zs]), Instr.fill, p1]
  simp only [c2]
  rw [if_neg (by rw [foldw_asize]; simp [zs]), Instr.fill]
  congr 1
  unfold wt
  apply Array.ext_getElem?
  intro i
  rw [foldw_arr 64 #[.map (some r)] _ (by rw [foldw_asize]; simp [zs]) i, foldw_arr 0 (bl ts) _ (by omega) i]
  rw [hA]
  by_cases q1 : 64 ≤ i ∧ i < 64 + 1
  · rw [if_pos (by simpa using q1), Array.getElem?_append_right (by omega), hA]
  · rw [if_neg (by simpa using q1)]
    by_cases q0 : 0 ≤ i ∧ i < 0 + 64
    · rw [if_pos q0, Array.getElem?_append_left (by omega), Nat.sub_zero]
    · rw [if_neg q0, Array.getElem?_eq_none (by omega), Array.getElem?_eq_none (by rw [Array.size_append, hA]; simp; omega)]

theorem watchOver_any (ts : List Bool) (hl : ts.length = 64) (w : World) :
    Calls Try.prog 64 #[.agg (bl ts)] w fun e w' => ∃ r, e = .returned (.agg (wt ts r)) ∧ MpB w' r (cfV ts) [] ∧ w.heap.size ≤ r ∧ Below w.heap.size w w' := by
  have A0 : At ((w.alloc (.cells (bl ts) 45)).alloc (.cells (Try.zeroCells105) 105)) w.heap.size (bl ts) 45 := (At.new w _ _).alloc _
  have R0 : At ((w.alloc (.cells (bl ts) 45)).alloc (.cells (Try.zeroCells105) 105)) (w.heap.size + 1) (Try.zeroCells105) 105 := At.last1 w _ _ _
  have B0 := Lib.hid (bnew (b0 w (.cells (bl ts) 45)) (.cells (Try.zeroCells105) 105))
  obtain ⟨r, hr⟩ : ∃ r, r = ((w.alloc (.cells (bl ts) 45)).alloc (.cells (Try.zeroCells105) 105)).heap.size := ⟨_, rfl⟩
  have hrs : r = w.heap.size + 1 + 1 := by rw [hr, World.size_alloc, World.size_alloc]
  have R1 := R0.alloc (.map #[] 0)
  have M1 := MpB.new ((w.alloc (.cells (bl ts) 45)).alloc (.cells (Try.zeroCells105) 105)) (cfV ts)
  rw [← hr] at M1
  have B1 := Lib.hid (bnew B0.out (.map #[] 0))
  have hsw : (wt ts r).size = 65 := wt_size hl r
  have HB := Lib.hid (built_watch ts hl r)
  have hmm : (Instr.makeMap 103 none).run Try.prog ((w.alloc (.cells (bl ts) 45)).alloc (.cells (Try.zeroCells105) 105)) = .ok (.map (some r)) (((w.alloc (.cells (bl ts) 45)).alloc (.cells (Try.zeroCells105) 105)).alloc (.map #[] 0)) := by rw [hr]; rfl
  have HMM := Lib.hid hmm
  have R9 := R1.setRow (wt ts r)
  have B9 := Lib.hid (bset B1.out (g := w.heap.size + 1) (by omega) (wt ts r))
  have M9 := Lib.hid (M1.of (w' := (((w.alloc (.cells (bl ts) 45)).alloc (.cells (Try.zeroCells105) 105)).alloc (.map #[] 0)).setRow (w.heap.size + 1) (wt ts r)) (heap_setRow_other _ _ _ _ (by omega)))
  clear M1 hmm hr
  go_enter Try.func64, Try.ntmps64
  go_wp2_with (first | ((with_reducible refine is_load 45 _ rfl ?_); refine wpList_load_at rfl 45 _ rfl _ rfl (bl ts) _ (by with_reducible assumption) 64 (by rw [bl_size, hl]) _ Try.underlying45 rfl (by kernel_rfl) ?_) | ((refine is_makeMap 103 rfl ?_); refine wpList_makeMap rfl 103 rfl _ _ HMM.out ?_) | ((with_reducible refine is_build 105 _ rfl ?_); refine wpList_build2 rfl 105 0 1 _ _ rfl _ _ rfl rfl _ HB.out ?_) | ((with_reducible refine is_store 105 _ _ rfl ?_); refine wpList_store_at rfl 105 _ _ rfl _ rfl (wt ts r) rfl (Try.zeroCells105) _ (by with_reducible assumption) 65 hsw (by kernel_rfl) (by kernel_rfl) (wt_one _ _) ?_))
  exact bodyPost_ret (v := .agg (wt ts r)) (results_at (p := 2) (ty := 105) rfl _ _ _ (wt ts r) _ rfl R9 _ Try.underlying105 rfl 65 hsw (by kernel_rfl)) rfl ⟨r, rfl, M9.out, by omega, B9.out⟩

end Go.Proofs.Ytkaghfoaicbngab
