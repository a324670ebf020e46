/-
  SEVERAL TEXTS IN ONE.
-/
import Derived.Test.YtiaflomabgnmaaaSums
import Derived.Test.YtiaflomabgnmaaaStep
import Derived.Test.YtiaflomabgnmaaaRes
import Derived.Test.YtiaflomabgnmaaaG10

/-
  A STRUCT PUT TOGETHER OF ROWS: the first, the second, the third part, one behind another, fill it whole.
-/
namespace Go.Proofs.Ytiaflomabgnmaaa
open Go Go.RowKit
set_option maxRecDepth 100000

theorem fold_get (off : Nat) : ∀ (cs : List Value) (k : Nat) (old : Array Value), off + k + cs.length ≤ old.size → ∀ i : Nat,
    ((cs.zipIdx k).foldl (fun (a : Array Value) (x : Value × Nat) => a.setIfInBounds (off + x.2) x.1) old)[i]? = if off + k ≤ i ∧ i < off + k + cs.length then cs[i - (off + k)]? else old[i]?
  | [], k, old, h, i => by
    rw [if_neg (by simp)]; rfl
  | c :: cs, k, old, h, i => by
    simp only [List.length_cons] at h
    simp only [List.zipIdx_cons, List.foldl_cons]
    rw [fold_get off cs (k + 1) _ (by simp; omega) i]
    by_cases c1 : off + (k + 1) ≤ i ∧ i < off + (k + 1) + cs.length
    · rw [if_pos c1, if_pos (by simp; omega), show i - (off + k) = (i - (off + (k + 1))) + 1 by omega, List.getElem?_cons_succ]
    · rw [if_neg c1, Array.getElem?_setIfInBounds]
      by_cases e : off + k = i
      · subst e
        rw [if_pos rfl, if_pos (by omega), if_pos (by simp), Nat.sub_self]
        rfl
      · rw [if_neg e, if_neg (by simp; omega)]

theorem fold_arr (off : Nat) (cs old : Array Value) (h : off + cs.size ≤ old.size) (i : Nat) :
    (cs.zipIdx.foldl (fun (a : Array Value) (x : Value × Nat) => a.setIfInBounds (off + x.2) x.1) old)[i]? = if off ≤ i ∧ i < off + cs.size then cs[i - off]? else old[i]? := by
  have := fold_get off cs.toList 0 old (by simpa using h) i
  rw [← Array.foldl_toList, Array.toList_zipIdx]
  simpa using this

theorem fold_size (off : Nat) (l : List (Value × Nat)) : ∀ old : Array Value, (l.foldl (fun (a : Array Value) (x : Value × Nat) => a.setIfInBounds (off + x.2) x.1) old).size = old.size := by
  induction l with
  | nil => intro old; rfl
  | cons c l ih => intro old; rw [List.foldl_cons, ih]; simp

theorem fold_asize (off : Nat) (cs old : Array Value) : (cs.zipIdx.foldl (fun (a : Array Value) (x : Value × Nat) => a.setIfInBounds (off + x.2) x.1) old).size = old.size := by
  rw [← Array.foldl_toList]; exact fold_size _ _ _

theorem built_step (A B C : Array Value) (hA : A.size = 19) (hB : B.size = 17) (hC : C.size = 19) :
    Try.prog.built 67 [(0, .agg A), (1, .agg B), (2, .agg C)] = some (A ++ B ++ C) := by
  obtain ⟨it, hit, hz⟩ : ∃ it, Try.prog.info? 67 = some it ∧ it.zero = some (.agg (rd (zeros 16) 0 0 0 ++ fl (zeros 17) ++ rd (zeros 16) 0 0 0)) := by
    have : (Try.prog.info? 67).map (·.zero) = some (some (.agg (rd (zeros 16) 0 0 0 ++ fl (zeros 17) ++ rd (zeros 16) 0 0 0))) := by kernel_rfl
    obtain ⟨it, h1, h2⟩ := Option.map_eq_some_iff.1 this
    exact ⟨it, h1, h2⟩
  obtain ⟨fs, hu, hp⟩ : ∃ fs, Try.prog.underlying 67 = some (.struct fs) ∧ fs.toList.mapM (fun f => (Try.prog.info? f.type).map fun i => (f.offset, i.size)) = some [(0, 19), (19, 17), (36, 19)] :=
    ⟨_, Try.underlying67, by kernel_rfl⟩
  obtain ⟨ZZ, hzz⟩ : ∃ ZZ, ZZ = rd (zeros 16) 0 0 0 ++ fl (zeros 17) ++ rd (zeros 16) 0 0 0 := ⟨_, rfl⟩
  have zs : ZZ.size = 55 := by rw [hzz]; rfl
  rw [← hzz] at hz
  unfold Program.built
  simp only [hit, hu, hz, hp]
  have c1 : ∀ X : Array Value, (Value.agg X).cells = X := fun _ => rfl
  have p0 : ([(0, 19), (19, 17), (36, 19)] : List (Nat × Nat)).toArray[0]? = some (0, 19) := rfl
  have p1 : ([(0, 19), (19, 17), (36, 19)] : List (Nat × Nat)).toArray[1]? = some (19, 17) := rfl
  have p2 : ([(0, 19), (19, 17), (36, 19)] : List (Nat × Nat)).toArray[2]? = some (36, 19) := rfl
  rw [Instr.fill, p0]
  simp only [c1]
  rw [if_neg (by simp [hA, zs]), Instr.fill, p1]
  simp only [c1]
  rw [if_neg (by rw [fold_asize]; simp [hB, zs]), Instr.fill, p2]
  simp only [c1]
  rw [if_neg (by rw [fold_asize, fold_asize]; simp [hC, zs]), Instr.fill]
  congr 1
  apply Array.ext_getElem?
  intro i
  rw [fold_arr 36 C _ (by rw [fold_asize, fold_asize]; omega) i, fold_arr 19 B _ (by rw [fold_asize]; omega) i, fold_arr 0 A _ (by omega) i]
  rw [hA, hB, hC]
  by_cases q2 : 36 ≤ i ∧ i < 36 + 19
  · rw [if_pos q2, Array.getElem?_append_right (by rw [Array.size_append]; omega), Array.size_append, hA, hB]
  · rw [if_neg q2]
    by_cases q1 : 19 ≤ i ∧ i < 19 + 17
    · rw [if_pos q1, Array.getElem?_append_left (by rw [Array.size_append]; omega), Array.getElem?_append_right (by omega), hA]
    · rw [if_neg q1]
      by_cases q0 : 0 ≤ i ∧ i < 0 + 19
      · rw [if_pos q0, Array.getElem?_append_left (by rw [Array.size_append]; omega), Array.getElem?_append_left (by omega), Nat.sub_zero]
      · rw [if_neg q0, Array.getElem?_eq_none (by omega), Array.getElem?_eq_none (by rw [Array.size_append, Array.size_append]; omega)]

section
variable {n : Nat} {P : Program} {ops : Array Oper} {rest : List Oper} {o : Oper} {a : Act} {w : World} {Q : Exit → Act → World → Prop}
theorem inw_is_build (t : TypeId) (parts : Array (Nat × Operand)) (_ho : o.op = .build t parts) (h : wpListIn Fence.wide n P ops Q (o :: rest) a w) : wpListIn Fence.wide n P ops Q (o :: rest) a w := h

theorem inw_build3 (hgd : o.guard = none) (t : TypeId) (i0 i1 i2 : Nat) (x0 x1 x2 : Operand) (ho : o.op = .build t #[(i0, x0), (i1, x1), (i2, x2)]) (v0 v1 v2 : Value) (e0 : a.eval x0 = v0) (e1 : a.eval x1 = v1) (e2 : a.eval x2 = v2) (c : Array Value)
    (hc : P.built t [(i0, v0), (i1, v1), (i2, v2)] = some c) (h : wpListIn Fence.wide n P ops Q rest (a.put o.dst (.agg c)) w) : wpListIn Fence.wide n P ops Q (o :: rest) a w :=
  wpListIn_plain hgd fun _ hK => ⟨fun f hf => trivial, by
    show Oper.uponIn _ _ _ _ _ _ _ ((Oper.semAt none a.eval o).run P w)
    have hc' : P.built t ((#[(i0, x0), (i1, x1), (i2, x2)].map fun (i, x) => (i, a.eval x)).toList) = some c := by simpa [e0, e1, e2] using hc
    unfold Oper.semAt execOp
    simp only [ho, Sem.run_bind, run_build w t _ c hc', Result.andThen_ok]
    exact hK _ _ h⟩
end
end Go.Proofs.Ytiaflomabgnmaaa

/-
  RampStep: its checks, what joins.
-/
namespace Go.Proofs.Ytiaflomabgnmaaa
open Go Go.RowKit
set_option maxRecDepth 100000

/-- what joins -/
def joinW (p b : Nat) (cs : List Nat) (o m j k : Nat) : Nat := min j (posB (difB (takesW p b (nth cs k)) (nth (fluxL p b cs o m) k)))
/-- the flows into the cells, with what joins -/
def rampIn (p b : Nat) (cs : List Nat) (o m j k : Nat) : List Nat := (intoL (fluxL p b cs o m)).set k (addB (nth (intoL (fluxL p b cs o m)) k) (joinW p b cs o m j k))
theorem rampIn_len (p b : Nat) (cs : List Nat) (o m j k : Nat) : (rampIn p b cs o m j k).length = 16 := by unfold rampIn; rw [List.length_set]; exact intoL_len (fluxL_len _ _ _ _ _)
theorem ramp_facts {cs : List Nat} {p b l : Nat} (ok : OkR cs p b l) (o m : Nat) {j : Nat} (hj : j < 2139095040) {k : Nat} (hk : k < 16) :
    floatBits .sub .f32 (takesW p b (nth cs k)) (nth (fluxL p b cs o m) k) = some (difB (takesW p b (nth cs k)) (nth (fluxL p b cs o m) k)) ∧ Fin (difB (takesW p b (nth cs k)) (nth (fluxL p b cs o m) k)) ∧
    posB (minS j (difB (takesW p b (nth cs k)) (nth (fluxL p b cs o m) k))) = joinW p b cs o m j k ∧ joinW p b cs o m j k ≤ 1065353216 ∧
    floatBits .add .f32 (nth (intoL (fluxL p b cs o m)) k) (joinW p b cs o m j k) = some (addB (nth (intoL (fluxL p b cs o m)) k) (joinW p b cs o m j k)) ∧ addB (nth (intoL (fluxL p b cs o m)) k) (joinW p b cs o m j k) ≤ 1073741824 ∧
    (∀ x ∈ rampIn p b cs o m j k, x ≤ 1073741824) := by
  have h1 := takesW_le (a := nth cs k) ok.pace ok.back
  have h2 := nth_le (fluxL_le ok o m) k
  have h3 := nth_le (fluxL_le ok o m)
  have d1 := dif_fin (show takesW p b (nth cs k) < 2139095040 by omega) (show nth (fluxL p b cs o m) k < 2139095040 by omega)
  have d2 := posB_dif (show takesW p b (nth cs k) < 2139095040 by omega) (show nth (fluxL p b cs o m) k < 2139095040 by omega)
  have h4 : joinW p b cs o m j k ≤ 1065353216 := by unfold joinW; exact Nat.le_trans (Nat.min_le_right _ _) (Nat.le_trans d2 h1)
  have h5 : nth (intoL (fluxL p b cs o m)) k ≤ 1065353216 := by rw [intoL_nth _ hk]; exact h2
  have a1 := (add_eq (show nth (intoL (fluxL p b cs o m)) k < 2139095040 by omega) (show joinW p b cs o m j k < 2139095040 by omega)).1
  have a2 : addB (nth (intoL (fluxL p b cs o m)) k) (joinW p b cs o m j k) ≤ 1073741824 := by
    refine add_le (by omega) (by omega) ?_
    have e1 := rv_le (p := 23) h5
    have e2 := rv_le (p := 23) h4
    have e3 : rv 23 1065353216 + rv 23 1065353216 = rv 23 1073741824 := by decide
    omega
  refine ⟨dif_eq (by omega) (by omega), d1, minS_pos hj d1, h4, a1, a2, fun x hx => ?_⟩
  unfold rampIn at hx
  rcases List.mem_or_eq_of_mem_set hx with h | rfl
  · unfold intoL at h
    have := fluxL_le ok o m x (List.mem_of_mem_take (List.mem_of_mem_drop h))
    omega
  · exact a2
theorem outL_le {cs : List Nat} {p b l : Nat} (ok : OkR cs p b l) (o m : Nat) : ∀ x ∈ outL (fluxL p b cs o m), x ≤ 1065353216 := fun x hx => by
  unfold outL at hx
  exact fluxL_le ok o m x (List.mem_of_mem_take (List.mem_of_mem_drop hx))
theorem intoL_le {cs : List Nat} {p b l : Nat} (ok : OkR cs p b l) (o m : Nat) : ∀ x ∈ intoL (fluxL p b cs o m), x ≤ 1065353216 := fun x hx => by
  unfold intoL at hx
  exact fluxL_le ok o m x (List.mem_of_mem_take (List.mem_of_mem_drop hx))
end Go.Proofs.Ytiaflomabgnmaaa
