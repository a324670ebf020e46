/-
  THE FRAME OF A LAW's PROOF where slices come in: the walk is told of the memory that is read; the shape of a slice of numbers.
-/
import Derived.Test.YtldchcjnepnjnaaLaw
import Derived.Deep.Slices
namespace Go.Proofs.Ytldchcjnepnjnaa
open Go Go.ChangeShapes Go.WideShapes Go.ChangeAt Go.RowKit Go.Deep
set_option maxRecDepth 100000

theorem law_liftedS {f : FuncId} {fn : Func} {s : ChangeSpec} {apart : Bool} {H : Type} (enc : TypeId × Value → H) (os : Os) (started : os.Started)
    (noInit : Try.checked.prog.inits.idxOf? f = none) (hfn : Try.prog.funcs[f]? = some fn)
    (witness : ∃ (w : World) (tape : Tape) (i : Input), w.os = os ∧ (w.forCall tape i).Shaped Try.checked.prog ∧ i.vars = [] ∧ Input.okWide Try.checked.prog (w.forCall tape i) .any w.heap.size f i ∧
      s.pre6 enc Try.checked.prog fn [] apart (w.forCall tape i).memory i.args ∧ ({} : Assume).holds Try.checked.prog (lone (Frame.enter Try.checked.prog f i.args .normal) [] (w.forCall tape i)))
    (hvars : s.vars = []) (hrt : fn.resultTypes = #[4]) (hts : ∀ t ∈ fn.params.toList, Try.prog.readableRec t = true ∧ t < Try.prog.types.size)
    (hspec : ∀ ds : List (DataW H), ds.length = fn.params.toList.length → s.fn H ds = { results := [.lit (.bool true)], args := ds })
    (walk : ∀ (W : World) (base : Nat) (args : Array Value) (ds : List (DataW H)) (ps : List MemPlace), args.toList.length = fn.params.toList.length → (∀ (j : Nat) t v, fn.params[j]? = some t → args[j]? = some v → Value.okWide Try.prog W .any base t v) →
      DataW.TrodAll enc Try.prog W 0 (fun _ => true) true fn.params.toList args.toList ds ps → Calls Try.prog f args W (True? W)) :
    ReturnsInHanded {} Try.checked os f .any (s.pre6 enc Try.checked.prog fn [] apart) (s.post enc Try.checked.prog fn apart true false false) := by
  refine returnsInHanded_of_change (C := Try.checked) own started noInit hfn witness ?_
  intro W base args ds gs before hval hW _ _
  have hW' := hW
  obtain ⟨p, q, hA, hV, hpq, hfz, hnd⟩ := hW
  rw [hvars] at hV
  obtain ⟨rfl, rfl⟩ := trodVars_none hV
  rw [List.append_nil] at hpq
  subst hpq
  obtain ⟨hl1, hl2⟩ := trodAll_len hA
  refine (walk W base args ds _ hl1 hval hA).mono fun e W' ⟨he, hb⟩ => ?_
  subst he
  have hlt : ∀ x ∈ before, x.block < W.heap.size := fun x hx => hW'.lt x hx
  have hs : s.fn H (ds ++ []) = { results := [.lit (.bool true)], args := ds } := by rw [List.append_nil]; exact hspec ds hl2
  refine ⟨_, rfl, ds, [], before, [], before, [], hW', ?_, ?_, ?_, hb.frame _, fun h => by cases h⟩
  · rw [hs, hrt]
    exact trodAll_mk1 (shut_bool Try.underlying4 _)
  · rw [hs]
    exact trodAll_keep laidOut hb hts hA hlt (fun x hx => by simpa using hlt x hx)
  · rw [hs, hvars]; rfl

/-- a slice of narrow floats that came in -/
structure FSl (w : World) (v : Value) (xs : List Nat) : Prop where
  val : (xs = [] ∧ ∃ a cap, v = .slice a 0 cap) ∨ ∃ g off cap, v = .slice (some ⟨g, off, none⟩) xs.length cap ∧ g < w.heap.size ∧ ∀ i, i < xs.length → w.cell? ⟨g, off + i, none⟩ = some (.float .f32 (nth xs i))
  lt : ∀ x ∈ xs, x < 4294967296
  len : xs.length ≤ maxLen
theorem FSl.step {B : Nat} {w w' : World} {v : Value} {xs : List Nat} (h : FSl w v xs) (hB : w.heap.size ≤ B) (hb : Below B w w') : FSl w' v xs := by
  refine ⟨h.val.imp id ?_, h.lt, h.len⟩
  rintro ⟨g, off, cap, rfl, hg, hc⟩
  refine ⟨g, off, cap, rfl, Nat.lt_of_lt_of_le hg hb.size, fun i hi => ?_⟩
  rw [← hc i hi]
  unfold World.cell?
  rw [hb.block g (by omega)]

theorem trod_float1 {H : Type} {enc : TypeId × Value → H} {P : Program} {w : World} {base : Nat} {sp : Nat → Bool} {hd : Bool} {t : TypeId} {n : Nat} {v : Value} {x : DataW H × List MemPlace} (ht : P.underlying t = some (.float .f32)) (h : DataW.trod enc P w base sp hd n t [v] = some x) : ∃ b, v = .float .f32 b ∧ b < 4294967296 := by
  cases n with
  | zero => simp [DataW.trod] at h
  | succ n =>
    unfold DataW.trod at h
    rw [ht] at h
    split at h <;> simp_all
    rename_i k1 k2 b1 hk
    obtain ⟨⟨-, h1⟩, -⟩ := h
    subst hk
    simpa [Lit.wf] using h1

theorem cell_block {w : World} {a : Addr} {v : Value} (h : w.cell? a = some v) : a.block < w.heap.size := by
  unfold World.cell? at h
  rcases Nat.lt_or_ge a.block w.heap.size with c | c
  · exact c
  · rw [Array.getElem?_eq_none c] at h; simp at h

theorem shape_f32s {H : Type} {enc : TypeId × Value → H} {W : World} {v : Value} {d : DataW H} {ps : List MemPlace} {t e : TypeId} (ht : Try.prog.underlying t = some (.slice e)) (he : Try.prog.underlying e = some (.float .f32)) (hc : Try.prog.cellsOf e = 1)
    (hv : ∃ a len cap, v = .slice a len cap) (h : DataW.Trod enc Try.prog W 0 (fun _ => true) true t v d ps) : ∃ xs, FSl W v xs := by
  obtain ⟨fuel, h⟩ := h
  obtain ⟨a0, l0, c0, rfl⟩ := hv
  have e1 : (Value.slice a0 l0 c0).cells.toList = [.slice a0 l0 c0] := rfl
  rw [e1] at h
  rcases open_slice1 ht hc h with ⟨h0, -⟩ | ⟨a, len, cap, m, n, V, D, Pl, h0, -, hl, hm, hmm, -, hx⟩
  · exact ⟨[], ⟨.inl ⟨rfl, none, 0, by simpa using h0⟩, by simp, by simp⟩⟩
  · have hm2 : len ≤ m := by rw [hmm]; simp; exact hl
    have hv : Value.slice a0 l0 c0 = .slice (some a) len cap := by simpa using h0
    rw [hv]
    clear h0 hv
    by_cases hz : len = 0
    · subst hz
      exact ⟨[], ⟨.inl ⟨rfl, some a, cap, rfl⟩, by simp, by simp⟩⟩
    obtain ⟨g, off, spot⟩ := a
    have h00 := (hx 0 (by omega)).1
    have hs : spot = none := by
      unfold World.cell? at h00
      rw [show (Addr.add ⟨g, off, spot⟩ 0) = ⟨g, off, spot⟩ from rfl] at h00
      cases spot with
      | none => rfl
      | some s => split at h00 <;> simp at h00
    subst hs
    have hadd : ∀ i, Addr.add ⟨g, off, none⟩ i = ⟨g, off + i, none⟩ := fun i => by
      unfold Addr.add
      by_cases h : i = 0
      · subst h; rfl
      · rw [if_neg h]
    let xs : List Nat := (List.range len).map fun i => match V i with | .float _ x => x | _ => 0
    have hxs : xs.length = len := by simp [xs]
    have key : ∀ i, i < len → V i = .float .f32 (nth xs i) ∧ nth xs i < 4294967296 := by
      intro i hi
      obtain ⟨h1, h2⟩ := hx i (by omega)
      obtain ⟨b, hb, hb2⟩ := trod_float1 he h2
      have : nth xs i = b := by
        unfold nth
        simp only [xs, List.getD_eq_getElem?_getD, List.getElem?_map, List.getElem?_range hi, Option.map_some, Option.getD_some, hb]
      rw [this]; exact ⟨hb, hb2⟩
    refine ⟨xs, ⟨.inr ⟨g, off, cap, by rw [hxs], cell_block h00, fun i hi => ?_⟩, fun x hx' => ?_, by omega⟩⟩
    · rw [hxs] at hi
      obtain ⟨h1, -⟩ := hx i (by omega)
      rw [(key i hi).1, hadd] at h1
      exact h1
    · obtain ⟨i, hi, rfl⟩ := List.mem_iff_getElem.1 hx'
      have := (key i (by omega)).2
      unfold nth at this
      rwa [List.getD_eq_getElem?_getD, List.getElem?_eq_getElem hi, Option.getD_some] at this
end Go.Proofs.Ytldchcjnepnjnaa
