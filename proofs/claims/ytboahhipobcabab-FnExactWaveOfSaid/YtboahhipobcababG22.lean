/-
  SEVERAL TEXTS IN ONE.
-/
import Derived.Test.YtboahhipobcababG15
import Derived.Test.YtboahhipobcababWavI
import Derived.Test.YtboahhipobcababWavS
import Derived.Test.YtboahhipobcababToPlan
import Derived.Deep.Slices
import Derived.Deep.Strs
import Derived.ChangeSame

/-
  CONTRACTS: waves of green: what the law wants.
-/
namespace Go.Proofs.Ytboahhipobcabab
open Go Go.ChangeShapes Go.WideShapes Go.ChangeAt Go.RowKit
set_option maxRecDepth 100000

theorem sN_psN (ps : Ps) : ∀ k, sN (fun i => (pS ps i).length) k = 1 + psN ps k * 9 + 2 * k
  | 0 => rfl
  | k + 1 => by
    show sN _ k + (pS ps k).length * 9 + 2 = 1 + (psN ps k + (pS ps k).length) * 9 + 2 * (k + 1)
    rw [sN_psN ps k]
    omega

theorem psN_small {ps : Ps} : ∀ k, (∀ i, i < k → (pS ps i).length ≤ 8) → psN ps k ≤ 8 * k
  | 0, _ => Nat.le_refl _
  | k + 1, h => by
    have := psN_small k (fun i hi => h i (by omega))
    have := h k (by omega)
    show psN ps k + (pS ps k).length ≤ _
    omega

theorem vWv_facts {ps : Ps} {ts : List Int} {mv : Int} (hW : ∀ i, i < ps.length → SlW (pS ps i)) : (vWv ps ts mv).length ≤ 6 ∧ ∀ i, i < (vWv ps ts mv).length → SlW (pS (vWv ps ts mv) i) ∧ (pS (vWv ps ts mv) i).length ≠ 0 ∧ (pS (vWv ps ts mv) i).length ≤ 8 := by
  by_cases hc : rowC ps ts mv = 0
  · obtain ⟨-, hok, hn6, -, -⟩ := rowC_parts hc
    have e : vWv ps ts mv = wvL ps ts mv.toNat ps.length := by unfold vWv; rw [if_pos hc]
    rw [e, wvL_len]
    refine ⟨hn6.2, fun i hi => ?_⟩
    rw [wvL_S hi]
    have := (okP_parts (hok i hi)).1
    exact ⟨hW i hi, by omega, this.2⟩
  · have e : vWv ps ts mv = [] := by unfold vWv; rw [if_neg hc]
    rw [e]
    exact ⟨by simp, fun i hi => absurd hi (by simp)⟩

theorem OwnPs.keep2 {w w' : World} {lo : Nat} {v : Value} {ps : Ps} {l : Pv} (h : OwnPs w lo v ps l) (hs : ∀ k, lo ≤ k → w'.heap[k]? = w.heap[k]?) : OwnPs w' lo v ps l := by
  refine ⟨⟨h.own.1, h.own.2.imp id ?_⟩, h.len, fun i hi => ?_, h.dis⟩
  · rintro ⟨g, cap, cur, rfl, h1, h2, h3⟩
    exact ⟨g, cap, cur, rfl, h1, (hs g h1).trans h2, h3⟩
  · obtain ⟨u, h1, h2⟩ := h.at' i hi
    refine ⟨u, h1, h2.1, h2.2.imp id ?_⟩
    rintro ⟨g, cap, cur, rfl, h3, h4, h5⟩
    exact ⟨g, cap, cur, rfl, h3, (hs g h3).trans h4, h5⟩

theorem markPlanS_none (a : Option Addr) (cap : Nat) (w : World) :
    Calls Try.prog 16 #[.slice a 0 cap, .int .i64 1] w fun e w' => e = .returned (.int .i64 1) ∧ w' = w := by
  go_enter Try.func16, Try.ntmps16
  go_wp2
  go_loopw [1, 5] (fun s i wr => s = .int .i64 1 ∧ i = .int .i64 0 ∧ wr = w) (fun _ _ _ => 0)
  case atStart => exact ⟨rfl, rfl, rfl⟩
  case round =>
    obtain ⟨rfl, rfl, rfl⟩ := hrel
    go_wp2
    go_ret
    exact ⟨rfl, by trivial⟩

theorem heldPlanS_none (a : Option Addr) (cap : Nat) (w : World) :
    Calls Try.prog 18 #[.slice a 0 cap, .int .i64 1] w fun e w' => e = .returned (.int .i64 1) ∧ w' = w := by
  go_enter Try.func18, Try.ntmps18
  go_wp2
  go_loopw [1, 5] (fun s i wr => s = .int .i64 1 ∧ i = .int .i64 0 ∧ wr = w) (fun _ _ _ => 0)
  case atStart => exact ⟨rfl, rfl, rfl⟩
  case round =>
    obtain ⟨rfl, rfl, rfl⟩ := hrel
    go_wp2
    go_ret
    exact ⟨rfl, by trivial⟩

theorem OwnPs.marks {w : World} {lo : Nat} {v : Value} {ps : Ps} {l : Pv} (h : OwnPs w lo v ps l) (hn : ps.length ≤ 6) (hl : ∀ i, i < ps.length → (pS ps i).length ≠ 0 ∧ (pS ps i).length ≤ 8) :
    ∃ M : Int, 0 ≤ M ∧ Calls Try.prog 16 #[v, .int .i64 1] w fun e w' => e = .returned (.int .i64 M) ∧ Below lo w w' ∧ w'.heap.size = w.heap.size ∧
      ∀ w2, Below w'.heap.size w' w2 → Calls Try.prog 18 #[v, .int .i64 1] w2 fun e w3 => e = .returned (.int .i64 M) ∧ w3 = w2 := by
  by_cases z : ps.length = 0
  · obtain ⟨a, cap, rfl⟩ := h.own.any
    rw [h.len, z]
    refine ⟨1, by omega, (markPlanS_none a cap w).mono ?_⟩
    rintro e w' ⟨rfl, rfl⟩
    exact ⟨rfl, Below.refl _ _, rfl, fun w2 _ => heldPlanS_none a cap w2⟩
  · obtain ⟨g, cp, hb, cap, cur, rfl, hP, hlo, hhi⟩ := h.mp z (fun i hi => (hl i hi).1)
    have hS : sN (fun i => (pS ps i).length) ps.length ≤ 100000000 := by
      rw [sN_psN]
      have := psN_small ps.length (fun i hi => (hl i hi).2)
      omega
    refine ⟨((sN (fun i => (pS ps i).length) ps.length : Nat) : Int), Int.natCast_nonneg _, (markPlanS_held g ps.length cp hb _ cap cur (by omega) (fun i hi => by have := (hl i hi).2; omega) hS lo w.heap.size hlo hhi w hP).mono ?_⟩
    rintro e w' ⟨rfl, h1, h2, -, h4⟩
    exact ⟨rfl, h1, h2, h4⟩

end Go.Proofs.Ytboahhipobcabab

/-
  CONTRACTS: the shape of a plan that came in.
-/
namespace Go.Proofs.Ytboahhipobcabab
open Go Go.ChangeShapes Go.WideShapes Go.ChangeAt Go.RowKit
set_option maxRecDepth 100000

theorem trod_bool1 {H : Type} {enc : TypeId × Value → H} {P : Program} {w : World} {base : Nat} {sp : Nat → Bool} {hd : Bool} {t : TypeId} {n : Nat} {v : Value} {x : DataW H × List MemPlace} (ht : P.underlying t = some .bool) (h : DataW.trod enc P w base sp hd n t [v] = some x) : ∃ b, v = .bool b := by
  cases n with
  | zero => simp [DataW.trod] at h
  | succ n =>
    unfold DataW.trod at h
    rw [ht] at h
    split at h <;> simp_all
theorem trod_int1 {H : Type} {enc : TypeId × Value → H} {P : Program} {w : World} {base : Nat} {sp : Nat → Bool} {hd : Bool} {t : TypeId} {n : Nat} {v : Value} {x : DataW H × List MemPlace} (ht : P.underlying t = some (.int .i64)) (h : DataW.trod enc P w base sp hd n t [v] = some x) : ∃ b, v = .int .i64 b ∧ I64 b := by
  cases n with
  | zero => simp [DataW.trod] at h
  | succ n =>
    unfold DataW.trod at h
    rw [ht] at h
    split at h <;> simp_all
    rename_i k1 k2 b1 hk
    obtain ⟨⟨-, h1⟩, -⟩ := h
    subst hk
    simp [Lit.wf, IntKind.min, IntKind.max, IntKind.bits, IntKind.signed] at h1
    unfold I64; omega
theorem trod_arr {H : Type} {enc : TypeId × Value → H} {P : Program} {w : World} {base : Nat} {sp : Nat → Bool} {hd : Bool} {t e : TypeId} {k n : Nat} {cs : List Value} {x : DataW H × List MemPlace} (ht : P.underlying t = some (.array k e)) (h : DataW.trod enc P w base sp hd n t cs = some x) :
    ∃ m, cs.length = P.cellsOf t ∧ ∀ i, i < k → ∃ y, DataW.trod enc P w base sp hd m e ((cs.drop (i * P.cellsOf e)).take (P.cellsOf e)) = some y := by
  cases n with
  | zero => simp [DataW.trod] at h
  | succ n =>
    unfold DataW.trod at h
    rw [ht] at h
    split at h <;> simp_all
    obtain ⟨hl, xs, hp, -⟩ := h
    refine ⟨n, fun i hi => ?_⟩
    have := mapM_some_get hp i i (by simp [hi])
    have hlen := mapM_some_length hp
    rw [List.getElem?_eq_getElem (by rw [hlen]; simpa using hi)] at this
    have hxi : i < xs.length := by rw [hlen]; simpa using hi
    rw [show some xs[i] = some (xs[i].1, xs[i].2) from rfl] at this
    exact ⟨_, _, this⟩
/-- a slot's cells, from what its reading says -/
theorem trod_slot {H : Type} {enc : TypeId × Value → H} {w : World} {base : Nat} {sp : Nat → Bool} {hd : Bool} {n : Nat} {cs : List Value} {x : DataW H × List MemPlace} (h : DataW.trod enc Try.prog w base sp hd n 188 cs = some x) :
    ∃ (b : List Bool) (t : Int), cs = (sl1 b t).toList ∧ b.length = 8 ∧ I64 t := by
  obtain ⟨y0, y1, m, -, hl, h0, h1⟩ := trod_struct2 Try.underlying188 h
  have hc : Try.prog.cellsOf 188 = 9 := by kernel_rfl
  have hc8 : Try.prog.cellsOf 61 = 8 := by kernel_rfl
  have hcb : Try.prog.cellsOf 4 = 1 := by kernel_rfl
  have hci : Try.prog.cellsOf 2 = 1 := by kernel_rfl
  rw [hc] at hl
  simp only [hc8, hci, List.drop_zero] at h0 h1
  obtain ⟨m2, -, hb⟩ := trod_arr Try.underlying61 h0
  have hbit : ∀ i, i < 8 → ∃ b, cs[i]? = some (.bool b) := by
    intro i hi
    obtain ⟨y, hy⟩ := hb i hi
    rw [hcb, Nat.mul_one] at hy
    have e : ((cs.take 8).drop i).take 1 = [cs[i]'(by omega)] := by
      rw [List.drop_eq_getElem_cons (by simp; omega)]
      simp
    rw [e] at hy
    obtain ⟨b, hb⟩ := trod_bool1 Try.underlying4 hy
    exact ⟨b, by rw [List.getElem?_eq_getElem (by omega), hb]⟩
  have e8 : (cs.drop 8).take 1 = [cs[8]'(by omega)] := by
    rw [List.drop_eq_getElem_cons (by omega)]; rfl
  rw [e8] at h1
  obtain ⟨t, ht, hti⟩ := trod_int1 Try.underlying2 h1
  let b : List Bool := (List.range 8).map fun i => match cs[i]? with | some (Value.bool x) => x | _ => false
  have hbl : b.length = 8 := by simp [b]
  refine ⟨b, t, ?_, hbl, hti⟩
  rw [sl1_list]
  apply List.ext_getElem?
  intro i
  unfold sll
  rcases Nat.lt_or_ge i 8 with c | c
  · rw [List.getElem?_append_left (by simp [hbl]; exact c), List.getElem?_map]
    obtain ⟨x, hx⟩ := hbit i c
    simp [b, List.getElem?_map, List.getElem?_range c, hx]
  · rcases Nat.eq_or_lt_of_le c with c | c
    · subst c
      rw [List.getElem?_append_right (by simp [hbl]), List.getElem?_eq_getElem (by omega), ht]; simp [hbl]
    · rw [List.getElem?_eq_none (by omega), List.getElem?_eq_none (by simp [hbl]; omega)]

theorem shape_plan {H : Type} {enc : TypeId × Value → H} {W : World} {v : Value} {d : DataW H} {ps : List MemPlace} {base : Nat} (hv : Value.okWide Try.prog W .any base 93 v) (h : DataW.Trod enc Try.prog W 0 (fun _ => true) true 93 v d ps) :
    ∃ a cap xs b o, v = .agg (plC (.slice a xs.length cap) b o) ∧ SSl W (.slice a xs.length cap) xs ∧ I64 b ∧ I64 o := by
  obtain ⟨cs, rfl, hsz⟩ := okWide_struct Try.underlying93 hv
  clear hv
  have hc3 : Try.prog.cellsOf 93 = 3 := by kernel_rfl
  rw [hc3] at hsz
  obtain ⟨c0, c1, c2, rfl⟩ : ∃ c0 c1 c2, cs = #[c0, c1, c2] := by
    obtain ⟨l⟩ := cs
    match l, hsz with
    | [c0, c1, c2], _ => exact ⟨c0, c1, c2, rfl⟩
  obtain ⟨fuel, h⟩ := h
  obtain ⟨y0, y1, y2, m, -, -, h0, h1, h2⟩ := Go.Deep.trod_struct3 Try.underlying93 h
  have hcS : Try.prog.cellsOf 91 = 1 := by kernel_rfl
  have hci : Try.prog.cellsOf 2 = 1 := by kernel_rfl
  have hc9 : Try.prog.cellsOf 188 = 9 := by kernel_rfl
  simp only [hcS, hci, Value.cells, List.drop_zero] at h0 h1 h2
  have e1 : (List.drop 1 [c0, c1, c2]).take 1 = [c1] := rfl
  have e2 : (List.drop 2 [c0, c1, c2]).take 1 = [c2] := rfl
  have e0 : [c0, c1, c2].take 1 = [c0] := rfl
  rw [e0] at h0
  rw [e1] at h1
  rw [e2] at h2
  obtain ⟨b, rfl, hb⟩ := trod_int1 Try.underlying2 h1
  obtain ⟨o, rfl, ho⟩ := trod_int1 Try.underlying2 h2
  rcases Go.Deep.open_slice Try.underlying91 h0 with ⟨h0, -⟩ | ⟨a, len, cap, mm, n, D, Pl, h0, -, hl, hm, hmm, -, hx⟩
  · obtain rfl : c0 = .slice none 0 0 := by simpa using h0
    exact ⟨none, 0, [], b, o, rfl, ⟨.inl ⟨rfl, none, 0, rfl⟩, by simp [SlW], by simp⟩, hb, ho⟩
  · obtain rfl : c0 = .slice (some a) len cap := by simpa using h0
    have hm2 : len ≤ mm := by rw [hmm]; simp; exact hl
    rw [hc9] at hx
    by_cases hz : len = 0
    · subst hz
      exact ⟨some a, cap, [], b, o, rfl, ⟨.inl ⟨rfl, some a, cap, rfl⟩, by simp [SlW], by simp⟩, hb, ho⟩
    have hel : ∀ i, i < len → ∃ s : List Bool × Int, (s.1.length = 8 ∧ I64 s.2) ∧ ∀ j, j < 9 → W.cell? ((a.add (i * 9)).add j) = (sl1 s.1 s.2)[j]? := by
      intro i hi
      obtain ⟨cs', hcs, ht⟩ := hx i (by omega)
      obtain ⟨bb, t, rfl, hb8, hti⟩ := trod_slot ht
      obtain ⟨-, -, hat⟩ := World.cells?_some hcs
      exact ⟨(bb, t), ⟨hb8, hti⟩, fun j hj => by rw [hat j hj, Array.getElem?_toList]⟩
    obtain ⟨f, hf⟩ := Go.Deep.choose_lt hel
    obtain ⟨g, off, spot⟩ := a
    have h00 := (hf 0 (by omega)).2 0 (by omega)
    have hs : spot = none := by
      have e : ((Addr.mk g off spot).add (0 * 9)).add 0 = ⟨g, off, spot⟩ := rfl
      rw [e, sl1_green (hf 0 (by omega)).1.1 _ (by omega)] at h00
      unfold World.cell? at h00
      cases spot with
      | none => rfl
      | some s => split at h00 <;> simp at h00
    subst hs
    have hadd : ∀ i j, ((Addr.mk g off none).add i).add j = ⟨g, off + i + j, none⟩ := fun i j => by
      rw [Go.Deep.add_add]
      unfold Addr.add
      by_cases h : i + j = 0
      · rw [if_pos h]; congr 1; show off = _; omega
      · rw [if_neg h]; congr 1; show off + (i + j) = _; omega
    let xs : Slots := (List.range len).map f
    have hxs : xs.length = len := by simp [xs]
    have hat : ∀ i, i < len → xs.getD i ([], 0) = f i := fun i hi => by
      simp [xs, List.getD_eq_getElem?_getD, List.getElem?_map, List.getElem?_range hi]
    refine ⟨some ⟨g, off, none⟩, cap, xs, b, o, by rw [hxs]; rfl, ⟨.inr ⟨g, off, cap, rfl, ?_, fun i hi j hj => ?_⟩, fun s hs => ?_, by omega⟩, hb, ho⟩
    · rw [sl1_green (hf 0 (by omega)).1.1 _ (by omega)] at h00
      rw [hadd] at h00
      exact cell_block h00
    · rw [hxs] at hi
      have := (hf i hi).2 j hj
      rw [hadd] at this
      rw [this]
      unfold sb st
      rw [hat i hi]
    · obtain ⟨i, hi, rfl⟩ := List.mem_map.1 hs
      exact (hf i (by simpa using hi)).1

end Go.Proofs.Ytboahhipobcabab
