/-
  SEVERAL TEXTS IN ONE.
-/
import Derived.Test.YtboahhipobcababAtI
import Derived.Laws.AppendOwn
import Derived.Great.BuildSlice
import Derived.OwnWalk

/-
  CONTRACTS: the phase at a tick: contracts.
-/
namespace Go.Proofs.Ytboahhipobcabab
open Go Go.ChangeShapes Go.WideShapes Go.ChangeAt Go.RowKit
set_option maxRecDepth 100000

theorem results_cell_tmp2 {fn : Func} {p u1 u2 : Tmp} {ty : TypeId} (h : fn.results = #[.cell p ty, .tmp u1, .tmp u2]) (tmps : Array Value) (P : Program) (w : World) :
    (results fn tmps).run P w = ((asAddr (tmps.getD p undef)).run P w).andThen fun a w₁ => ((loadVar ty a).run P w₁).andThen fun v w₂ => .ok (.tuple #[v, tmps.getD u1 undef, tmps.getD u2 undef]) w₂ := by
  simp only [results, h]
  simp [Sem.run_bind, Result.andThen]
theorem results_at2 {P : Program} {fn : Func} {p u1 u2 : Tmp} {ty : TypeId} (h : fn.results = #[.cell p ty, .tmp u1, .tmp u2]) (tmps : Array Value) (W : World) (g : Nat) (c : Array Value) (T : TypeId) (v1 v2 : Value) (hp : tmps.getD p undef = .pointer (some ⟨g, 0, none⟩))
    (h1 : tmps.getD u1 undef = v1) (h2 : tmps.getD u2 undef = v2) (hA : At W g c T)
    (d : TypeDesc) (hu : P.underlying ty = some d) (hd : (match d with | .struct _ | .array _ _ => true | _ => false) = true) (n : Nat) (hn : c.size = n) (hi : (P.info? ty).map (·.size) = some n) :
    (results fn tmps).run P W = .ok (.tuple #[.agg c, v1, v2]) W := by
  rw [results_cell_tmp2 h, hp, h1, h2]
  have := run_loadVar_row (P := P) W g T ty c (0, 0) d hA hu hd (by rw [hn]; exact hi)
  simp only [asAddr, Sem.run_pure, Result.andThen_ok, this]
/-- the code of a plan and a tick -/
def gC (xs : Slots) (b o k : Int) : Int := if okP xs b o then (if inB 0 1000000000 k then 0 else 2) else 1
theorem gC_no {xs : Slots} {b o k : Int} (h : okP xs b o = false) : gC xs b o k = 1 := by unfold gC; rw [h]; rfl
theorem gC_bad {xs : Slots} {b o k : Int} (h : okP xs b o = true) (hk : inB 0 1000000000 k = false) : gC xs b o k = 2 := by unfold gC; rw [h, hk]; rfl
theorem gC_yes {xs : Slots} {b o k : Int} (h : okP xs b o = true) (hk : inB 0 1000000000 k = true) : gC xs b o k = 0 := by unfold gC; rw [h, hk]; rfl
/-- a phase, what is left, and a code -/
def vGr (xs : Slots) (b o k : Int) : List Bool × Int × Int := if gC xs b o k = 0 then ((atS b xs ((k - o) % cyc xs b)).1, (atS b xs ((k - o) % cyc xs b)).2, 0) else (noes 8, 0, gC xs b o k)
theorem vGr_yes {xs : Slots} {b o k : Int} (h : gC xs b o k = 0) : vGr xs b o k = ((atS b xs ((k - o) % cyc xs b)).1, (atS b xs ((k - o) % cyc xs b)).2, 0) := by unfold vGr; rw [if_pos h]
theorem vGr_no {xs : Slots} {b o k : Int} (h : gC xs b o k ≠ 0) : vGr xs b o k = (noes 8, 0, gC xs b o k) := by unfold vGr; rw [if_neg h]
theorem vGr_len {xs : Slots} {b o k : Int} (hW : SlW xs) : (vGr xs b o k).1.length = 8 := by
  unfold vGr
  split
  · exact atS_len hW
  · exact noes_len 8
theorem okC_zero {xs : Slots} {b o : Int} (h : okC xs b o = 0) : okP xs b o = true := by
  cases hk : okP xs b o
  · rw [okC_no hk] at h; cases h
  · rfl
theorem okC_not {xs : Slots} {b o : Int} (h : okC xs b o ≠ 0) : okP xs b o = false := by
  cases hk : okP xs b o
  · rfl
  · rw [okC_yes hk] at h; exact absurd rfl h

end Go.Proofs.Ytboahhipobcabab

/-
  CONTRACTS: how many ticks have green; slices of words yes and no.
-/
namespace Go.Proofs.Ytboahhipobcabab
open Go Go.ChangeShapes Go.WideShapes Go.ChangeAt Go.RowKit
set_option maxRecDepth 100000

/-- how many of the first n are such -/
def cnt (f : Nat → Bool) : Nat → Nat
  | 0 => 0
  | n + 1 => cnt f n + (if f n then 1 else 0)
theorem cnt_add (f : Nat → Bool) (a : Nat) : ∀ c, cnt f (a + c) = cnt f a + cnt (fun i => f (a + i)) c
  | 0 => rfl
  | c + 1 => by
    show cnt f (a + c) + (if f (a + c) then 1 else 0) = cnt f a + (cnt (fun i => f (a + i)) c + (if f (a + c) then 1 else 0))
    rw [cnt_add f a c]
    omega
theorem cnt_congr {f g : Nat → Bool} : ∀ {n : Nat}, (∀ i, i < n → f i = g i) → cnt f n = cnt g n
  | 0, _ => rfl
  | n + 1, h => by
    show cnt f n + _ = cnt g n + _
    rw [cnt_congr (fun i hi => h i (by omega)), h n (by omega)]
theorem cnt_const (b : Bool) : ∀ n, cnt (fun _ => b) n = if b then n else 0
  | 0 => by cases b <;> rfl
  | n + 1 => by
    show cnt (fun _ => b) n + _ = _
    rw [cnt_const b n]
    cases b <;> simp
theorem cnt_le (f : Nat → Bool) : ∀ n, cnt f n ≤ n
  | 0 => Nat.le_refl _
  | n + 1 => by
    have := cnt_le f n
    show cnt f n + _ ≤ _
    split <;> omega
/-- has a movement green at a place of the cycle? -/
def gre (b : Int) (xs : Slots) (m : Nat) (a : Nat) : Bool := bn (atS b xs (a : Int)).1 m
/-- the ticks of the first k slots with green -/
def gSum (xs : Slots) (m : Nat) : Nat → Int
  | 0 => 0
  | k + 1 => gSum xs m k + (if bn (sb xs k) m then st xs k else 0)
theorem tks_cons (s : List Bool × Int) (r : Slots) : ∀ k, tks (s :: r) (k + 1) = s.2 + tks r k
  | 0 => by show 0 + s.2 = s.2 + 0; omega
  | k + 1 => by
    show tks (s :: r) (k + 1) + st (s :: r) (k + 1) = s.2 + (tks r k + st r k)
    rw [tks_cons s r k]
    have : st (s :: r) (k + 1) = st r k := rfl
    omega
theorem gSum_cons (s : List Bool × Int) (r : Slots) (m : Nat) : ∀ k, gSum (s :: r) m (k + 1) = (if bn s.1 m then s.2 else 0) + gSum r m k
  | 0 => by show 0 + (if bn s.1 m then s.2 else 0) = _ + 0; omega
  | k + 1 => by
    show gSum (s :: r) m (k + 1) + (if bn (sb (s :: r) (k + 1)) m then st (s :: r) (k + 1) else 0) = _ + (gSum r m k + (if bn (sb r k) m then st r k else 0))
    rw [gSum_cons s r m k]
    have e1 : st (s :: r) (k + 1) = st r k := rfl
    have e2 : sb (s :: r) (k + 1) = sb r k := rfl
    rw [e1, e2]; omega
theorem cyc_cons (s : List Bool × Int) (r : Slots) (b : Int) : cyc (s :: r) b = s.2 + b + cyc r b := by
  unfold cyc
  rw [List.length_cons, tks_cons, show ((r.length + 1 : Nat) : Int) * b = (r.length : Int) * b + b from by rw [Int.natCast_add, Int.add_mul]; simp]
  omega
theorem noes_bn (n m : Nat) : bn (noes n) m = false := by
  unfold bn noes
  rw [List.getD_eq_getElem?_getD, List.getElem?_replicate]
  split <;> rfl
theorem gre_count {b : Int} {m : Nat} (hb : 0 ≤ b) : ∀ {xs : Slots}, (∀ s ∈ xs, 1 ≤ s.2) → (cnt (gre b xs m) (cyc xs b).toNat : Int) = gSum xs m xs.length
  | [], _ => by
    have : cyc [] b = 0 := by unfold cyc tks; simp
    rw [this]; rfl
  | s :: r, h => by
    have ih := gre_count hb (m := m) (xs := r) (fun x hx => h x (by simp [hx]))
    have hs := h s (by simp)
    have hr : 0 ≤ cyc r b := by
      have : ∀ (r : Slots), (∀ x ∈ r, 1 ≤ x.2) → 0 ≤ cyc r b := by
        intro r
        induction r with
        | nil => intro _; unfold cyc tks; simp
        | cons x r ih2 => intro hx; rw [cyc_cons]; have := ih2 (fun y hy => hx y (by simp [hy])); have := hx x (by simp); omega
      exact this r (fun x hx => h x (by simp [hx]))
    rw [cyc_cons, List.length_cons, gSum_cons]
    obtain ⟨t, ht⟩ : ∃ t : Nat, s.2 = t := ⟨s.2.toNat, by omega⟩
    obtain ⟨bn', hbn⟩ : ∃ t : Nat, b = t := ⟨b.toNat, by omega⟩
    obtain ⟨c, hc⟩ : ∃ t : Nat, cyc r b = t := ⟨(cyc r b).toNat, by omega⟩
    rw [show (s.2 + b + cyc r b).toNat = t + bn' + c from by omega, cnt_add, cnt_add]
    rw [show (cyc r b).toNat = c from by omega] at ih
    have e1 : cnt (gre b (s :: r) m) t = if bn s.1 m then t else 0 := by
      rw [cnt_congr (g := fun _ => bn s.1 m) (fun i hi => by
        unfold gre atS; rw [if_pos (by omega)])]
      exact cnt_const _ _
    have e2 : cnt (fun i => gre b (s :: r) m (t + i)) bn' = 0 := by
      rw [cnt_congr (g := fun _ => false) (fun i hi => by
        unfold gre atS; rw [if_neg (by omega), if_pos (by omega)]; exact noes_bn 8 m)]
      exact cnt_const _ _
    have e3 : cnt (fun i => gre b (s :: r) m (t + bn' + i)) c = cnt (gre b r m) c := by
      refine cnt_congr fun i hi => ?_
      show bn (atS b (s :: r) ((t + bn' + i : Nat) : Int)).1 m = bn (atS b r (i : Int)).1 m
      conv => lhs; unfold atS
      rw [if_neg (by omega), if_neg (by omega), show ((t + bn' + i : Nat) : Int) - s.2 - b = (i : Int) from by omega]
    rw [e1, e2, e3, ← ih]
    split <;> omega
/-- the list of greens -/
def gL (b : Int) (xs : Slots) (m : Nat) (n : Nat) : List Bool := (List.range n).map (gre b xs m)
theorem gL_len (b : Int) (xs : Slots) (m n : Nat) : (gL b xs m n).length = n := by simp [gL]
theorem gL_next (b : Int) (xs : Slots) (m n : Nat) : gL b xs m (n + 1) = gL b xs m n ++ [gre b xs m n] := by
  unfold gL; rw [List.range_succ, List.map_append]; rfl
/-- v is a slice of n words yes and no, in memory from block lo on -/
def Own1 (w : World) (lo : Nat) (v : Value) (n : Nat) (bs : List Bool) : Prop := w.ownsRow lo 4 1 v n (bs.map Value.bool)
theorem Own1.step {w w' : World} {lo : Nat} {v : Value} {n : Nat} {xs : List Bool} (h : Own1 w lo v n xs) (hb : Below w.heap.size w w') : Own1 w' lo v n xs := by
  refine ⟨h.1, h.2.imp id ?_⟩
  rintro ⟨g, cap, cur, rfl, h1, h2, h3, h4, h5, h6⟩
  have hl : g < w.heap.size := (Array.getElem?_eq_some_iff.1 h2).1
  exact ⟨g, cap, cur, rfl, h1, (hb.block g hl).trans h2, h3, h4, h5, h6⟩
theorem Own1.block {w : World} {lo : Nat} {v : Value} {n : Nat} {xs : List Bool} (h : Own1 w lo v n xs) : ∀ k, v.ownBlock = some k → lo ≤ k ∧ k < w.heap.size := by
  intro k hk
  rcases h.2 with ⟨rfl, -⟩ | ⟨g, cap, cur, rfl, h1, h2, -⟩
  · cases hk
  · have : g = k := by simpa [Value.ownBlock] using hk
    subst this
    exact ⟨h1, (Array.getElem?_eq_some_iff.1 h2).1⟩
theorem Own1.any {w : World} {lo : Nat} {v : Value} {n : Nat} {xs : List Bool} (h : Own1 w lo v n xs) : ∃ a cap, v = .slice a n cap := by
  rcases h.2 with ⟨rfl, rfl⟩ | ⟨g, cap, cur, rfl, -⟩
  · exact ⟨none, 0, rfl⟩
  · exact ⟨_, cap, rfl⟩
/-- what is known of such a slice that is not empty -/
theorem Own1.at {w : World} {lo : Nat} {v : Value} {n : Nat} {xs : List Bool} (h : Own1 w lo v n xs) (hn : n ≠ 0) : ∃ g cap cur, v = .slice (some ⟨g, 0, none⟩) n cap ∧ lo ≤ g ∧ At w g cur 4 ∧ ∀ j, j < n → cur[j]? = some (.bool (bn xs j)) := by
  have hlen := h.1
  rcases h.2 with ⟨-, h0⟩ | ⟨g, cap, cur, rfl, h1, h2, h3, h4, h5, h6⟩
  · exact absurd h0 hn
  · refine ⟨g, cap, cur, rfl, h1, h2, fun j hj => ?_⟩
    have e : (xs.map Value.bool)[j]? = cur[j]? := by
      rw [← h6, List.getElem?_take_of_lt (by omega), Array.getElem?_toList]
    rw [← e, List.getElem?_map]
    unfold bn
    rw [List.getD_eq_getElem?_getD, List.getElem?_eq_getElem (by simp at hlen; omega)]; rfl
theorem Below.grownBy {w w' : World} {r : Option Nat} {B : Nat} (h : w.grownBy w' r) (hB : B ≤ w.heap.size) (hr : ∀ k, r = some k → B ≤ k) : Below B w w' :=
  ⟨h.os, h.tape, h.output, h.size, fun k hk => h.block k (by omega) (fun e => by have := hr k e.symm; omega)⟩
theorem run_bool1 (W : World) (x : Bool) : (Instr.buildSlice 151 1 #[(0, .bool x)]).run Try.prog W = .ok (.slice (some ⟨W.heap.size, 0, none⟩) 1 1) (W.alloc (.cells #[.bool x] 4)) := by kernel_rfl
theorem run_bool0 (W : World) : (Instr.buildSlice 151 0 #[]).run Try.prog W = .ok (.slice (some ⟨W.heap.size, 0, none⟩) 0 0) (W.alloc (.cells #[] 4)) := by kernel_rfl
theorem Own1.empty (w : World) : Own1 (w.alloc (.cells #[] 4)) w.heap.size (.slice (some ⟨w.heap.size, 0, none⟩) 0 0) 0 [] :=
  ⟨rfl, .inr ⟨w.heap.size, 0, #[], rfl, Nat.le_refl _, At.new w #[] 4, Nat.le_refl _, by unfold maxLen; omega, rfl, rfl⟩⟩
theorem wpList_bslice {P : Program} {w w' : World} {ops : Array Oper} {rest : List Oper} {o : Oper} {a : Act} {Q : Exit → Act → World → Prop} (hg : o.guard = none) (t : TypeId) (len : Nat) (parts : Array (Nat × Operand)) (ho : o.op = .buildSlice t len parts)
    (ps : Array (Nat × Value)) (hps : (parts.map fun (i, x) => (i, a.eval x)) = ps) (v : Value) (hrun : (Instr.buildSlice t len ps).run P w = .ok v w') (h : wpList P ops Q rest (a.put o.dst v) w') : wpList P ops Q (o :: rest) a w := by
  refine wpList_plain hg fun K hK' => ?_
  unfold Oper.wp execOp
  simp only [ho, hps, Sem.run_bind, hrun, Sem.run_pure, Result.andThen_ok]
  exact hK' _ _ h
theorem is_bslice {P : Program} {w : World} {ops : Array Oper} {rest : List Oper} {o : Oper} {a : Act} {Q : Exit → Act → World → Prop} (t : TypeId) (len : Nat) (parts : Array (Nat × Operand)) (_ho : o.op = .buildSlice t len parts) (h : wpList P ops Q (o :: rest) a w) : wpList P ops Q (o :: rest) a w := h
theorem one_cells (W : World) (x : Bool) (s : Nat) (hs : s = W.heap.size) : ∀ j u, ([Value.bool x] : List Value)[j]? = some u → (W.alloc (.cells #[.bool x] 4)).cell? ((Addr.mk s 0 none).add j) = some u := by
  subst hs
  intro j u h
  have hj : j = 0 := by
    have := (List.getElem?_eq_some_iff.1 h).1
    simpa using this
  subst hj
  obtain rfl : Value.bool x = u := by simpa using h
  exact (At.new W #[.bool x] 4).cell rfl

end Go.Proofs.Ytboahhipobcabab
