/-
  SEVERAL TEXTS IN ONE.
-/
import Derived.Test.YtcfoghckdloknaaTakes
import Derived.Test.YtcfoghckdloknaaAt

/-
  CONTRACTS: FlowBetween.
-/
namespace Go.Proofs.Ytcfoghckdloknaa
open Go Go.RowKit

def vFlowBetween (cs : List Nat) (p b l : Nat) (k : Int) : Nat × Int := if okB cs p b l then (if 0 ≤ k ∧ k ≤ 14 then (flowW p b cs k.toNat, 0) else (0, 2)) else (0, 1)

theorem vFlowBetween_yes {cs : List Nat} {p b l k : Nat} (h : okB cs p b l = true) (hk : k < 15) : vFlowBetween cs p b l k = (flowW p b cs k, 0) := by unfold vFlowBetween; rw [if_pos h, if_pos (by omega), Int.toNat_natCast]

theorem vFlowBetween_no {cs : List Nat} {p b l : Nat} {k : Int} (h : okB cs p b l = false) : vFlowBetween cs p b l k = (0, 1) := by unfold vFlowBetween; rw [h]; rfl

theorem vFlowBetween_bad {cs : List Nat} {p b l : Nat} {k : Int} (h : okB cs p b l = true) (hk : ¬ (0 ≤ k ∧ k ≤ 14)) : vFlowBetween cs p b l k = (0, 2) := by unfold vFlowBetween; rw [if_pos h, if_neg hk]

theorem sFlowBetween_any (cs : List Nat) (p b l : Nat) (hl : cs.length = 16) (hc : ∀ x ∈ cs, x < 4294967296) (hp : p < 4294967296) (hb : b < 4294967296) (hla : l < 4294967296) (k : Int) (_hk : -9223372036854775808 ≤ k ∧ k ≤ 9223372036854775807) (w : World) :
    Calls Try.prog 9 #[.agg (rd cs p b l), .int .i64 k] w fun e w' => e = .returned (.tuple #[.float .f32 (vFlowBetween cs p b l k).1, .int .i64 (vFlowBetween cs p b l k).2]) ∧ Below w.heap.size w w' := by
  have hr := RoadAt.new w cs p b l 28
  clear _hk
  cases h : okB cs p b l
  · have e : atC (okB cs p b l) k 14 = 1 := by rw [h]; rfl
    rw [vFlowBetween_no h]
    go_enter Try.func9, Try.ntmps9
    go_wp2_with fail
    refine (l01At_any _ cs p b l hl hc hp hb hla k 14 _ hr).mono ?_
    rw [e]
    rintro e w1 ⟨rfl, n1, rfl⟩
    go_wp2_with fail
    go_ret2
    exact ⟨rfl, bdrew (b0 _ _) _⟩
  · have ok := OkR.of hl h
    by_cases c : 0 ≤ k ∧ k ≤ 14
    · have e : atC (okB cs p b l) k 14 = 0 := by rw [h]; unfold atC; rw [if_pos rfl, if_pos c]
      obtain ⟨n, rfl⟩ := Int.eq_ofNat_of_zero_le c.1
      have hn : n < 15 := by omega
      rw [vFlowBetween_yes h hn]
      clear c
      go_enter Try.func9, Try.ntmps9
      go_wp2_with fail
      refine (l01At_any _ cs p b l hl hc hp hb hla n 14 _ hr).mono ?_
      rw [e]
      rintro e w1 ⟨rfl, n1, rfl⟩
      go_wp2_with fail
      refine (l01Flow_any _ n (by omega) cs p b l ok _ (hr.drewN _)).mono ?_
      rintro e w2 ⟨rfl, n2, rfl⟩
      go_wp2_with fail
      go_ret2
      exact ⟨rfl, bdrew (b0 _ _) _⟩
    · have e : atC (okB cs p b l) k 14 = 2 := by rw [h]; unfold atC; rw [if_pos rfl, if_neg c]
      rw [vFlowBetween_bad h c]
      go_enter Try.func9, Try.ntmps9
      go_wp2_with fail
      refine (l01At_any _ cs p b l hl hc hp hb hla k 14 _ hr).mono ?_
      rw [e]
      rintro e w1 ⟨rfl, n1, rfl⟩
      go_wp2_with fail
      go_ret2
      exact ⟨rfl, bdrew (b0 _ _) _⟩

theorem vFlowBetween_good {cs : List Nat} (hl : cs.length = 16) (p b l : Nat) (k : Int) : (vFlowBetween cs p b l k).1 < 4294967296 ∧ nanB (vFlowBetween cs p b l k).1 = false := by
  cases h : okB cs p b l
  · rw [vFlowBetween_no h]; exact ⟨by decide, by decide⟩
  · have ok := OkR.of hl h
    by_cases c : 0 ≤ k ∧ k ≤ 14
    · obtain ⟨n, rfl⟩ := Int.eq_ofNat_of_zero_le c.1
      rw [vFlowBetween_yes h (by omega)]
      exact nan_le (flowW_le ok) (by omega)
    · rw [vFlowBetween_bad h c]; exact ⟨by decide, by decide⟩
end Go.Proofs.Ytcfoghckdloknaa

/-
  ROWS OF YES AND NO IN MEMORY: phases as rows of eight, tables as rows of eight by eight.
  No Go text in it. Conditions: those of each theorem.
-/
namespace Go.Proofs.Ytcfoghckdloknaa
open Go Go.RowKit

/-- what stands at a place (no behind the end) -/
def bn (bs : List Bool) (k : Nat) : Bool := bs.getD k false
/-- a row of yes and no -/
def bl (bs : List Bool) : Array Value := (bs.map Value.bool).toArray
theorem bl_size (bs : List Bool) : (bl bs).size = bs.length := by simp [bl]
theorem bl_get {bs : List Bool} {k : Nat} (h : k < bs.length) : (bl bs)[k]? = some (.bool (bn bs k)) := by
  simp [bl, bn, List.getElem?_map, List.getElem?_eq_getElem h, List.getD]
theorem bl_extract (bs : List Bool) (a b : Nat) : (bl bs).extract a b = bl ((bs.take b).drop a) := by
  apply Array.ext'
  simp [bl, List.map_drop, List.map_take, List.drop_take]
theorem bl_set (bs : List Bool) (k : Nat) (x : Bool) : (bl bs).setIfInBounds k (.bool x) = bl (bs.set k x) := by
  apply Array.ext'
  simp [bl]
theorem bl_one (bs : List Bool) : (bl bs).all (·.oneCell') = true := by
  simp only [bl, List.all_toArray, List.all_map]
  rw [List.all_eq_true]
  intro x _
  rfl
theorem splice_bl (xs ys : List Bool) (off : Nat) : splice (bl xs) off (bl ys) = bl (xs.take off ++ ys ++ xs.drop (off + ys.length)) := by
  simp [splice, bl, List.map_take, List.map_drop]
theorem bl_inj {xs ys : List Bool} (h : bl xs = bl ys) : xs = ys := by
  have := congrArg Array.toList h
  simp only [bl] at this
  exact (List.map_inj_right (fun a b e => by cases e; rfl)).1 this

/-- no, n times -/
def noes (n : Nat) : List Bool := List.replicate n false
theorem noes_len (n : Nat) : (noes n).length = n := by simp [noes]
/-- what a copy of n places has after k places -/
def cpB (n : Nat) (ys : List Bool) (k : Nat) : List Bool := ys.take k ++ List.replicate (n - k) false
theorem cpB_len {n : Nat} {ys : List Bool} (h : ys.length = n) (k : Nat) (hk : k ≤ n) : (cpB n ys k).length = n := by simp [cpB, h]; omega
theorem cpB_zero (n : Nat) (ys : List Bool) : cpB n ys 0 = noes n := by simp [cpB, noes]
theorem cpB_set {n : Nat} {ys : List Bool} (h : ys.length = n) {k : Nat} (hk : k < n) : (cpB n ys k).set k (bn ys k) = cpB n ys (k + 1) := by
  unfold cpB bn
  rw [List.set_append_right _ _ (by simp; omega), List.take_succ_eq_append_getElem (by omega), List.getD_eq_getElem?_getD, List.getElem?_eq_getElem (by omega)]
  rw [show k - (List.take k ys).length = 0 from by simp; omega, show n - k = (n - (k + 1)) + 1 from by omega, List.replicate_succ, List.append_assoc]
  rfl
theorem cpB_all {n : Nat} {ys : List Bool} (h : ys.length = n) : cpB n ys n = ys := by simp [cpB, ← h]
section
variable {ts : List Bool}
/-- row k of eight by eight -/
def row8 (ts : List Bool) (k : Nat) : List Bool := (ts.drop (8 * k)).take 8
theorem row8_len (ht : ts.length = 64) {k : Nat} (hk : k < 8) : (row8 ts k).length = 8 := by simp [row8, ht]; omega
theorem row8_nth (_ht : ts.length = 64) (k : Nat) {n : Nat} (hn : n < 8) : bn (row8 ts k) n = bn ts (8 * k + n) := by
  unfold row8 bn; simp only [List.getD]; rw [List.getElem?_take_of_lt hn, List.getElem?_drop]
theorem bl_row (_ht : ts.length = 64) {k off : Nat} (_hk : k < 8) (ho : off = 8 * k) : (bl ts).extract off (off + 8) = bl (row8 ts k) := by
  subst ho
  rw [bl_extract]; congr 1; unfold row8; rw [List.take_drop, Nat.add_comm]
end
/-- a copy by rows -/
def cpT (ts : List Bool) (k : Nat) : List Bool := cpB 64 ts (8 * k)
theorem cpT_len {ts : List Bool} (h : ts.length = 64) {k : Nat} (hk : k ≤ 8) : (cpT ts k).length = 64 := cpB_len h _ (by omega)
theorem cpT_zero (ts : List Bool) : cpT ts 0 = noes 64 := by simp [cpT, cpB, noes]
theorem cpT_all {ts : List Bool} (h : ts.length = 64) : cpT ts 8 = ts := cpB_all h
theorem cpT_splice {ts : List Bool} (h : ts.length = 64) {k off : Nat} (hk : k < 8) (ho : off = 8 * k) : splice (bl (cpT ts k)) off (bl (row8 ts k)) = bl (cpT ts (k + 1)) := by
  subst ho
  rw [splice_bl, row8_len h hk]
  congr 1
  unfold cpT cpB row8
  have e1 : (ts.take (8 * k)).drop (8 * k + 8) = [] := List.drop_eq_nil_of_le (by simp [h]; omega)
  have e2 : (ts.take (8 * k)).length = 8 * k := by simp [h]; omega
  rw [List.take_append_of_le_length (by omega), List.take_take, Nat.min_self, List.drop_append, e1, List.nil_append, e2, List.drop_replicate]
  rw [show 8 * (k + 1) = 8 * k + 8 from by omega, List.take_add]
  congr 2
  omega

variable {P : Program}
/-- an element of a row of yes and no -/
theorem run_index_bl (w : World) (ty e : TypeId) (n : Nat) (xs : List Bool) (k : Nat) (hu : P.underlying ty = some (.array n e)) (hue : P.underlying e = some .bool) (he : (P.info? e).map (·.size) = some 1) (hk : k < n) (hn : n = xs.length) :
    (Instr.index ty (.agg (bl xs)) (.int .i64 k)).run P w = .ok (.bool (bn xs k)) w := by
  subst hn
  have hagg : (isAgg e).run P w = .ok false w := by
    unfold isAgg
    rw [Sem.run_bind, run_underlying hue w]
    rfl
  cases hq : P.info? e with
  | none => simp [hq] at he
  | some i =>
    have hs : i.size = 1 := by simpa [hq] using he
    simp [Instr.index, asIntOf, run_underlying hu, hk, sizeOf, typeInfo, hq, hs, part, hagg, bl_get hk]
end Go.Proofs.Ytcfoghckdloknaa
