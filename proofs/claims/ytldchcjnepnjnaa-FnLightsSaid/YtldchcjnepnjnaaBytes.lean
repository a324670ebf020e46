/-
  CONTRACTS: the bytes that the drawn laws choose by, wherever they lie.
-/
import Derived.Test.YtldchcjnepnjnaaOneCell
import Derived.BigQuiet
import Derived.Laws.BitsLemmas
import Derived.Laws.Bits64
namespace Go.Proofs.Ytldchcjnepnjnaa
open Go Go.RowKit
set_option maxRecDepth 100000

/-- a cell of whatever plain type, in whatever world of the class -/
theorem q_oneY {P : Program} {W : World} {o : Oper} {a : Act} {K : Act → Prop} {g : Nat} {c : Array Value} {T : TypeId} (ty : TypeId) (x : Operand) (ho : o.op = .load ty x) (d : TypeDesc) (hu : P.underlying ty = some d)
    (hd : (match d with | .struct _ | .array _ _ => true | _ => false) = false) (k : Nat) (hx : a.eval x = .pointer (some ⟨g, k, none⟩)) (hA : At W g c T) (v : Value) (hk : c[k]? = some v) (hK : K (a.put o.dst v)) : o.quiet P a (Cb W) K :=
  q_load ty x ho _ hx v (fun w hw => run_load_one w ty d hu hd _ v (At.cell (At.step hA hw) hk)) hK

/-- nothing has turned but the block g -/
structure Only (g : Nat) (w w' : World) : Prop where
  below : Below g w w'
  rest : ∀ i, i < w.heap.size → i ≠ g → w'.heap[i]? = w.heap[i]?

theorem Only.refl (g : Nat) (w : World) : Only g w w := ⟨Below.refl _ _, fun _ _ _ => rfl⟩

theorem Only.step {g : Nat} {w w1 w2 : World} (h : Only g w w1) (hg : g ≤ w.heap.size) (k : Below w1.heap.size w1 w2) : Only g w w2 :=
  ⟨h.below.trans (k.mono (Nat.le_trans hg h.below.size)), fun i hi hn => (k.block i (Nat.lt_of_lt_of_le hi h.below.size)).trans (h.rest i hi hn)⟩

theorem Only.set {g : Nat} {w w1 : World} (h : Only g w w1) (c : Array Value) : Only g w (w1.setRow g c) :=
  ⟨bset h.below (Nat.le_refl _) c, fun i hi hn => (heap_setRow_other _ _ _ _ (by omega)).trans (h.rest i hi hn)⟩

theorem Only.at {g i : Nat} {w w' : World} {c : Array Value} {T : TypeId} (h : Only g w w') (hA : At w i c T) (hn : i ≠ g) : At w' i c T := (h.rest i hA.lt hn).trans hA

/-- the cells of a source: the bytes, the place, the seed -/
def srcC (ad : Option Addr) (n c k : Nat) (sd : Int) : Array Value := #[.slice ad n c, .int .i64 k, .int .u64 sd]

/-- the byte of a turn (0 behind the end) -/
def byteAt (bs : List Nat) (k : Nat) : Nat := bs.getD k 0

/-- a slice of bytes that came in: where it lies, what it holds -/
structure BSl (w : World) (ad : Option Addr) (bs : List Nat) : Prop where
  val : bs = [] ∨ ∃ g off, ad = some ⟨g, off, none⟩ ∧ g < w.heap.size ∧ ∀ i, i < bs.length → w.cell? ⟨g, off + i, none⟩ = some (.int .u8 (byteAt bs i : Nat))
  lt : ∀ b ∈ bs, b < 256
  len : bs.length ≤ maxLen

theorem BSl.keep {w w' : World} {ad : Option Addr} {bs : List Nat} (h : BSl w ad bs) (hb : ∀ g, g < w.heap.size → w'.heap[g]? = w.heap[g]?) (hs : w.heap.size ≤ w'.heap.size) : BSl w' ad bs := by
  refine ⟨h.val.imp id ?_, h.lt, h.len⟩
  rintro ⟨g, off, rfl, hg, hc⟩
  refine ⟨g, off, rfl, Nat.lt_of_lt_of_le hg hs, fun i hi => ?_⟩
  rw [← hc i hi]
  unfold World.cell?
  rw [hb g hg]

theorem BSl.step {B : Nat} {w w' : World} {ad : Option Addr} {bs : List Nat} (h : BSl w ad bs) (hb : Below B w w') (hB : w.heap.size ≤ B) : BSl w' ad bs :=
  h.keep (fun g hg => hb.block g (by omega)) hb.size

/-- a plain cell read, in whatever world of the class -/
theorem q_byte {P : Program} {W : World} {o : Oper} {a : Act} {K : Act → Prop} (ty : TypeId) (x : Operand) (ho : o.op = .load ty x) (d : TypeDesc) (hu : P.underlying ty = some d)
    (hd : (match d with | .struct _ | .array _ _ => true | _ => false) = false) (g k : Nat) (hx : a.eval x = .pointer (some ⟨g, k, none⟩)) (v : Value) (hk : W.cell? ⟨g, k, none⟩ = some v) (hg : g < W.heap.size) (hK : K (a.put o.dst v)) : o.quiet P a (Cb W) K :=
  q_load ty x ho _ hx v (fun w hw => run_load_one w ty d hu hd _ v (by rw [← hk]; unfold World.cell?; rw [Below.block hw g hg])) hK

/-- the next seed -/
def seedOf (sd b : Int) : Int := IntKind.u64.wrap (IntKind.u64.wrap (IntKind.u64.wrap (sd * 6364136223846793005) + IntKind.u64.wrap b) + 1442695040888963407)

def seedOf0 (sd : Int) : Int := IntKind.u64.wrap (IntKind.u64.wrap (IntKind.u64.wrap (sd * 6364136223846793005)) + 1442695040888963407)

theorem seedOf_zero (sd : Int) : seedOf sd 0 = seedOf0 sd := by
  unfold seedOf seedOf0
  rw [show IntKind.u64.wrap 0 = 0 from rfl, Int.add_zero]

/-- what comes next -/
def nextV (bs : List Nat) (k : Nat) (sd : Int) : Int := if k < bs.length then (byteAt bs k : Nat) else wrap64 (bits .and .u64 (seedOf sd 0 / 1099511627776) 255)

theorem byte_lt {bs : List Nat} (h : ∀ b ∈ bs, b < 256) (j : Nat) : byteAt bs j < 256 := by
  unfold byteAt
  rcases Nat.lt_or_ge j bs.length with c | c
  · rw [List.getD, List.getElem?_eq_getElem c]; exact h _ (List.getElem_mem c)
  · rw [List.getD, List.getElem?_eq_none c]; decide

theorem next_b (g : Nat) (ad : Option Addr) (cp k : Nat) (bs : List Nat) (sd : Int) (w : World) (hk : k < 4611686018427387904) (h8 : ∀ b ∈ bs, b < 256) (hA : At w g (srcC ad bs.length cp k sd) 59) (hC : BSl w ad bs) :
    Calls Try.prog 27 #[.pointer (some ⟨g, 0, none⟩)] w fun e w' => e = .returned (.int .i64 (nextV bs k sd)) ∧ Only g w w' ∧ At w' g (srcC ad bs.length cp (k + 1) (seedOf sd (byteAt bs k))) 59 := by
  go_enter Try.func27, Try.ntmps27
  by_cases hlt : (k : Int) < (bs.length : Int)
  · obtain ⟨gc, off, rfl, hgc, hcell⟩ : ∃ gc off, ad = some ⟨gc, off, none⟩ ∧ gc < w.heap.size ∧ ∀ i, i < bs.length → w.cell? ⟨gc, off + i, none⟩ = some (.int .u8 (byteAt bs i : Nat)) := by
      rcases hC.val with rfl | h
      · simp at hlt; omega
      · exact h
    have hb := hcell k (by omega)
    go_wp2_with fail
    have hCb := Cb.const w
    refine wp_region_cb (by kernel_rfl) (by kernel_rfl) ?_
    repeat (first
      | go_big_quiet_skip
      | (go_big_quiet_want; first
        | (refine q_oneY 3 _ rfl _ Try.underlying3 rfl 1 rfl hA (.int .i64 k) rfl ?_; go_simp; go_big_quiet_on)
        | (refine q_oneY 22 _ rfl _ Try.underlying22 rfl 0 rfl hA (.slice (some ⟨gc, off, none⟩) bs.length cp) rfl ?_; go_simp; go_big_quiet_on)
        | (go_big_quiet_op; go_big_quiet_on)))
    refine wpQuiet_nil ?_
    intro w1 hw1
    have A1 := hA.step hw1
    have hb1 : w1.cell? ⟨gc, off + k, none⟩ = some (.int .u8 (byteAt bs k : Nat)) := by rw [← hb]; unfold World.cell?; rw [Below.block hw1 gc hgc]
    have hgc1 : gc < w1.heap.size := Nat.lt_of_lt_of_le hgc (Below.size hw1)
    have hc1 := Cb.const w1
    go_wp2_with fail
    refine wp_region_cb (by kernel_rfl) (by kernel_rfl) ?_
    repeat (first
      | go_big_quiet_skip
      | (go_big_quiet_want; first
        | (refine q_oneY 3 _ rfl _ Try.underlying3 rfl 1 rfl A1 (.int .i64 k) rfl ?_; go_simp; go_big_quiet_on)
        | (refine q_oneY 22 _ rfl _ Try.underlying22 rfl 0 rfl A1 (.slice (some ⟨gc, off, none⟩) bs.length cp) rfl ?_; go_simp; go_big_quiet_on)
        | (refine q_byte 5 _ rfl _ Try.underlying5 rfl gc (off + k) rfl (.int .u8 (byteAt bs k : Nat)) hb1 hgc1 ?_; go_simp; go_big_quiet_on)
        | (go_big_quiet_op; go_big_quiet_on)))
    refine wpQuiet_nil ?_
    intro w2 hw2
    rw [show wrap64 ((byteAt bs k : Nat) : Int) = (byteAt bs k : Nat) from by have := byte_lt h8 k; unfold wrap64; omega]
    have A2 := A1.step hw2
    have A3 := A2.setRow (srcC (some ⟨gc, off, none⟩) bs.length cp (k + 1) sd)
    go_wp2_with (first | ((with_reducible refine is_load 3 _ rfl ?_); refine wpList_load_cell rfl 3 _ rfl _ _ rfl (srcC (some ⟨gc, off, none⟩) bs.length cp k sd) _ A2 _ Try.underlying3 rfl (.int .i64 k) rfl ?_) | ((with_reducible refine is_store 3 _ _ rfl ?_); refine wpList_store_cell rfl 3 _ _ rfl _ _ rfl (.int .i64 ((k + 1 : Nat) : Int)) rfl (srcC (some ⟨gc, off, none⟩) bs.length cp k sd) _ A2 (by simp [srcC]) (by kernel_rfl) rfl (srcC (some ⟨gc, off, none⟩) bs.length cp (k + 1) sd) rfl ?_) | ((with_reducible refine is_load 57 _ rfl ?_); refine wpList_load_cell rfl 57 _ rfl _ _ rfl (srcC (some ⟨gc, off, none⟩) bs.length cp (k + 1) sd) _ A3 _ Try.underlying57 rfl (.int .u64 sd) rfl ?_) | ((with_reducible refine is_store 57 _ _ rfl ?_); refine wpList_store_cell rfl 57 _ _ rfl _ _ rfl (.int .u64 (seedOf sd (byteAt bs k))) rfl (srcC (some ⟨gc, off, none⟩) bs.length cp (k + 1) sd) _ A3 (by simp [srcC]) (by kernel_rfl) rfl (srcC (some ⟨gc, off, none⟩) bs.length cp (k + 1) (seedOf sd (byteAt bs k))) rfl ?_))
    go_simp
    have A4 := A3.setRow (srcC (some ⟨gc, off, none⟩) bs.length cp (k + 1) (seedOf sd (byteAt bs k)))
    have B4 : Only g w ((w2.setRow g (srcC (some ⟨gc, off, none⟩) bs.length cp (k + 1) sd)).setRow g (srcC (some ⟨gc, off, none⟩) bs.length cp (k + 1) (seedOf sd (byteAt bs k)))) := ((((Only.refl g w).step (Nat.le_of_lt hA.lt) hw1).step (Nat.le_of_lt hA.lt) hw2).set _).set _
    generalize (w2.setRow g (srcC (some ⟨gc, off, none⟩) bs.length cp (k + 1) sd)).setRow g (srcC (some ⟨gc, off, none⟩) bs.length cp (k + 1) (seedOf sd (byteAt bs k))) = w4 at A4 B4 ⊢
    clear A3 A2
    have hc4 := Cb.const w4
    have hle : (k : Int) + 1 ≤ (bs.length : Int) := by omega
    refine wp_region_cb (by kernel_rfl) (by kernel_rfl) ?_
    repeat (first
      | go_big_quiet_skip
      | (go_big_quiet_want; first
        | (refine q_oneY 3 _ rfl _ Try.underlying3 rfl 1 rfl A4 (.int .i64 ((k + 1 : Nat) : Int)) rfl ?_; go_simp; go_big_quiet_on)
        | (refine q_oneY 22 _ rfl _ Try.underlying22 rfl 0 rfl A4 (.slice (some ⟨gc, off, none⟩) bs.length cp) rfl ?_; go_simp; go_big_quiet_on)
        | (go_big_quiet_op; go_big_quiet_on)))
    refine wpQuiet_nil ?_
    intro w5 hw5
    have A5 := A4.step hw5
    go_wp2_with fail
    go_ret
    exact ⟨by rw [nextV, if_pos (by omega)]; rfl, B4.step (Nat.le_of_lt hA.lt) hw5, A5⟩
  · have hb0 : byteAt bs k = 0 := by unfold byteAt; rw [List.getD, List.getElem?_eq_none (by omega)]; rfl
    go_wp2_with fail
    have hCb := Cb.const w
    refine wp_region_cb (by kernel_rfl) (by kernel_rfl) ?_
    repeat (first
      | go_big_quiet_skip
      | (go_big_quiet_want; first
        | (refine q_oneY 3 _ rfl _ Try.underlying3 rfl 1 rfl hA (.int .i64 k) rfl ?_; go_simp; go_big_quiet_on)
        | (refine q_oneY 22 _ rfl _ Try.underlying22 rfl 0 rfl hA (.slice ad bs.length cp) rfl ?_; go_simp; go_big_quiet_on)
        | (go_big_quiet_op; go_big_quiet_on)))
    refine wpQuiet_nil ?_
    intro w1 hw1
    have A1 := hA.step hw1
    have A3 := A1.setRow (srcC ad bs.length cp (k + 1) sd)
    go_wp2_with (first | ((with_reducible refine is_load 3 _ rfl ?_); refine wpList_load_cell rfl 3 _ rfl _ _ rfl (srcC ad bs.length cp k sd) _ A1 _ Try.underlying3 rfl (.int .i64 k) rfl ?_) | ((with_reducible refine is_store 3 _ _ rfl ?_); refine wpList_store_cell rfl 3 _ _ rfl _ _ rfl (.int .i64 ((k + 1 : Nat) : Int)) rfl (srcC ad bs.length cp k sd) _ A1 (by simp [srcC]) (by kernel_rfl) rfl (srcC ad bs.length cp (k + 1) sd) rfl ?_) | ((with_reducible refine is_load 57 _ rfl ?_); refine wpList_load_cell rfl 57 _ rfl _ _ rfl (srcC ad bs.length cp (k + 1) sd) _ A3 _ Try.underlying57 rfl (.int .u64 sd) rfl ?_) | ((with_reducible refine is_store 57 _ _ rfl ?_); refine wpList_store_cell rfl 57 _ _ rfl _ _ rfl (.int .u64 (seedOf0 sd)) rfl (srcC ad bs.length cp (k + 1) sd) _ A3 (by simp [srcC]) (by kernel_rfl) rfl (srcC ad bs.length cp (k + 1) (seedOf0 sd)) rfl ?_))
    go_simp
    have A4 := A3.setRow (srcC ad bs.length cp (k + 1) (seedOf0 sd))
    have B4 : Only g w ((w1.setRow g (srcC ad bs.length cp (k + 1) sd)).setRow g (srcC ad bs.length cp (k + 1) (seedOf0 sd))) := (((Only.refl g w).step (Nat.le_of_lt hA.lt) hw1).set _).set _
    generalize (w1.setRow g (srcC ad bs.length cp (k + 1) sd)).setRow g (srcC ad bs.length cp (k + 1) (seedOf0 sd)) = w4 at A4 B4 ⊢
    clear A3 A1
    have hc4 := Cb.const w4
    have hle : (bs.length : Int) < (k : Int) + 1 := by omega
    refine wp_region_cb (by kernel_rfl) (by kernel_rfl) ?_
    repeat (first
      | go_big_quiet_skip
      | (go_big_quiet_want; first
        | (refine q_oneY 3 _ rfl _ Try.underlying3 rfl 1 rfl A4 (.int .i64 ((k + 1 : Nat) : Int)) rfl ?_; go_simp; go_big_quiet_on)
        | (refine q_oneY 22 _ rfl _ Try.underlying22 rfl 0 rfl A4 (.slice ad bs.length cp) rfl ?_; go_simp; go_big_quiet_on)
        | (go_big_quiet_op; go_big_quiet_on)))
    refine wpQuiet_nil ?_
    intro w5 hw5
    have A5 := A4.step hw5
    go_wp2_with ((with_reducible refine is_load 57 _ rfl ?_); refine wpList_load_cell rfl 57 _ rfl _ _ rfl (srcC ad bs.length cp (k + 1) (seedOf0 sd)) _ A5 _ Try.underlying57 rfl (.int .u64 (seedOf0 sd)) rfl ?_)
    go_ret
    rw [hb0, show ((0 : Nat) : Int) = 0 from rfl, seedOf_zero]
    exact ⟨by rw [nextV, if_neg (by omega), seedOf_zero]; rfl, B4.step (Nat.le_of_lt hA.lt) hw5, A5⟩

theorem seedOf_lo (sd b : Int) : 0 ≤ seedOf sd b ∧ seedOf sd b < 18446744073709551616 := by
  unfold seedOf
  generalize IntKind.u64.wrap (IntKind.u64.wrap (sd * 6364136223846793005) + IntKind.u64.wrap b) + 1442695040888963407 = x
  rw [IntKind.wrap_u64]
  omega

theorem bits_u64_63 (n : Int) (h₀ : 0 ≤ n) (h₁ : n < 2 ^ 63) : IntKind.u64.wrap n = n := by rw [IntKind.wrap_u64]; omega

theorem nextV_in {bs : List Nat} (h8 : ∀ b ∈ bs, b < 256) (k : Nat) (sd : Int) : 0 ≤ nextV bs k sd ∧ nextV bs k sd < 256 := by
  unfold nextV
  split
  · have := byte_lt h8 k; omega
  · obtain ⟨h1, h2⟩ := seedOf_lo sd 0
    have h := bits_mask .u64 63 (by decide) bits_u64_63 8 (by decide) (seedOf sd 0 / 1099511627776) (by omega) (by omega)
    rw [show ((2 : Int) ^ 8 - 1) = 255 by decide, show ((2 : Int) ^ 8) = 256 by decide] at h
    rw [h]
    unfold wrap64
    omega

/-- a number from 0 to n - 1 -/
def pickV (bs : List Nat) (k : Nat) (sd n : Int) : Int := if n ≤ 1 then 0 else nextV bs k sd % n

def pickK (k : Nat) (n : Int) : Nat := if n ≤ 1 then k else k + 1

def pickS (bs : List Nat) (k : Nat) (sd n : Int) : Int := if n ≤ 1 then sd else seedOf sd (byteAt bs k)

theorem pick_b (g : Nat) (ad : Option Addr) (cp k : Nat) (bs : List Nat) (sd n : Int) (w : World) (hk : k < 4611686018427387904) (h8 : ∀ b ∈ bs, b < 256) (hn : n ≤ 200) (hA : At w g (srcC ad bs.length cp k sd) 59) (hC : BSl w ad bs) :
    Calls Try.prog 15 #[.pointer (some ⟨g, 0, none⟩), .int .i64 n] w fun e w' => e = .returned (.int .i64 (pickV bs k sd n)) ∧ Only g w w' ∧ At w' g (srcC ad bs.length cp (pickK k n) (pickS bs k sd n)) 59 := by
  go_enter Try.func15, Try.ntmps15
  by_cases h1 : n ≤ 1
  · go_wp2
    go_ret
    exact ⟨by rw [pickV, if_pos h1]; rfl, Only.refl _ _, by rw [pickK, pickS, if_pos h1, if_pos h1]; exact hA⟩
  · obtain ⟨v0, v1⟩ := nextV_in h8 k sd
    go_wp2_with (go_at_call 27; refine (next_b g ad cp k bs sd _ hk h8 hA hC).mono ?_; rintro e w1 ⟨rfl, B1, A1⟩)
    go_ret
    exact ⟨by rw [pickV, if_neg (by omega)]; rfl, B1, by rw [pickK, pickS, if_neg (by omega), if_neg (by omega)]; exact A1⟩

/-- a source is made of bytes that lie somewhere -/
theorem l00From_b (ad : Option Addr) (cp : Nat) (bs : List Nat) (w : World) :
    Calls Try.prog 13 #[.slice ad bs.length cp] w fun e w' => e = .returned (.pointer (some ⟨w.heap.size, 0, none⟩)) ∧ Below w.heap.size w w' ∧ At w' w.heap.size (srcC ad bs.length cp 0 0) 59 := by
  have A0 := At.new w (srcC ad bs.length cp 0 0) 59
  go_enter Try.func13, Try.ntmps13
  go_wp2
  go_ret
  exact ⟨rfl, b0 _ _, A0⟩

/-- what a byte row chooses first -/
def pick1 (bs : List Nat) (n : Int) : Int := pickV bs 0 0 n

theorem pick1_in {bs : List Nat} (h8 : ∀ b ∈ bs, b < 256) {n : Int} (h : 1 < n) : 0 ≤ pick1 bs n ∧ pick1 bs n < n := by
  have := nextV_in h8 0 0
  unfold pick1 pickV
  rw [if_neg (by omega)]
  exact ⟨Int.emod_nonneg _ (by omega), Int.emod_lt_of_pos _ (by omega)⟩

theorem P6Pick_b (ad : Option Addr) (cp : Nat) (bs : List Nat) (n : Int) (w : World) (h8 : ∀ b ∈ bs, b < 256) (hn : n ≤ 200) (hC : BSl w ad bs) :
    Calls Try.prog 7 #[.slice ad bs.length cp, .int .i64 n] w fun e w' => e = .returned (.int .i64 (pick1 bs n)) ∧ Below w.heap.size w w' := by
  go_enter Try.func7, Try.ntmps7
  go_wp2_with (go_at_call 13; refine (l00From_b ad cp bs _).mono ?_; rintro e w1 ⟨rfl, B1, A1⟩)
  have C1 := hC.step B1 (Nat.le_refl _)
  go_wp2_with (go_at_call 15; refine (pick_b _ ad cp 0 bs 0 n _ (by omega) h8 hn A1 C1).mono ?_; rintro e w2 ⟨rfl, B2, A2⟩)
  go_ret
  exact ⟨rfl, B1.trans B2.below⟩
end Go.Proofs.Ytldchcjnepnjnaa
