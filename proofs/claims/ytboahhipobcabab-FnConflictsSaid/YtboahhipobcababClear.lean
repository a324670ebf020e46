/-
  CONTRACTS: clear phases, and the first conflict.
-/
import Derived.Test.YtboahhipobcababCfl
namespace Go.Proofs.Ytboahhipobcabab
open Go Go.ChangeShapes Go.WideShapes Go.ChangeAt Go.RowKit
set_option maxRecDepth 100000

def vIsClear (ts ps : List Bool) : Bool × Int := if okT ts then (!cfB (conf ts ps), 0) else (false, 1)
theorem vIsClear_yes {ts ps : List Bool} (h : okT ts = true) : vIsClear ts ps = (!cfB (conf ts ps), 0) := by unfold vIsClear; rw [if_pos h]
theorem vIsClear_no {ts ps : List Bool} (h : okT ts = false) : vIsClear ts ps = (false, 1) := by unfold vIsClear; rw [h]; rfl
def fst3 : Option (Nat × Nat) → Int × Int × Int
  | some (i, k) => (i, k, 0)
  | none => (0, 0, 6)
def vFirstConflict (ts ps : List Bool) : Int × Int × Int := if okT ts then fst3 (conf ts ps) else (0, 0, 1)
theorem vFirstConflict_yes {ts ps : List Bool} (h : okT ts = true) : vFirstConflict ts ps = fst3 (conf ts ps) := by unfold vFirstConflict; rw [if_pos h]
theorem vFirstConflict_no {ts ps : List Bool} (h : okT ts = false) : vFirstConflict ts ps = (0, 0, 1) := by unfold vFirstConflict; rw [h]; rfl

theorem IsClear_any (ts ps : List Bool) (hl : ts.length = 64) (hp : ps.length = 8) (w : World) :
    Calls Try.prog 47 #[.agg (bl ts), .agg (bl ps)] w fun e w' => e = .returned (.tuple #[.bool (vIsClear ts ps).1, .int .i64 (vIsClear ts ps).2]) ∧ Below w.heap.size w w' := by
  have hf : ∀ (i k : Int) (b : Bool) W, (Instr.field 143 (.agg #[.int .i64 i, .int .i64 k, .bool b]) 2).run Try.prog W = .ok (.bool b) W := fun _ _ _ _ => by kernel_rfl
  have A0 : At ((w.alloc (.cells (bl ts) 65)).alloc (.cells (bl ps) 69)) w.heap.size (bl ts) 65 := (At.new w _ _).alloc _
  have P0 : At ((w.alloc (.cells (bl ts) 65)).alloc (.cells (bl ps) 69)) (w.heap.size + 1) (bl ps) 69 := At.last1 w _ _ _
  have B0 := Lib.hid (bnew (b0 w (.cells (bl ts) 65)) (.cells (bl ps) 69))
  have SZ : (bl ts).size = 64 := by rw [bl_size, hl]
  have SP : (bl ps).size = 8 := by rw [bl_size, hp]
  have KV := ValidTable_any ts hl
  have KC := conflictIn_any ts ps hl hp
  cases h : okT ts
  · rw [h] at KV
    go_enter Try.func47, Try.ntmps47
    go_wp2_with (((with_reducible refine is_load 65 _ rfl ?_); refine wpList_load_at rfl 65 _ rfl _ rfl (bl ts) _ (by assumption) 64 (SZ) _ Try.underlying65 rfl (by kernel_rfl) ?_))
    refine (KV _).mono ?_
    rintro e w1 ⟨rfl, hb1⟩
    go_wp2_with fail
    go_ret2
    exact ⟨by rw [vIsClear_no h]; rfl, bthen B0.out hb1⟩
  · rw [h] at KV
    go_enter Try.func47, Try.ntmps47
    go_wp2_with (((with_reducible refine is_load 65 _ rfl ?_); refine wpList_load_at rfl 65 _ rfl _ rfl (bl ts) _ (by assumption) 64 (SZ) _ Try.underlying65 rfl (by kernel_rfl) ?_))
    refine (KV _).mono ?_
    rintro e w1 ⟨rfl, hb1⟩
    have A1 := A0.step hb1
    have P1 := P0.step hb1
    have B1 := Lib.hid (bthen B0.out hb1)
    clear A0 P0 B0 hb1 KV
    go_wp2_with (first | ((with_reducible refine is_load 65 _ rfl ?_); refine wpList_load_at rfl 65 _ rfl _ rfl (bl ts) _ (by assumption) 64 (SZ) _ Try.underlying65 rfl (by kernel_rfl) ?_) | ((with_reducible refine is_load 69 _ rfl ?_); refine wpList_load_at rfl 69 _ rfl _ rfl (bl ps) _ (by assumption) 8 (SP) _ Try.underlying69 rfl (by kernel_rfl) ?_))
    refine (KC _).mono ?_
    rintro e w2 ⟨rfl, hb2⟩
    go_wp2_with fail
    go_ret2
    exact ⟨by rw [vIsClear_yes h]; rfl, bthen B1.out hb2⟩

theorem FirstConflict_any (ts ps : List Bool) (hl : ts.length = 64) (hp : ps.length = 8) (w : World) :
    Calls Try.prog 48 #[.agg (bl ts), .agg (bl ps)] w fun e w' => e = .returned (.tuple #[.int .i64 (vFirstConflict ts ps).1, .int .i64 (vFirstConflict ts ps).2.1, .int .i64 (vFirstConflict ts ps).2.2]) ∧ Below w.heap.size w w' := by
  have hf : ∀ (i k : Int) (b : Bool) W, (Instr.field 143 (.agg #[.int .i64 i, .int .i64 k, .bool b]) 2).run Try.prog W = .ok (.bool b) W := fun _ _ _ _ => by kernel_rfl
  have A0 : At ((w.alloc (.cells (bl ts) 65)).alloc (.cells (bl ps) 69)) w.heap.size (bl ts) 65 := (At.new w _ _).alloc _
  have P0 : At ((w.alloc (.cells (bl ts) 65)).alloc (.cells (bl ps) 69)) (w.heap.size + 1) (bl ps) 69 := At.last1 w _ _ _
  have B0 := Lib.hid (bnew (b0 w (.cells (bl ts) 65)) (.cells (bl ps) 69))
  have SZ : (bl ts).size = 64 := by rw [bl_size, hl]
  have SP : (bl ps).size = 8 := by rw [bl_size, hp]
  have KV := ValidTable_any ts hl
  have KC := conflictIn_any ts ps hl hp
  cases h : okT ts
  · rw [h] at KV
    go_enter Try.func48, Try.ntmps48
    go_wp2_with (((with_reducible refine is_load 65 _ rfl ?_); refine wpList_load_at rfl 65 _ rfl _ rfl (bl ts) _ (by assumption) 64 (SZ) _ Try.underlying65 rfl (by kernel_rfl) ?_))
    refine (KV _).mono ?_
    rintro e w1 ⟨rfl, hb1⟩
    go_wp2_with fail
    go_ret3
    exact ⟨by rw [vFirstConflict_no h]; rfl, bthen B0.out hb1⟩
  · rw [h] at KV
    go_enter Try.func48, Try.ntmps48
    go_wp2_with (((with_reducible refine is_load 65 _ rfl ?_); refine wpList_load_at rfl 65 _ rfl _ rfl (bl ts) _ (by assumption) 64 (SZ) _ Try.underlying65 rfl (by kernel_rfl) ?_))
    refine (KV _).mono ?_
    rintro e w1 ⟨rfl, hb1⟩
    have A1 := A0.step hb1
    have P1 := P0.step hb1
    have B1 := Lib.hid (bthen B0.out hb1)
    clear A0 P0 B0 hb1 KV
    go_wp2_with (first | ((with_reducible refine is_load 65 _ rfl ?_); refine wpList_load_at rfl 65 _ rfl _ rfl (bl ts) _ (by assumption) 64 (SZ) _ Try.underlying65 rfl (by kernel_rfl) ?_) | ((with_reducible refine is_load 69 _ rfl ?_); refine wpList_load_at rfl 69 _ rfl _ rfl (bl ps) _ (by assumption) 8 (SP) _ Try.underlying69 rfl (by kernel_rfl) ?_))
    refine (KC _).mono ?_
    rintro e w2 ⟨rfl, hb2⟩
    have B2 := Lib.hid (bthen B1.out hb2)
    clear A1 P1 B1 hb2
    cases hc : conf ts ps with
    | none =>
      rw [show cfI none = 0 from rfl, show cfK none = 0 from rfl, show cfB none = false from rfl]
      go_wp2_with (((with_reducible refine is_store 143 _ _ rfl ?_); refine wpList_store_at rfl 143 _ _ rfl _ rfl (#[.int .i64 0, .int .i64 0, .bool false]) rfl (#[.int .i64 0, .int .i64 0, .bool false]) _ (by assumption) 3 (rfl) (rfl) (by kernel_rfl) (cf3_one _ _ _) ?_))
      go_ret3
      exact ⟨by rw [vFirstConflict_yes h, hc]; rfl, bnew B2.out _⟩
    | some ik =>
      obtain ⟨i, k⟩ := ik
      rw [show cfI (some (i, k)) = i from rfl, show cfK (some (i, k)) = k from rfl, show cfB (some (i, k)) = true from rfl]
      go_wp2_with (((with_reducible refine is_store 143 _ _ rfl ?_); refine wpList_store_at rfl 143 _ _ rfl _ rfl (#[.int .i64 i, .int .i64 k, .bool true]) rfl (#[.int .i64 0, .int .i64 0, .bool false]) _ (by assumption) 3 (rfl) (rfl) (by kernel_rfl) (cf3_one _ _ _) ?_))
      go_quiet (fail)
      go_wp2
      go_ret3
      exact ⟨by rw [vFirstConflict_yes h, hc]; rfl, bdrew (bnew B2.out _) _⟩

theorem sFirstConflict_any (ts ps : List Bool) (hl : ts.length = 64) (hp : ps.length = 8) (w : World) :
    Calls Try.prog 49 #[.agg (bl ts), .agg (bl ps)] w fun e w' => e = .returned (.tuple #[.int .i64 (vFirstConflict ts ps).1, .int .i64 (vFirstConflict ts ps).2.1, .int .i64 (vFirstConflict ts ps).2.2]) ∧ Below w.heap.size w w' := by
  have hf : ∀ (i k : Int) (b : Bool) W, (Instr.field 143 (.agg #[.int .i64 i, .int .i64 k, .bool b]) 2).run Try.prog W = .ok (.bool b) W := fun _ _ _ _ => by kernel_rfl
  have A0 : At ((w.alloc (.cells (bl ts) 65)).alloc (.cells (bl ps) 69)) w.heap.size (bl ts) 65 := (At.new w _ _).alloc _
  have P0 : At ((w.alloc (.cells (bl ts) 65)).alloc (.cells (bl ps) 69)) (w.heap.size + 1) (bl ps) 69 := At.last1 w _ _ _
  have B0 := Lib.hid (bnew (b0 w (.cells (bl ts) 65)) (.cells (bl ps) 69))
  have SZ : (bl ts).size = 64 := by rw [bl_size, hl]
  have SP : (bl ps).size = 8 := by rw [bl_size, hp]
  have KV := l04Table_any ts hl w.heap.size 65 ((w.alloc (.cells (bl ts) 65)).alloc (.cells (bl ps) 69)) A0
  cases h : okT ts
  · rw [h] at KV
    go_enter Try.func49, Try.ntmps49
    go_wp2_with fail
    refine KV.mono ?_
    rintro e w1 ⟨rfl, hb1⟩
    go_wp2_with fail
    go_ret3
    exact ⟨by rw [vFirstConflict_no h]; rfl, bthen B0.out hb1⟩
  · rw [h] at KV
    go_enter Try.func49, Try.ntmps49
    go_wp2_with fail
    refine KV.mono ?_
    rintro e w1 ⟨rfl, hb1⟩
    have A1 := A0.step hb1
    have P1 := P0.step hb1
    have B1 := Lib.hid (bthen B0.out hb1)
    have KC := l04Conflict_any ts ps hl hp w.heap.size _ w1 A1
    clear A0 P0 B0 hb1 KV
    go_wp2_with (((with_reducible refine is_load 69 _ rfl ?_); refine wpList_load_at rfl 69 _ rfl _ rfl (bl ps) _ (by assumption) 8 (SP) _ Try.underlying69 rfl (by kernel_rfl) ?_))
    refine KC.mono ?_
    rintro e w2 ⟨rfl, hb2⟩
    generalize hc : conf ts ps = c at *
    rcases c with _ | ⟨i, k⟩
    · go_wp2_with fail
      go_ret3
      exact ⟨by rw [vFirstConflict_yes h, hc]; rfl, bthen B1.out hb2⟩
    · go_wp2_with fail
      go_ret3
      exact ⟨by rw [vFirstConflict_yes h, hc]; rfl, bthen B1.out hb2⟩

end Go.Proofs.Ytboahhipobcabab
