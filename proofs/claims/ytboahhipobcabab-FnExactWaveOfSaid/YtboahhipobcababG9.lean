/-
  SEVERAL TEXTS IN ONE.
-/
import Derived.Test.YtboahhipobcababMarkPv
import Derived.Test.YtboahhipobcababToPlan
import Derived.Test.YtboahhipobcababG8

/-
  CONTRACTS: slices of plans: marks read back.
-/
namespace Go.Proofs.Ytboahhipobcabab
open Go Go.ChangeShapes Go.WideShapes Go.ChangeAt Go.RowKit
set_option maxRecDepth 100000

set_option maxHeartbeats 1000000 in
theorem heldPlanS_any (g n cp : Nat) (hb len cap : Nat → Nat) (hn : n ≤ 1048576) (hl : ∀ i, i < n → len i ≤ 1048576) (hS : sN len n ≤ 100000000) (w : World)
    (h0 : ∀ p, p < n → w.cell? ⟨g, p * 3, none⟩ = some (.slice (some ⟨hb p, 0, none⟩) (len p) (cap p)) ∧ w.cell? ⟨g, p * 3 + 1, none⟩ = some (.int .i64 ((sN len p + len p * 9 : Nat) : Int)) ∧ w.cell? ⟨g, p * 3 + 2, none⟩ = some (.int .i64 ((sN len p + len p * 9 + 1 : Nat) : Int)))
    (hm : ∀ p, p < n → ∀ q, q < len p * 9 → w.cell? ⟨hb p, q, none⟩ = some (mkS2 (sN len p) q)) :
    Calls Try.prog 18 #[.slice (some ⟨g, 0, none⟩) n cp, .int .i64 1] w fun e w' => e = .returned (.int .i64 (sN len n : Int)) ∧ w' = w := by
  have H0 := Lib.hid (And.intro h0 (And.intro hm hl))
  clear h0 hm hl
  go_enter Try.func18, Try.ntmps18
  go_wp2
  go_loopw [1, 5] (fun s iv wr => ∃ i : Nat, i ≤ n ∧ iv = .int .i64 (i : Int) ∧ s = .int .i64 (sN len i : Int) ∧ wr = w) (fun _ iv _ => n - (intOf iv).toNat)
  case atStart => exact ⟨0, by omega, rfl, rfl, rfl⟩
  case round =>
    obtain ⟨i, hi, rfl, rfl, rfl⟩ := hrel
    by_cases hlt : i < n
    · have kd : (i : Int) < (n : Int) := by omega
      have s2 : IntKind.i64.wrap ((i : Int) + 1) = (i : Int) + 1 := IntWalk.i64_in _ (by omega)
      have hsi := sN_le len (i := i + 1) (n := n) (by omega)
      have hs1 : sN len (i + 1) = sN len i + len i * 9 + 2 := rfl
      have KH := heldSl2_any (sN len i) (by omega) (hb i) (len i) (cap i) (H0.out.2.2 i hlt) wr (H0.out.2.1 i hlt)
      obtain ⟨c0, c1, c2⟩ := H0.out.1 i hlt
      obtain ⟨m1, hm1⟩ : ∃ m1 : Int, m1 = (len i : Int) * 9 + (sN len i : Nat) := ⟨_, rfl⟩
      rw [← hm1] at KH
      rw [show ((sN len i + len i * 9 : Nat) : Int) = m1 from by omega] at c1
      rw [show ((sN len i + len i * 9 + 1 : Nat) : Int) = m1 + 1 from by omega] at c2
      have s3 : IntKind.i64.wrap (m1 + 1) = m1 + 1 := IntWalk.i64_in _ (by omega)
      have s4 : IntKind.i64.wrap (m1 + 1 + 1) = m1 + 1 + 1 := IntWalk.i64_in _ (by omega)
      have hp1 : ¬ m1 < 0 := by omega
      have e9 := Lib.hid (show m1 + 1 + 1 = (sN len (i + 1) : Int) from by omega)
      clear hm1 hs1 hsi
      go_wp2_with fail
      refine KH.mono ?_
      rintro e w2 ⟨rfl, rfl⟩
      go_wp2_with fail
      exact ⟨⟨i + 1, by omega, by go_num, by rw [e9.out], by trivial⟩, by simp [intOf]; omega⟩
    · obtain rfl : n = i := by omega
      go_wp2
      go_ret
      exact ⟨rfl, by trivial⟩

/-- what the marks leave as it was, and that they are read back as long as their blocks stay -/
theorem markPlanS_held (g n cp : Nat) (hb len cap : Nat → Nat) (cur : Array Value) (hn : n ≤ 1048576) (hl : ∀ i, i < n → len i ≤ 1048576) (hS : sN len n ≤ 100000000) (lo hi : Nat) (hlo : lo ≤ g ∧ ∀ i, i < n → lo ≤ hb i) (hhi : g < hi ∧ ∀ i, i < n → hb i < hi) (w : World) (h0 : MP w g n hb len cap cur) :
    Calls Try.prog 16 #[.slice (some ⟨g, 0, none⟩) n cp, .int .i64 1] w fun e w' => e = .returned (.int .i64 (sN len n : Int)) ∧ Below lo w w' ∧ w'.heap.size = w.heap.size ∧ (∀ k, hi ≤ k → w'.heap[k]? = w.heap[k]?) ∧
      ∀ w2, Below w'.heap.size w' w2 → Calls Try.prog 18 #[.slice (some ⟨g, 0, none⟩) n cp, .int .i64 1] w2 fun e w3 => e = .returned (.int .i64 (sN len n : Int)) ∧ w3 = w2 := by
  refine (markPlanS_any g n cp hb len cap cur hn hl hS w h0).mono ?_
  rintro e w' ⟨rfl, cur1, hI⟩
  refine ⟨rfl, ⟨hI.os, hI.tape, hI.out, by rw [hI.hsz]; exact Nat.le_refl _, fun k hk => hI.oth k (by omega) (fun p hp => by have := hlo.2 p hp; omega)⟩, hI.hsz, fun k hk => hI.oth k (by omega) (fun p hp => by have := hhi.2 p hp; omega), fun w2 hb2 => ?_⟩
  have hr := hI.row.step hb2
  refine heldPlanS_any g n cp hb len cap hn hl hS w2 (fun p hp => ?_) (fun p hp q hq => ?_)
  · exact ⟨hr.cell ((hI.sl p hp).trans (h0.sl p hp)), hr.cell (hI.m1 p hp).1, hr.cell (hI.m1 p hp).2⟩
  · have h1 := hI.ms p hp q hq
    obtain ⟨cs, hA, -⟩ := h0.at' p hp
    have hlt : hb p < w'.heap.size := by rw [hI.hsz]; exact hA.lt
    unfold World.cell? at h1 ⊢
    rw [hb2.block _ hlt]
    exact h1

end Go.Proofs.Ytboahhipobcabab

/-
  CONTRACTS: a plan loaded whole.
-/
namespace Go.Proofs.Ytboahhipobcabab
open Go Go.ChangeShapes Go.WideShapes Go.ChangeAt Go.RowKit
set_option maxRecDepth 100000

theorem run_plan {w : World} {g : Nat} {s : Value} {b o : Int} {T : TypeId} (ty : TypeId) (fs : Array Field) (h : At w g (plC s b o) T) (hu : Try.prog.underlying ty = some (.struct fs)) (hi : (Try.prog.info? ty).map (·.size) = some 3) :
    (Instr.loadAt ty (.pointer (some ⟨g, 0, none⟩))).run Try.prog w = .ok (.agg (plC s b o)) w :=
  run_loadAt_part w g 0 3 ty (plC s b o) T (0, 0) _ h hu rfl hi (by rw [plC_size]; omega)

end Go.Proofs.Ytboahhipobcabab

/-
  CONTRACTS: slices of plans wherever they lie; their sizes.
-/
namespace Go.Proofs.Ytboahhipobcabab
open Go Go.ChangeShapes Go.WideShapes Go.ChangeAt Go.RowKit
set_option maxRecDepth 100000

/-- the numbers of all slots fit their words -/
def PsW (ps : Ps) : Prop := ∀ p ∈ ps, SlW p.1
/-- how many values a slice of plans has -/
def psN (ps : Ps) : Nat → Nat
  | 0 => 0
  | k + 1 => psN ps k + (pS ps k).length
/-- what is left -/
def szV (left t : Int) : Int := if left < t then -1 else left - t
theorem szV_lt {left t : Int} (h : left < t) : szV left t = -1 := if_pos h
theorem szV_ge {left t : Int} (h : ¬ left < t) : szV left t = left - t := if_neg h
/-- a slice of plans, wherever it lies -/
structure PSl (w : World) (v : Value) (ps : Ps) : Prop where
  val : (ps = [] ∧ ∃ a cap, v = .slice a 0 cap) ∨ ∃ g off cap, v = .slice (some ⟨g, off, none⟩) ps.length cap ∧ g < w.heap.size ∧ ∀ i, i < ps.length → ∃ a c, SSl w (.slice a (pS ps i).length c) (pS ps i) ∧ ∀ j, j < 3 → w.cell? ⟨g, off + i * 3 + j, none⟩ = (plC (.slice a (pS ps i).length c) (pB ps i) (pO ps i))[j]?
  len : ps.length ≤ maxLen
theorem PSl.step {B : Nat} {w w' : World} {v : Value} {ps : Ps} (h : PSl w v ps) (hB : w.heap.size ≤ B) (hb : Below B w w') : PSl w' v ps := by
  refine ⟨h.val.imp id ?_, h.len⟩
  rintro ⟨g, off, cap, rfl, hg, hc⟩
  refine ⟨g, off, cap, rfl, Nat.lt_of_lt_of_le hg hb.size, fun i hi => ?_⟩
  obtain ⟨a, c, hs, hj⟩ := hc i hi
  refine ⟨a, c, hs.step hB hb, fun j hj' => ?_⟩
  rw [← hj j hj']
  unfold World.cell?
  rw [hb.block g (by omega)]
theorem PSl.any {w : World} {v : Value} {ps : Ps} (h : PSl w v ps) : ∃ a cap, v = .slice a ps.length cap := by
  rcases h.val with ⟨rfl, a, cap, rfl⟩ | ⟨g, off, cap, rfl, -⟩
  · exact ⟨a, cap, rfl⟩
  · exact ⟨_, cap, rfl⟩
/-- a slice that is not empty: its elements are loaded -/
theorem PSl.get {w : World} {v : Value} {ps : Ps} (h : PSl w v ps) (hz : ps.length ≠ 0) (ty : TypeId) (fs : Array Field) (hu : Try.prog.underlying ty = some (.struct fs)) (hi : (Try.prog.info? ty).map (·.size) = some 3) : ∃ g off cap, v = .slice (some ⟨g, off, none⟩) ps.length cap ∧
    ∀ k, k < ps.length → ∃ ak ck, SSl w (.slice ak (pS ps k).length ck) (pS ps k) ∧ ∀ w', Below w.heap.size w w' → (Instr.loadAt ty (.pointer (some ⟨g, off + k * 3, none⟩))).run Try.prog w' = .ok (.agg (plC (.slice ak (pS ps k).length ck) (pB ps k) (pO ps k))) w' := by
  rcases h.val with ⟨rfl, -⟩ | ⟨g, off, cap, rfl, hg, hc⟩
  · exact absurd rfl hz
  · refine ⟨g, off, cap, rfl, fun k hk => ?_⟩
    obtain ⟨a, c, hs, hj⟩ := hc k hk
    refine ⟨a, c, hs, fun w' hb => run_loadAt_cells (P := Try.prog) w' g (off + k * 3) 3 ty (plC (.slice a (pS ps k).length c) (pB ps k) (pO ps k)) _ (plC_size _ _ _) hu rfl hi (fun j hj' => ?_)⟩
    rw [← hj j hj']
    unfold World.cell?
    rw [hb.block g hg]

set_option maxHeartbeats 1000000 in
theorem szPlanS_any (v : Value) (ps : Ps) (left : Int) (hl : 0 ≤ left ∧ left ≤ 1048576) (w : World) (hF : PSl w v ps) :
    Calls Try.prog 9 #[v, .int .i64 left] w fun e w' => e = .returned (.int .i64 (szV left ((ps.length : Int) + (psN ps ps.length : Int)))) ∧ Below w.heap.size w w' := by
  have hm : ps.length ≤ 9223372036854775807 := Nat.le_trans hF.len (by decide)
  have s1 : IntKind.i64.wrap (left - (ps.length : Int)) = left - (ps.length : Int) := IntWalk.i64_in _ (by omega)
  by_cases hb : left < (ps.length : Int)
  · obtain ⟨a, cap, rfl⟩ := hF.any
    rw [szV_lt (by omega)]
    have h1 : left - (ps.length : Int) < 0 := by omega
    clear hF
    go_enter Try.func9, Try.ntmps9
    go_wp2
    go_ret
    exact ⟨rfl, Below.refl _ _⟩
  · have h1 : ¬ left - (ps.length : Int) < 0 := by omega
    by_cases z : ps.length = 0
    · obtain rfl := List.length_eq_zero_iff.1 z
      obtain ⟨a, cap, rfl⟩ := hF.any
      rw [szV_ge (show ¬ left < (([] : Ps).length : Int) + (psN [] ([] : Ps).length : Int) from by show ¬ left < 0 + 0; omega), show left - ((([] : Ps).length : Int) + (psN [] ([] : Ps).length : Int)) = left from by show left - (0 + 0) = left; omega]
      have h0 : ¬ left < 0 := by omega
      have s0 : IntKind.i64.wrap left = left := IntWalk.i64_in _ (by omega)
      clear hF s1 h1 hb hm z
      go_enter Try.func9, Try.ntmps9
      go_wp2
      go_loopw [1, 5] (fun s i wr => s = .int .i64 left ∧ i = .int .i64 0 ∧ wr = w) (fun _ _ _ => 0)
      case atStart => exact ⟨by simp, rfl, rfl⟩
      case round =>
        obtain ⟨rfl, rfl, rfl⟩ := hrel
        go_wp2
        go_ret
        exact ⟨rfl, Below.refl _ _⟩
    · obtain ⟨g, off, cap, rfl, HG⟩ := hF.get z 93 _ Try.underlying93 (by kernel_rfl)
      have HL := Lib.hid HG
      clear HG hF
      obtain ⟨n, hnn⟩ : ∃ n, n = ps.length := ⟨_, rfl⟩
      rw [← hnn] at hb h1 s1 hm z ⊢
      have HN := Lib.hid hnn
      clear hnn
      go_enter Try.func9, Try.ntmps9
      go_wp2
      go_loopw [1, 5] (fun s i wr => ∃ k : Nat, ∃ m : Int, k ≤ n ∧ i = .int .i64 (k : Int) ∧ s = .int .i64 m ∧ Hid (m = left - (n : Int) - (psN ps k : Int)) ∧ 0 ≤ m ∧ Hid (Below w.heap.size w wr)) (fun _ i _ => n - (intOf i).toNat)
      case atStart => exact ⟨0, left - (n : Int), by omega, rfl, rfl, Lib.hid (by show _ = _ - ((0 : Nat) : Int); omega), by omega, Lib.hid (Below.refl _ _)⟩
      case round =>
        obtain ⟨k, m, hk, rfl, rfl, hmq, hm0, B1⟩ := hrel
        by_cases hlt : k < n
        · have s2 : IntKind.i64.wrap ((k : Int) + 1) = (k : Int) + 1 := IntWalk.i64_in _ (by omega)
          have kd : (k : Int) < (n : Int) := by omega
          obtain ⟨ak, ck, hs, hld⟩ := HL.out k (by rw [← HN.out]; exact hlt)
          have hm1 : m ≤ 1048576 := by have := hmq.out; omega
          have KS := fun w' => szPlan_any ak (pS ps k).length ck (pB ps k) (pO ps k) m ⟨hm0, hm1⟩ hs.len w'
          have hld2 := Lib.hid (hld _ B1.out)
          have hN1 := Lib.hid (show psN ps (k + 1) = psN ps k + (pS ps k).length from rfl)
          clear hs hld hm1
          by_cases hq : m < ((pS ps k).length : Int)
          · rw [if_pos hq] at KS
            have hgt := Lib.hid (show left < (n : Int) + (psN ps n : Int) from by
              have hmono : ∀ {a b : Nat}, a ≤ b → psN ps a ≤ psN ps b := by
                intro a b hab
                induction hab with
                | refl => exact Nat.le_refl _
                | step _ ih => exact Nat.le_trans ih (Nat.le_add_right _ _)
              have h3 := hmono (show k + 1 ≤ n from hlt)
              have h4 := hmq.out
              have h5 := hN1.out
              omega)
            generalize (pS ps k).length = ln at *
            clear hq hmq hN1
            go_wp2_with ((with_reducible refine is_load 93 _ rfl ?_); refine wpList_load_of rfl 93 _ rfl _ rfl _ hld2.out ?_)
            refine (KS _).mono ?_
            rintro e w2 ⟨rfl, hb2⟩
            go_wp2_with fail
            go_ret
            exact ⟨by rw [szV_lt hgt.out]; rfl, bthen B1.out hb2⟩
          · rw [if_neg hq] at KS
            have hm2 : ¬ m - ((pS ps k).length : Int) < 0 := by omega
            have hmm : 0 ≤ m - ((pS ps k).length : Int) := by omega
            have hme := Lib.hid (show m - ((pS ps k).length : Int) = left - (n : Int) - (psN ps (k + 1) : Int) from by have := hmq.out; have := hN1.out; omega)
            generalize (pS ps k).length = ln at *
            clear hq hmq hN1
            go_wp2_with ((with_reducible refine is_load 93 _ rfl ?_); refine wpList_load_of rfl 93 _ rfl _ rfl _ hld2.out ?_)
            refine (KS _).mono ?_
            rintro e w2 ⟨rfl, hb2⟩
            have B2 := Lib.hid (bthen B1.out hb2)
            clear B1 hb2 hld2 KS
            go_wp2_with fail
            exact ⟨⟨k + 1, m - (ln : Int), by omega, by go_num, rfl, hme, hmm, B2⟩, by simp [intOf]; omega⟩
        · obtain rfl : n = k := by omega
          have hh := hmq.out
          have hne := Lib.hid (show ¬ left < (n : Int) + (psN ps n : Int) from by omega)
          clear hh
          go_wp2
          go_ret
          exact ⟨by rw [szV_ge (left := left) (t := (n : Int) + (psN ps n : Int)) (by have := hne.out; omega), show left - ((n : Int) + (psN ps n : Int)) = m from by have := hmq.out; omega]; rfl, B1.out⟩

end Go.Proofs.Ytboahhipobcabab
