/-
  SEVERAL TEXTS IN ONE.
-/
import Derived.Test.YtkaghfoaicbngabWaveI
import Derived.Test.YtkaghfoaicbngabGrTicks

/-
  CONTRACTS: what refuses a row of plans: the program, whole.
-/
namespace Go.Proofs.Ytkaghfoaicbngab
open Go Go.ChangeShapes Go.WideShapes Go.ChangeAt Go.RowKit
set_option maxRecDepth 100000

/-- how long it takes to the plan at k -/
def sm (ts : List Int) : Nat → Int
  | 0 => 0
  | k + 1 => sm ts k + ith ts k
/-- a car that is at the first plan at a tick has green at the plan at k -/
def mG (ps : Ps) (ts : List Int) (m : Nat) (t : Int) (k : Nat) : Bool := gre (pB ps k) (pS ps k) m ((t + sm ts k - pO ps k) % cyc (pS ps k) (pB ps k)).toNat
def mtG (ps : Ps) (ts : List Int) (m : Nat) (t : Nat) : Bool := allK (mG ps ts m t) ps.length
/-- how wide a wave is -/
def wid (ps : Ps) (ts : List Int) (m : Nat) : Nat := cnt (mtG ps ts m) (cyP ps 0).toNat
/-- what WaveWidth answers -/
def vWid (ps : Ps) (ts : List Int) (mv : Int) : Int × Int := if rowC ps ts mv = 0 then ((wid ps ts mv.toNat : Int), 0) else (0, rowC ps ts mv)
theorem vWid_no {ps : Ps} {ts : List Int} {mv : Int} (h : rowC ps ts mv ≠ 0) : vWid ps ts mv = (0, rowC ps ts mv) := by unfold vWid; rw [if_neg h]
theorem vWid_yes {ps : Ps} {ts : List Int} {m : Nat} (h : rowC ps ts m = 0) : vWid ps ts m = ((wid ps ts m : Int), 0) := by unfold vWid; rw [if_pos h, Int.toNat_natCast]
theorem rowC_parts {ps : Ps} {ts : List Int} {mv : Int} (h : rowC ps ts mv = 0) : (∃ m : Nat, mv = m ∧ m < 8) ∧ (∀ k, k < ps.length → okP (pS ps k) (pB ps k) (pO ps k) = true) ∧ (1 ≤ ps.length ∧ ps.length ≤ 6) ∧ ts.length + 1 = ps.length ∧ (∀ k, k < ts.length → 0 ≤ ith ts k ∧ ith ts k ≤ 100000) := by
  cases h1 : allK (pOk ps) ps.length
  · rw [rowC_1 h1] at h; cases h
  · cases h2 : ratOk ps ts mv
    · rw [rowC_2 h1 h2] at h; cases h
    · have h3 := h2
      unfold ratOk inB at h3
      simp only [Bool.and_eq_true, decide_eq_true_eq] at h3
      refine ⟨⟨mv.toNat, by omega, by omega⟩, fun k hk => allK_at (f := pOk ps) h1 hk, h3.1.1, h3.1.2.1, fun k hk => ?_⟩
      have := allK_at h3.2 hk
      simpa [tiOk, inB] using this

theorem PB.alloc {w : World} {G : Nat} {gs : Nat → Nat} {ps : Ps} {T : TypeId} (h : PB w G gs ps T) (x : Obj) : PB (w.alloc x) G gs ps T := h.step (b0 w x)
theorem refusalOfWave_any (G : Nat) (gs : Nat → Nat) (ps : Ps) (T : TypeId) (H : Nat) (ts : List Int) (T4 : TypeId) (mv : Int) (hW : ∀ i, i < ps.length → SlW (pS ps i)) (hn : ps.length ≤ 1048576) (ht : ts.length ≤ 1048576) (w : World) (P0 : PB w G gs ps T) (H0 : At w H (il ts) T4) :
    Calls Try.prog 44 #[.slice (some ⟨G, 0, none⟩) ps.length ps.length, .slice (some ⟨H, 0, none⟩) ts.length ts.length, .int .i64 mv] w fun e w' => e = .returned (.int .i64 (rowC ps ts mv)) ∧ Below w.heap.size w w' := by
  have hmf : ∀ (fn : Fn) (first cap : Array Value) (w : World), (Instr.makeFunc fn first cap).run Try.prog w = .ok (.func fn first cap) w := fun _ _ _ _ => rfl
  have G1 : At (((w.alloc (.cells #[.slice (some ⟨G, 0, none⟩) ps.length ps.length] 25)).alloc (.cells #[.slice (some ⟨H, 0, none⟩) ts.length ts.length] 23)).alloc (.cells #[.int .i64 mv] 2)) w.heap.size #[.slice (some ⟨G, 0, none⟩) ps.length ps.length] 25 := ((At.new w _ _).alloc _).alloc _
  have G2 : At (((w.alloc (.cells #[.slice (some ⟨G, 0, none⟩) ps.length ps.length] 25)).alloc (.cells #[.slice (some ⟨H, 0, none⟩) ts.length ts.length] 23)).alloc (.cells #[.int .i64 mv] 2)) (w.heap.size + 1) #[.slice (some ⟨H, 0, none⟩) ts.length ts.length] 23 := (At.last1 w _ _ _).alloc _
  have G3 : At (((w.alloc (.cells #[.slice (some ⟨G, 0, none⟩) ps.length ps.length] 25)).alloc (.cells #[.slice (some ⟨H, 0, none⟩) ts.length ts.length] 23)).alloc (.cells #[.int .i64 mv] 2)) (w.heap.size + 1 + 1) #[.int .i64 mv] 2 := by
    have := At.new ((w.alloc (.cells #[.slice (some ⟨G, 0, none⟩) ps.length ps.length] 25)).alloc (.cells #[.slice (some ⟨H, 0, none⟩) ts.length ts.length] 23)) #[.int .i64 mv] 2
    rwa [World.size_alloc, World.size_alloc] at this
  have P3 := ((P0.alloc (.cells #[.slice (some ⟨G, 0, none⟩) ps.length ps.length] 25)).alloc (.cells #[.slice (some ⟨H, 0, none⟩) ts.length ts.length] 23)).alloc (.cells #[.int .i64 mv] 2)
  have H3 := ((H0.alloc (.cells #[.slice (some ⟨G, 0, none⟩) ps.length ps.length] 25)).alloc (.cells #[.slice (some ⟨H, 0, none⟩) ts.length ts.length] 23)).alloc (.cells #[.int .i64 mv] 2)
  have B0 := Lib.hid (bnew (bnew (b0 w (.cells #[.slice (some ⟨G, 0, none⟩) ps.length ps.length] 25)) (.cells #[.slice (some ⟨H, 0, none⟩) ts.length ts.length] 23)) (.cells #[.int .i64 mv] 2))
  have KR := refusalOf_any 80 #[.pointer (some ⟨w.heap.size, 0, none⟩), .pointer (some ⟨w.heap.size + 1, 0, none⟩), .pointer (some ⟨w.heap.size + 1 + 1, 0, none⟩)] (rowC ps ts mv) (((w.alloc (.cells #[.slice (some ⟨G, 0, none⟩) ps.length ps.length] 25)).alloc (.cells #[.slice (some ⟨H, 0, none⟩) ts.length ts.length] 23)).alloc (.cells #[.int .i64 mv] 2)) (fun _ => by kernel_rfl) (fun w1 hb => refusalOfWave1_any w.heap.size (w.heap.size + 1) (w.heap.size + 1 + 1) 25 23 2 G gs ps T H ts T4 mv hW hn ht w1 (G1.step hb) (G2.step hb) (G3.step hb) (P3.step hb) (H3.step hb))
  clear G1 G2 G3 P0 H0 P3 H3
  go_enter Try.func44, Try.ntmps44
  go_wp2_with fail
  refine KR.mono ?_
  rintro e w1 ⟨rfl, hb1⟩
  go_wp2_with fail
  go_ret
  exact ⟨rfl, bthen B0.out hb1⟩

end Go.Proofs.Ytkaghfoaicbngab

/-
  CONTRACTS: in how many ticks of a cycle a movement has green.
-/
namespace Go.Proofs.Ytkaghfoaicbngab
open Go Go.ChangeShapes Go.WideShapes Go.ChangeAt Go.RowKit
set_option maxRecDepth 100000

end Go.Proofs.Ytkaghfoaicbngab
