/-
  CONTRACTS: acts, the model: words.
-/
import Derived.Test.YtboahhipobcabaaAct
namespace Go.Proofs.Ytboahhipobcabaa
open Go Go.ChangeShapes Go.WideShapes Go.ChangeAt Go.RowKit
set_option maxRecDepth 100000

theorem results_three {fn : Func} {t u v : Tmp} (h : fn.results = #[.tmp t, .tmp u, .tmp v]) (tmps : Array Value) (P : Program) (w : World) :
    (results fn tmps).run P w = .ok (.tuple #[tmps.getD t undef, tmps.getD u undef, tmps.getD v undef]) w := by
  simp [results, h]

def IW : Array Value := #[.int .i64 0, .int .i64 1, .int .i64 2, .int .i64 2, .int .i64 1, .int .i64 3, .int .i64 1]
def FW : Array Value := #[.bool false, .bool true, .bool true, .bool false, .bool false, .bool true, .bool false]
def WW : Array Value := #[.string ⟨#[]⟩, .string ⟨#[111, 102, 102, 101, 114]⟩, .string ⟨#[98, 108, 111, 99, 107]⟩, .string ⟨#[112, 108, 97, 110]⟩, .string ⟨#[102, 114, 101, 101]⟩, .string ⟨#[116, 117, 114, 110]⟩, .string ⟨#[119, 97, 105, 116]⟩]

theorem run_WW (W : World) : (Instr.buildSlice 155 7 (#[(0, .string ⟨#[]⟩), (1, .string ⟨#[111, 102, 102, 101, 114]⟩), (2, .string ⟨#[98, 108, 111, 99, 107]⟩), (3, .string ⟨#[112, 108, 97, 110]⟩), (4, .string ⟨#[102, 114, 101, 101]⟩), (5, .string ⟨#[116, 117, 114, 110]⟩), (6, .string ⟨#[119, 97, 105, 116]⟩)])).run Try.prog W = .ok (.slice (some ⟨W.heap.size, 0, none⟩) 7 7) (W.alloc (.cells WW 9)) := by kernel_rfl
theorem run_IW (W : World) : (Instr.buildSlice 156 7 (#[(0, .int .i64 0), (1, .int .i64 1), (2, .int .i64 2), (3, .int .i64 2), (4, .int .i64 1), (5, .int .i64 3), (6, .int .i64 1)])).run Try.prog W = .ok (.slice (some ⟨W.heap.size, 0, none⟩) 7 7) (W.alloc (.cells IW 3)) := by kernel_rfl
theorem run_FW (W : World) : (Instr.buildSlice 145 7 (#[(0, .bool false), (1, .bool true), (2, .bool true), (3, .bool false), (4, .bool false), (5, .bool true), (6, .bool false)])).run Try.prog W = .ok (.slice (some ⟨W.heap.size, 0, none⟩) 7 7) (W.alloc (.cells FW 4)) := by kernel_rfl

theorem wpList_bslice {P : Program} {w w' : World} {ops : Array Oper} {rest : List Oper} {o : Oper} {a : Act} {Q : Exit → Act → World → Prop} (hg : o.guard = none) (t : TypeId) (len : Nat) (parts : Array (Nat × Operand)) (ho : o.op = .buildSlice t len parts)
    (ps : Array (Nat × Value)) (hps : (parts.map fun (i, x) => (i, a.eval x)) = ps) (v : Value) (hrun : (Instr.buildSlice t len ps).run P w = .ok v w') (h : wpList P ops Q rest (a.put o.dst v) w') : wpList P ops Q (o :: rest) a w := by
  refine wpList_plain hg fun K hK' => ?_
  unfold Oper.wp execOp
  simp only [ho, hps, Sem.run_bind, hrun, Sem.run_pure, Result.andThen_ok]
  exact hK' _ _ h
theorem is_bslice {P : Program} {w : World} {ops : Array Oper} {rest : List Oper} {o : Oper} {a : Act} {Q : Exit → Act → World → Prop} (t : TypeId) (len : Nat) (parts : Array (Nat × Operand)) (_ho : o.op = .buildSlice t len parts) (h : wpList P ops Q (o :: rest) a w) : wpList P ops Q (o :: rest) a w := h

theorem l06Words_any (w : World) :
    Calls Try.prog 90 #[] w fun e w' => (∃ g1 g2 g3, e = .returned (.tuple #[.slice (some ⟨g1, 0, none⟩) 7 7, .slice (some ⟨g2, 0, none⟩) 7 7, .slice (some ⟨g3, 0, none⟩) 7 7]) ∧ At w' g2 IW 3 ∧ At w' g3 FW 4) ∧ Below w.heap.size w w' := by
  have A2 := (At.last1 w (.cells (#[.string ⟨#[]⟩, .string ⟨#[111, 102, 102, 101, 114]⟩, .string ⟨#[98, 108, 111, 99, 107]⟩, .string ⟨#[112, 108, 97, 110]⟩, .string ⟨#[102, 114, 101, 101]⟩, .string ⟨#[116, 117, 114, 110]⟩, .string ⟨#[119, 97, 105, 116]⟩]) 9) (#[.int .i64 0, .int .i64 1, .int .i64 2, .int .i64 2, .int .i64 1, .int .i64 3, .int .i64 1]) 3).alloc (.cells (#[.bool false, .bool true, .bool true, .bool false, .bool false, .bool true, .bool false]) 4)
  have A3 := At.new ((w.alloc (.cells (#[.string ⟨#[]⟩, .string ⟨#[111, 102, 102, 101, 114]⟩, .string ⟨#[98, 108, 111, 99, 107]⟩, .string ⟨#[112, 108, 97, 110]⟩, .string ⟨#[102, 114, 101, 101]⟩, .string ⟨#[116, 117, 114, 110]⟩, .string ⟨#[119, 97, 105, 116]⟩]) 9)).alloc (.cells (#[.int .i64 0, .int .i64 1, .int .i64 2, .int .i64 2, .int .i64 1, .int .i64 3, .int .i64 1]) 3)) (#[.bool false, .bool true, .bool true, .bool false, .bool false, .bool true, .bool false]) 4
  rw [World.size_alloc, World.size_alloc] at A3
  have B0 := Lib.hid (bnew (bnew (b0 w (.cells (#[.string ⟨#[]⟩, .string ⟨#[111, 102, 102, 101, 114]⟩, .string ⟨#[98, 108, 111, 99, 107]⟩, .string ⟨#[112, 108, 97, 110]⟩, .string ⟨#[102, 114, 101, 101]⟩, .string ⟨#[116, 117, 114, 110]⟩, .string ⟨#[119, 97, 105, 116]⟩]) 9)) (.cells (#[.int .i64 0, .int .i64 1, .int .i64 2, .int .i64 2, .int .i64 1, .int .i64 3, .int .i64 1]) 3)) (.cells (#[.bool false, .bool true, .bool true, .bool false, .bool false, .bool true, .bool false]) 4))
  go_enter Try.func90, Try.ntmps90
  go_wp2_with (first | ((with_reducible refine is_bslice 155 7 _ rfl ?_); refine wpList_bslice rfl 155 7 _ rfl (#[(0, .string ⟨#[]⟩), (1, .string ⟨#[111, 102, 102, 101, 114]⟩), (2, .string ⟨#[98, 108, 111, 99, 107]⟩), (3, .string ⟨#[112, 108, 97, 110]⟩), (4, .string ⟨#[102, 114, 101, 101]⟩), (5, .string ⟨#[116, 117, 114, 110]⟩), (6, .string ⟨#[119, 97, 105, 116]⟩)]) rfl _ (run_WW _) ?_) | ((with_reducible refine is_bslice 156 7 _ rfl ?_); refine wpList_bslice rfl 156 7 _ rfl (#[(0, .int .i64 0), (1, .int .i64 1), (2, .int .i64 2), (3, .int .i64 2), (4, .int .i64 1), (5, .int .i64 3), (6, .int .i64 1)]) rfl _ (run_IW _) ?_) | ((with_reducible refine is_bslice 145 7 _ rfl ?_); refine wpList_bslice rfl 145 7 _ rfl (#[(0, .bool false), (1, .bool true), (2, .bool true), (3, .bool false), (4, .bool false), (5, .bool true), (6, .bool false)]) rfl _ (run_FW _) ?_))
  (try simp only [Exit.inBlock, Exit.then])
  refine bodyPost_ret (results_three rfl _ _ _) rfl ?_
  exact ⟨⟨_, _, _, rfl, by unfold IW; exact A2, by unfold FW; exact A3⟩, B0.out⟩

theorem okA_in {h : Bool} {x : Int} (q : inB 0 999 x = true) : okA h x = (decide (x = 0) || h) := by unfold okA; rw [q]; rfl

theorem okA_out {h : Bool} {x : Int} (q : inB 0 999 x = false) : okA h x = false := by unfold okA; rw [q]; rfl

theorem okF_fin {h : Bool} {f : Nat} (hf : f < 4294967296) (q : finB f = true) (n : ¬ f = 2147483648) : okF h f = (nilW f || h) := by
  unfold okF
  have e := nilW_iff hf
  cases hz : nilW f
  · rw [if_neg (by simp), q]; rfl
  · rw [hz] at e
    have : f = 0 := by have := of_decide_eq_true e.symm; omega
    subst this
    rfl

theorem okF_inf {h : Bool} {f : Nat} (hf : f < 4294967296) (q : finB f = false) : okF h f = false := by
  unfold okF
  have e := nilW_iff hf
  have hz : nilW f = false := by
    rw [e]
    refine decide_eq_false ?_
    rintro (rfl | rfl) <;> exact absurd q (by decide)
  rw [hz, if_neg (by simp), q]; rfl

theorem okF_neg {h : Bool} : okF h 2147483648 = false := by unfold okF; rw [show nilW 2147483648 = true from by decide]; rfl

section
variable {k a b c : Int} {f : Nat}
theorem vVA_0 (q : inB 1 6 k = false) : vVA k a b c f = false := by unfold vVA; rw [q]; rfl
theorem vVA_1 (q : inB 0 999 a = false) : vVA k a b c f = false := by unfold vVA; rw [okA_out q, Bool.false_and, Bool.and_false]
theorem vVA_2 (q : inB 0 999 b = false) : vVA k a b c f = false := by unfold vVA; rw [okA_out (h := hasB k) q, Bool.false_and, Bool.and_false, Bool.and_false]
theorem vVA_3 (q : inB 0 999 c = false) : vVA k a b c f = false := by unfold vVA; rw [okA_out (h := hasC k) q, Bool.false_and, Bool.and_false, Bool.and_false, Bool.and_false]
theorem vVA_4 (q : okF (hasF k) f = false) : vVA k a b c f = false := by unfold vVA; rw [q, Bool.and_false, Bool.and_false, Bool.and_false, Bool.and_false]
theorem vVA_5 (qk : inB 1 6 k = true) (qa : inB 0 999 a = true) (qb : inB 0 999 b = true) (qc : inB 0 999 c = true) (hf : f < 4294967296) (q : finB f = true) (n : ¬ f = 2147483648) :
    vVA k a b c f = ((decide (b = 0) || hasB k) && ((decide (c = 0) || hasC k) && (nilW f || hasF k))) := by
  unfold vVA
  rw [qk, okA_in qa, okA_in qb, okA_in qc, okF_fin hf q n]
  simp
end

end Go.Proofs.Ytboahhipobcabaa
