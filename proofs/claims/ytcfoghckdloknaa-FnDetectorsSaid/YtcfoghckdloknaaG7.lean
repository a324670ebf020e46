/-
  SEVERAL TEXTS IN ONE.
-/
import Derived.Test.YtcfoghckdloknaaDetF
import Derived.Test.YtcfoghckdloknaaWatchV
import Derived.Test.YtcfoghckdloknaaSameDS
import Derived.Test.YtcfoghckdloknaaReadL
import Derived.Laws.StructEq
import Derived.WalkKit

/-
  NUMBERS: a detector behind so many steps on one road; what is read off it.
  No Go text in it. Conditions: those of each theorem.
-/
namespace Go.Proofs.Ytcfoghckdloknaa
open Go Go.RowKit
set_option maxRecDepth 100000

theorem amt_b {x : Nat} (h : x < 2139095040) : amtB x = true := decide_eq_true h

theorem det_ok {cn k x cc : Nat} (hcn : cn < 15) (hx : x ≤ 1090519040) (hcc : cc ≤ 1065353216) (hk : k ≤ 20) : okD (cn : Int) (yC x k) ((cC x k : Nat) : Int) (sC cc k) ((k : Nat) : Int) = true := by
  obtain ⟨-, -, h3, h4⟩ := cC_near hx k hk
  obtain ⟨-, -, f3⟩ := sC_near (x := cc) (by omega) k hk
  exact okD_yes (decide_eq_true (by omega)) (amt_b (by omega)) h3 (by omega) (amt_b (by omega)) (decide_eq_true (by omega))

theorem det_step {cn k x cc : Nat} {cs : List Nat} {p b l : Nat} (hok : okB cs p b l = true) (hcn : cn < 15) (hx8 : x ≤ 1090519040) (hcc1 : cc ≤ 1065353216) (hx : x = mulB (flowW p b cs cn) l) (hcc : cc = nth cs cn) (hk : k < 20) :
    vWR (cn : Int) (yC x k) ((cC x k : Nat) : Int) (sC cc k) ((k : Nat) : Int) cs p b l = ((cn : Int), yC x (k + 1), ((cC x (k + 1) : Nat) : Int), sC cc (k + 1), ((k : Nat) : Int) + 1, 0) := by
  rw [vWR_0 (by rw [det_ok hcn hx8 hcc1 (by omega), hok]; rfl) (by omega), Int.toNat_natCast, Int.toNat_natCast, ← hx, ← hcc]
  rfl

theorem sameB_self {y : Nat} (h : y < 2139095040) : sameB y y = true := by
  have hn : nanB y = false := (nan_le (x := y) (c := 2139095040) (by omega) (by omega)).2
  unfold sameB
  rw [hn]
  simp

theorem sameD_self (c : Int) {y : Nat} (n : Int) {f : Nat} (t : Int) (hy : y < 2139095040) (hf : f < 2139095040) : sameD c y n f t c y n f t = true :=
  sameD_yes rfl (sameB_self hy) rfl (sameB_self hf) rfl

theorem det_read {cn n x cc : Nat} (hcn : cn < 15) (hx : x ≤ 1090519040) (hcc : cc ≤ 1065353216) (hn : n ≤ 20) : vRead (cn : Int) (yC x n) ((cC x n : Nat) : Int) (sC cc n) ((n : Nat) : Int) ((n : Nat) : Int) = (((n : Nat) : Int), ((cC x n : Nat) : Int), fullD (sC cc n) ((n : Nat) : Int), (cn : Int), yC x n, 0) :=
  vRead_0 (det_ok hcn hx hcc hn) (decide_eq_true (by omega))

end Go.Proofs.Ytcfoghckdloknaa

/-
  TALLIES HELD AGAINST EACH OTHER by the language's own word.
-/
namespace Go.Proofs.Ytcfoghckdloknaa
open Go Go.ChangeShapes Go.WideShapes Go.ChangeAt Go.RowKit
set_option maxRecDepth 100000

theorem run_part_t (w : World) (ty : TypeId) (c : Array Value) (k : Nat) (v : Value) (d : TypeDesc) (hu : Try.prog.underlying ty = some d) (hd : (match d with | .struct _ | .array _ _ => true | _ => false) = false) (hv : c[k]? = some v) : (part ty c k).run Try.prog w = .ok v w := by
  have hagg : (isAgg ty).run Try.prog w = .ok false w := by
    unfold isAgg
    rw [Sem.run_bind, run_underlying hu w]
    cases d <;> simp_all
  simp [part, Sem.run_bind, hagg, hv]

theorem run_eq_tally (w : World) (t c f : Int) : (Op.equalIn 10000 42 (.agg (t1 t c f)) (.agg (t1 t c f))).run Try.prog w = .ok true w := by
  have ht : Try.prog.underlying 42 = some (.struct (Try.prog.fieldsOf 42)) := by kernel_rfl
  have hp : Try.prog.stoodInHeld 42 = false := by kernel_rfl
  rw [show (10000 : Nat) = 9999 + 1 from rfl, run_equalIn_struct w 9999 42 _ _ ht hp]
  have hf : (Try.prog.fieldsOf 42).toList.map (fun f => (f.name, f.type, f.offset)) = [("Turn", 2, 0), ("Count", 31, 1), ("Full", 31, 2)] := by kernel_rfl
  generalize (Try.prog.fieldsOf 42).toList = L at hf ⊢
  obtain _ | ⟨f1, _ | ⟨f2, _ | ⟨f3, _ | ⟨f4, L⟩⟩⟩⟩ := L
  · simp at hf
  · simp at hf
  · simp at hf
  rotate_left
  · simp at hf
  simp only [List.map_cons, List.map_nil, List.cons.injEq, Prod.mk.injEq, and_true] at hf
  obtain ⟨⟨n1', q1, o1⟩, ⟨n2', q2, o2⟩, n3', q3, o3⟩ := hf
  have n1 : f1.name ≠ "_" := by rw [n1']; decide
  have n2 : f2.name ≠ "_" := by rw [n2']; decide
  have n3 : f3.name ≠ "_" := by rw [n3']; decide
  have E1 : (Op.equalIn 9999 2 (.int .i64 t) (.int .i64 t)).run Try.prog w = .ok (t == t) w := run_equalIn_int w 9998 2 .i64 .i64 t t Try.underlying2
  have E2 : ∀ x : Int, (Op.equalIn 9999 31 (.int .i16 x) (.int .i16 x)).run Try.prog w = .ok (x == x) w := fun x => run_equalIn_int w 9998 31 .i16 .i16 x x Try.underlying31
  have p1 := run_part_t w 2 (t1 t c f) 0 _ _ Try.underlying2 rfl (t1_0 t c f)
  have p2 := run_part_t w 31 (t1 t c f) 1 _ _ Try.underlying31 rfl (t1_1 t c f)
  have p3 := run_part_t w 31 (t1 t c f) 2 _ _ Try.underlying31 rfl (t1_2 t c f)
  simp [Op.eqFields, n1, n2, n3, q1, q2, q3, o1, o2, o3, Sem.run_bind, Sem.run_ite, p1, p2, p3, Result.andThen_ok, E1, E2]

theorem run_neq_tally (w : World) (t c f : Int) : (binOp .neq 42 (.agg (t1 t c f)) (.agg (t1 t c f))).run Try.prog w = .ok (.bool false) w := by
  rw [run_neq_struct, run_eq_tally]; rfl

theorem q_neqT {P : Program} {C : World → Prop} {o : Oper} {a : Act} {K : Act → Prop} (ty : TypeId) (x y : Operand) {T : TypeId} (ho : o.op = .binOp .neq ty x y T) (c1 c2 : Array Value) (h1 : a.eval x = .agg c1) (h2 : a.eval y = .agg c2) (hm : P.eqGuardType P.depth ty = false) (v : Value) (hrun : ∀ w, (binOp .neq ty (.agg c1) (.agg c2)).run P w = .ok v w) (hK : K (a.put o.dst v)) : o.quiet P a C K := by
  refine ⟨v, fun w hw => ?_, hK⟩
  have hg := run_eqGuard_agg w .neq ty x y c1 c2 hm
  unfold Oper.quietAt execOp
  simp only [ho, h1, h2, Sem.run_bind, hg, hrun w, Sem.run_pure, Result.andThen_ok]
  exact ⟨rfl, rfl⟩

end Go.Proofs.Ytcfoghckdloknaa
