/-
  CONTRACTS: tallies held against each other, as the model does it; lists that are nil.
-/
import Derived.Test.YtejbaoakpkpciaaOwnT
import Derived.Test.YtejbaoakpkpciaaG12
import Derived.Test.YtejbaoakpkpciaaToTls
import Derived.Laws.StructEq
namespace Go.Proofs.Ytejbaoakpkpciaa
open Go Go.ChangeShapes Go.WideShapes Go.ChangeAt Go.RowKit
set_option maxRecDepth 100000

theorem run_part_t (w : World) (ty : TypeId) (c : Array Value) (k : Nat) (v : Value) (d : TypeDesc) (hu : Try.prog.underlying ty = some d) (hd : (match d with | .struct _ | .array _ _ => true | _ => false) = false) (hv : c[k]? = some v) : (part ty c k).run Try.prog w = .ok v w := by
  have hagg : (isAgg ty).run Try.prog w = .ok false w := by
    unfold isAgg
    rw [Sem.run_bind, run_underlying hu w]
    cases d <;> simp_all
  simp [part, Sem.run_bind, hagg, hv]

theorem run_eq_tally (w : World) (t c f : Int) : (Op.equalIn 10000 32 (.agg (t1 t c f)) (.agg (t1 t c f))).run Try.prog w = .ok true w := by
  have ht : Try.prog.underlying 32 = some (.struct (Try.prog.fieldsOf 32)) := by kernel_rfl
  have hp : Try.prog.stoodInHeld 32 = false := by kernel_rfl
  rw [show (10000 : Nat) = 9999 + 1 from rfl, run_equalIn_struct w 9999 32 _ _ ht hp]
  have hf : (Try.prog.fieldsOf 32).toList.map (fun f => (f.name, f.type, f.offset)) = [("Turn", 2, 0), ("Count", 30, 1), ("Full", 30, 2)] := by kernel_rfl
  generalize (Try.prog.fieldsOf 32).toList = L at hf ⊢
  obtain _ | ⟨f1, _ | ⟨f2, _ | ⟨f3, _ | ⟨f4, L⟩⟩⟩⟩ := L
  · simp at hf
  · simp at hf
  · simp at hf
  rotate_left
  · simp at hf
  simp only [List.map_cons, List.map_nil, List.cons.injEq, Prod.mk.injEq, and_true] at hf
  obtain ⟨⟨n1', q1, o1⟩, ⟨n2', q2, o2⟩, n3', q3, o3⟩ := hf
  have n1 : f1.name ≠ "_" := by rw [n1']; decide
  have n2 : f2.name ≠ "_" := by rw [n2']; decide
  have n3 : f3.name ≠ "_" := by rw [n3']; decide
  have E1 : (Op.equalIn 9999 2 (.int .i64 t) (.int .i64 t)).run Try.prog w = .ok (t == t) w := run_equalIn_int w 9998 2 .i64 .i64 t t Try.underlying2
  have E2 : ∀ x : Int, (Op.equalIn 9999 30 (.int .i16 x) (.int .i16 x)).run Try.prog w = .ok (x == x) w := fun x => run_equalIn_int w 9998 30 .i16 .i16 x x Try.underlying30
  have p1 := run_part_t w 2 (t1 t c f) 0 _ _ Try.underlying2 rfl (t1_0 t c f)
  have p2 := run_part_t w 30 (t1 t c f) 1 _ _ Try.underlying30 rfl (t1_1 t c f)
  have p3 := run_part_t w 30 (t1 t c f) 2 _ _ Try.underlying30 rfl (t1_2 t c f)
  simp [Op.eqFields, n1, n2, n3, q1, q2, q3, o1, o2, o3, Sem.run_bind, Sem.run_ite, p1, p2, p3, Result.andThen_ok, E1, E2]

theorem run_neq_tally (w : World) (t c f : Int) : (binOp .neq 32 (.agg (t1 t c f)) (.agg (t1 t c f))).run Try.prog w = .ok (.bool false) w := by
  rw [run_neq_struct, run_eq_tally]; rfl

theorem q_neqT {P : Program} {C : World → Prop} {o : Oper} {a : Act} {K : Act → Prop} (ty : TypeId) (x y : Operand) {T : TypeId} (ho : o.op = .binOp .neq ty x y T) (c1 c2 : Array Value) (h1 : a.eval x = .agg c1) (h2 : a.eval y = .agg c2) (hm : P.eqGuardType P.depth ty = false) (v : Value) (hrun : ∀ w, (binOp .neq ty (.agg c1) (.agg c2)).run P w = .ok v w) (hK : K (a.put o.dst v)) : o.quiet P a C K := by
  refine ⟨v, fun w hw => ?_, hK⟩
  have hg := run_eqGuard_agg w .neq ty x y c1 c2 hm
  unfold Oper.quietAt execOp
  simp only [ho, h1, h2, Sem.run_bind, hg, hrun w, Sem.run_pure, Result.andThen_ok]
  exact ⟨rfl, rfl⟩

theorem sSameTallies_st (v1 v2 : Value) (xs : Ts) (hn : xs.length ≤ 1048576) (w : World) (h1 : STl w v1 xs) (h2 : STl w v2 xs) :
    Calls Try.prog 14 #[v1, v2] w fun e w' => e = .returned (.bool true) ∧ Below w.heap.size w w' := by
  have fr : ∀ {v : Value}, STl w v xs → xs.length ≠ 0 → ∃ g off cap, v = .slice (some ⟨g, off, none⟩) xs.length cap ∧ ∀ k, k < xs.length → ∀ w', Below w.heap.size w w' → (Instr.loadAt 32 (.pointer (some ⟨g, off + k * 3, none⟩))).run Try.prog w' = .ok (.agg (t1 (tn xs k) (tc xs k) (tf xs k))) w' := by
    intro v h hz
    rcases h.val with ⟨rfl, -⟩ | ⟨g, off, cap, rfl, hg, hc⟩
    · exact absurd rfl hz
    · refine ⟨g, off, cap, rfl, fun k hk w' hb => run_loadAt_cells (P := Try.prog) w' g (off + k * 3) 3 32 (t1 (tn xs k) (tc xs k) (tf xs k)) _ (t1_size _ _ _) Try.underlying32 rfl (by kernel_rfl) (fun j hj => ?_)⟩
      rw [← hc k hk j hj]
      unfold World.cell?
      rw [hb.block g hg]
  by_cases z : xs.length = 0
  · obtain ⟨a1, c1, rfl⟩ := h1.any
    obtain ⟨a2, c2, rfl⟩ := h2.any
    rw [z]
    clear fr h1 h2
    go_enter Try.func14, Try.ntmps14
    go_wp2
    go_loopw [5] (fun i wr => i = .int .i64 0 ∧ wr = w) (fun _ _ => 0)
    case atStart => exact ⟨rfl, rfl⟩
    case round =>
      obtain ⟨rfl, rfl⟩ := hrel
      go_wp2
      go_ret
      exact ⟨rfl, Below.refl _ _⟩
  · obtain ⟨g1, off1, cap1, rfl, L1⟩ := fr h1 z
    obtain ⟨g2, off2, cap2, rfl, L2⟩ := fr h2 z
    have HL := Lib.hid (And.intro L1 L2)
    clear fr h1 h2 L1 L2
    obtain ⟨n, hnn⟩ : ∃ n, n = xs.length := ⟨_, rfl⟩
    rw [← hnn] at hn z ⊢
    have HN := Lib.hid hnn
    clear hnn
    go_enter Try.func14, Try.ntmps14
    go_wp2
    go_loopw [5] (fun i wr => ∃ k : Nat, k ≤ n ∧ i = .int .i64 (k : Int) ∧ Hid (Below w.heap.size w wr)) (fun i _ => n - (intOf i).toNat)
    case atStart => exact ⟨0, by omega, rfl, Lib.hid (Below.refl _ _)⟩
    case round =>
      obtain ⟨k, hk, rfl, B1⟩ := hrel
      by_cases hlt : k < n
      · have s2 : IntKind.i64.wrap ((k : Int) + 1) = (k : Int) + 1 := IntWalk.i64_in _ (by omega)
        have kd : (k : Int) < (n : Int) := by omega
        have hkl : k < xs.length := by rw [← HN.out]; exact hlt
        have hC := Cb.const wr
        have M1 := Lib.hid (HL.out.1 k hkl)
        have M2 := Lib.hid (HL.out.2 k hkl)
        clear hkl
        go_wp2
        refine wp_region_cb (by kernel_rfl) (by kernel_rfl) ?_
        repeat (first
          | go_big_quiet_skip
          | (go_big_quiet_want; first
            | (refine q_load 32 _ rfl ⟨g1, off1 + k * 3, none⟩ rfl (.agg (t1 (tn xs k) (tc xs k) (tf xs k))) (fun w' hw' => M1.out w' (bthen B1.out hw')) ?_; go_simp; go_big_quiet_on)
            | (refine q_load 32 _ rfl ⟨g2, off2 + k * 3, none⟩ rfl (.agg (t1 (tn xs k) (tc xs k) (tf xs k))) (fun w' hw' => M2.out w' (bthen B1.out hw')) ?_; go_simp; go_big_quiet_on)
            | (refine q_neqT 32 _ _ rfl (t1 (tn xs k) (tc xs k) (tf xs k)) (t1 (tn xs k) (tc xs k) (tf xs k)) rfl rfl (by kernel_rfl) _ (fun w => run_neq_tally w _ _ _) ?_; go_simp; go_big_quiet_on)
            | (go_big_quiet_op; go_big_quiet_on)))
        refine wpQuiet_nil ?_
        intro w2 hw2
        have B2 := Lib.hid (bthen B1.out hw2)
        clear M1 M2 hC B1 hw2
        go_wp2
        exact ⟨⟨k + 1, by omega, by go_num, B2⟩, by simp [intOf]; omega⟩
      · obtain rfl : n = k := by omega
        go_wp2
        go_ret
        exact ⟨rfl, B1.out⟩
theorem ValidTallies_nil (w : World) : Calls Try.prog 18 #[.slice none 0 0] w fun e w' => e = .returned (.bool true) ∧ w' = w := by
  go_enter Try.func18, Try.ntmps18
  go_wp2
  go_loopw [10] (fun i wr => i = .int .i64 0 ∧ wr = w) (fun _ _ => 0)
  case atStart => exact ⟨rfl, rfl⟩
  case round =>
    obtain ⟨rfl, rfl⟩ := hrel
    go_wp2
    go_ret
    exact ⟨rfl, by trivial⟩

theorem WithoutWrong_nil (m : Int) (hm : 0 ≤ m) (w : World) : Calls Try.prog 11 #[.slice none 0 0, .int .i16 m] w fun e w' => (∃ v, e = .returned (.tuple #[v, .int .i64 0]) ∧ OwnT w' w.heap.size v []) ∧ Below w.heap.size w w' := by
  have hm' : ¬ m < 0 := by omega
  go_enter Try.func11, Try.ntmps11
  go_wp2_with fail
  refine (ValidTallies_nil w).mono ?_
  rintro e w1 ⟨rfl, rfl⟩
  go_wp2_with fail
  go_loopw [6, 16] (fun l i wr => l = .slice none 0 0 ∧ i = .int .i64 0 ∧ wr = w1) (fun _ _ _ => 0)
  case atStart => exact ⟨rfl, rfl, rfl⟩
  case round =>
    obtain ⟨rfl, rfl, rfl⟩ := hrel
    go_wp2_with fail
    go_ret2
    exact ⟨⟨_, rfl, OwnT.nil _ _⟩, Below.refl _ _⟩

end Go.Proofs.Ytejbaoakpkpciaa
